/- EqualSumBox of both sides. -/
import Derived.Test.YtggodllfaggjiabEqr
namespace Go.Proofs.Ytggodllfaggjiab.eqm
open Go.RowKit Go.Deep Go.Proofs.Ytggodllfaggjiab.base
open Go.Proofs.Ytggodllfaggjiab.ints (ret_int infoInt infoInts)
open Go.Proofs.Ytggodllfaggjiab.rws (total)
open Go.Proofs.Ytggodllfaggjiab.val (okSizes okBox)

open Classical in
noncomputable def res (k : Int) : make.Res := if 0 ≤ k ∧ k ≤ 7 then ⟨2, 2, 2, make.rowsOf (eqs.N k.toNat) 4, true⟩ else make.Res.zero
theorem res_yes {k : Nat} (h : k < 8) : res (k : Int) = ⟨2, 2, 2, make.rowsOf (eqs.N k) 4, true⟩ := if_pos (by omega)
theorem res_no {k : Int} (h : ¬ (0 ≤ k ∧ k ≤ 7)) : res k = make.Res.zero := if_neg h
theorem tot (k : Int) : total (res k).rows ≤ 1048576 := by
  by_cases h : 0 ≤ k ∧ k ≤ 7
  · rw [show res k = ⟨2, 2, 2, make.rowsOf (eqs.N k.toNat) 4, true⟩ from if_pos h]; exact make.total_rowsOf _ _ (by omega)
  · rw [res_no h]; exact Nat.zero_le _
theorem ok (k : Nat) : okBox 2 2 2 (make.rowsOf (eqs.N k) 4) :=
  make.ok_rowsOf (x := 2) (y := 2) ⟨by omega, by omega⟩ (by omega) (fun r _ => by
    have h := eqs.odd_lt k r
    refine make.okRow_quad (fun j hj => ?_) ?_
    · unfold eqs.N; split <;> omega
    · show eqs.N k r 0 + eqs.N k r 1 + eqs.N k r 2 + eqs.N k r 3 = 2
      simp only [eqs.N]; simp; omega)


set_option maxRecDepth 100000 in
set_option maxHeartbeats 8000000 in
theorem l6sum (k : Nat) (hk : k < 8) (w : World) :
    Calls Try.prog 95 #[.int .i64 (k : Int)] w fun e w' => ∃ r, e = .returned (.agg #[.int .i64 2, .int .i64 2, .int .i64 2, r]) ∧ OwnRows w' (w.heap.size + 1) w'.heap.size r (make.rowsOf (eqs.N k) 4) ∧ Below w.heap.size w w' := by
  obtain ⟨i0, hi, hz0, hz1, hz2⟩ := info_parts infoInts
  have HW0 : Hid (make.Way w (((w.alloc (.cells #[.int .i64 0, .int .i64 0, .int .i64 0, .slice none 0 0] 54)).alloc (.cells #[] 29)).alloc (.cells #[.int .i64 2, .int .i64 2, .int .i64 2, .slice (some ⟨w.heap.size + 1, 0, none⟩) 0 0] 54)) (w.heap.size + 1 + 1) 2 2 2 (0 * 2) (.slice (some ⟨w.heap.size + 1, 0, none⟩) 0 0) [] (eqs.N k)) := Lib.hid (by
    refine ⟨below_al (below_al (below_al (Below.refl _ _) _) _) _, by omega, ?_, ?_, ?_, fun r u hu => by simp at hu, fun r s g g' _ hu => by simp at hu⟩
    · have := Blk.new ((w.alloc (.cells #[.int .i64 0, .int .i64 0, .int .i64 0, .slice none 0 0] 54)).alloc (.cells #[] 29)) 54 #[.int .i64 2, .int .i64 2, .int .i64 2, .slice (some ⟨w.heap.size + 1, 0, none⟩) 0 0]
      simpa using this
    · exact ((Blk.new w 54 #[.int .i64 0, .int .i64 0, .int .i64 0, .slice none 0 0]).alloc _).alloc _
    · have := World.ownsRow_made (base := w.heap.size + 1) (e := 29) (size := 1) (w.alloc (.cells #[.int .i64 0, .int .i64 0, .int .i64 0, .slice none 0 0] 54)) #[] 0 (by simp) (Nat.zero_le _) rfl
      have := this.alloc (.cells #[.int .i64 2, .int .i64 2, .int .i64 2, .slice (some ⟨w.heap.size + 1, 0, none⟩) 0 0] 54)
      simpa using this)
  have HK := Lib.hid hk
  clear hk
  go_enter Try.func95, Try.ntmps95
  go_wp2_with fail
  go_loopw [4, 5, 6] (fun i _ _ wr => ∃ a : Nat, a ≤ 2 ∧ i = .int .i64 a ∧ ∃ v vals, Hid (make.Way w wr (w.heap.size + 1 + 1) 2 2 2 (a * 2) v vals (eqs.N k))) (fun i _ _ _ => 2 - (intOf i).toNat)
  case atStart => exact ⟨0, Nat.zero_le _, rfl, _, _, HW0⟩
  case round =>
    obtain ⟨a, ha, rfl, v, vals, hW⟩ := hrel
    clear HW0
    obtain ⟨wo, rfl⟩ : ∃ wo : World, wo = wr := ⟨_, rfl⟩
    by_cases hlt : a < 2
    · have hkz : (a : Int) < 2 := by omega
      go_wp2_with fail
      go_loopw [5, 6] (fun j _ wi => ∃ c : Nat, c ≤ 2 ∧ j = .int .i64 c ∧ ∃ v vals, Hid (make.Way w wi (w.heap.size + 1 + 1) 2 2 2 (a * 2 + c) v vals (eqs.N k))) (fun j _ _ => 2 - (intOf j).toNat)
      case atStart => exact ⟨0, Nat.zero_le _, rfl, _, _, hW⟩
      case round =>
        obtain ⟨c, hcl, rfl, v, vals, hW⟩ := hrel
        by_cases hlc : c < 2
        · have hkc : (c : Int) < 2 := by omega
          have hco := fun W => eqs.l6odd k a c W HK.out hlt hlc
          have ho := eqs.odd_lt k (2 * a + c)
          have e2 : 2 * a + c = a * 2 + c := by omega
          rw [e2] at hco ho
          have e0 : ∀ j, eqs.N k (a * 2 + c) j = if j = 0 ∨ j = 3 then 1 - (eqs.odd k (a * 2 + c) : Int) else (eqs.odd k (a * 2 + c) : Int) := fun _ => rfl
          obtain ⟨d, hd⟩ : ∃ d : Int, (eqs.odd k (a * 2 + c) : Int) = d := ⟨_, rfl⟩
          have d0 : 0 ≤ d := by omega
          have d1 : d ≤ 1 := by omega
          rw [hd] at hco e0
          have HN := Lib.hid e0
          have HO := Lib.hid hco
          have hk9 : a * 2 + c < 9 := by omega
          have HK9 := Lib.hid hk9
          clear hk9 e0 hco hd e2 ho
          obtain ⟨c0, c1, c2, c3, c4⟩ := four_cells hW.out.blk
          go_wp2_with fail
          refine (HO.out _).mono ?_
          rintro e w' ⟨rfl, rfl⟩
          have c3' := fun (o1 : Obj) => below_cell (below_al (Below.refl _ _) o1) _ _ c3
          have hsz := hW.out.below.size
          have hsb := hW.out.blk.lt
          have c5 : w.heap.size + 1 + 1 < wr.heap.size + 1 := by omega
          go_wp2_with (at_builtin; go_must (refine wpList_append_own _ rfl (.tmp 22) (.tmp 30) 22 rfl (w.heap.size + 1) 29 i0 (.slice none 0 0) 1 24 Try.underlying22 hi hz0 hz1 hz2 rfl (by decide) _ _ _ rfl (((hW.out.keep (below_al (Below.refl _ _) _)).owns).alloc _) ⟨wr.heap.size + 1, 0, none⟩ 1 1 [.slice (some ⟨wr.heap.size, 0, none⟩) 4 4] rfl rfl ?c1 ?c2 ?c3 ?c4 ?c5 ?_))
          case c1 =>
            have := app.one_at (wr.alloc (.cells #[.int .i64 (1 - d), .int .i64 d, .int .i64 d, .int .i64 (1 - d)] 3)) (.slice (some ⟨wr.heap.size, 0, none⟩) 4 4) 29
            simpa using this
          case c2 => intro u hu; simp at hu; subst hu; rfl
          case c3 => have := HK9.out; unfold maxLen; omega
          case c4 => have := HK9.out; omega
          case c5 => simp; omega
          intro v' w3 hown' hgrow _
          have HG := Lib.hid ((hW.out.keep (below_al (Below.refl _ _) (.cells #[.int .i64 (1 - d), .int .i64 d, .int .i64 d, .int .i64 (1 - d)] 3))).keep (below_al (Below.refl _ _) (.cells #[.slice (some ⟨wr.heap.size, 0, none⟩) 4 4] 29)))
          have hri : (wr.alloc (.cells #[.int .i64 (1 - d), .int .i64 d, .int .i64 d, .int .i64 (1 - d)] 3)).rowIs wr.heap.size 3 4 (fun j => .int .i64 ((make.quad (eqs.N k) (a * 2 + c)).getD j 0)) := by
            have eN := HN.out
            refine ⟨#[.int .i64 (1 - d), .int .i64 d, .int .i64 d, .int .i64 (1 - d)], heap_alloc_new _ _, rfl, fun i hi => ?_⟩
            match i, hi with
            | 0, _ => simp [make.quad, eN]
            | 1, _ => simp [make.quad, eN]
            | 2, _ => simp [make.quad, eN]
            | 3, _ => simp [make.quad, eN]
          have HRR := Lib.hid (hri.alloc (.cells #[.slice (some ⟨wr.heap.size, 0, none⟩) 4 4] 29))
          have HFR : Hid (∀ (r g' : Nat), vals[r]? = some (Value.slice (some ⟨g', 0, none⟩) 4 4) → g' ≠ wr.heap.size) := Lib.hid (fun r g' hu => by
            obtain ⟨g, e, _, hr⟩ := hW.out.row r _ hu
            injection e with e; injection e with e; injection e with e
            have := hr.lt; omega)
          obtain ⟨f1, f2⟩ := HG.out.field hgrow
          have W4 := Lib.hid (HG.out.grow HRR.out (by omega) HFR.out hown' hgrow)
          obtain ⟨va, vl, vc, rfl⟩ := make.shape hown'
          clear hown' hgrow hW HG HRR HFR hri c0 c1 c2 c3 c4 c3' c5
          go_wp2_with fail
          go_roundw
          case rel => exact ⟨c + 1, by omega, by go_num, _, _, W4⟩
          case measure => simp [intOf]; omega
        · have hkc : ¬ (c : Int) < 2 := by omega
          have hcy : c = 2 := by omega
          have HWn : Hid (make.Way w wr (w.heap.size + 1 + 1) 2 2 2 ((a + 1) * 2) v vals (eqs.N k)) := Lib.hid (by have := hW.out; rw [hcy] at this; rw [Nat.add_mul, Nat.one_mul]; exact this)
          clear hcy
          go_wp2_with fail
          go_roundw
          case rel => exact ⟨a + 1, by omega, by go_num, v, vals, HWn⟩
          case measure => simp [intOf]; omega
    · have hkz : ¬ (a : Int) < 2 := by omega
      have haf : a = 2 := by omega
      have HWn : Hid (make.Way w wo (w.heap.size + 1 + 1) 2 2 2 4 v vals (eqs.N k)) := Lib.hid (by have := hW.out; rw [haf] at this; exact this)
      clear haf hW
      obtain ⟨va, vl, vc, rfl⟩ := make.shape HWn.out.owns
      obtain ⟨c0, c1, c2, c3, c4⟩ := four_cells HWn.out.blk
      obtain ⟨r0, r1, r2, r3, r4⟩ := four_cells HWn.out.res
      have rf : ∀ k, wo.frozen? ⟨w.heap.size, k, none⟩ = false := fun k => Joins.unfrozen_of_block HWn.out.res k
      have HD := Lib.hid HWn.out.done
      have HB := Lib.hid HWn.out.below
      clear HWn
      go_wp2_with fail
      refine bodyPost_ret (v := .agg #[.int .i64 2, .int .i64 2, .int .i64 2, .slice va vl vc]) (by simp [results, Try.results95, go_sem, r0, r1, r2, r3]) rfl ⟨_, rfl, ?_, ?_⟩
      · refine (HD.out.wrote (S := fun p => p.block < w.heap.size + 1) ?_ (fun p hp => .inl hp)).mono (Nat.le_refl _) (by simp [World.setCell])
        repeat (first | exact Wrote.refl _ _ | refine Wrote.setCell ?_ (by simp) _)
      · repeat (refine Below.setCell ?_ (by simp <;> omega) _)
        exact HB.out



def Z : Array Value := #[.int .i64 0, .int .i64 0, .int .i64 0, .slice none 0 0]



end Go.Proofs.Ytggodllfaggjiab.eqm
