/- ProductBox of the model. -/
import Derived.Test.YtkajebhagkbcaaaProd
namespace Go.Proofs.Ytkajebhagkbcaaa.prod
open Go.RowKit Go.Deep Go.Proofs.Ytkajebhagkbcaaa.base
open Go.Proofs.Ytkajebhagkbcaaa.ints (ret_int infoInt infoInts)
open Go.Proofs.Ytkajebhagkbcaaa.rws (total)
open Go.Proofs.Ytkajebhagkbcaaa.val (okSizes okBox)

set_option maxRecDepth 100000 in
set_option maxHeartbeats 4000000 in
theorem spec_any (v u : Value) (fs ss : List Int) (m : Int) (w : World) (h : Ints w v fs) (h' : Ints w u ss) (hn : fs.length ≤ 1048576) (hn' : ss.length ≤ 1048576) :
    Calls Try.prog 25 #[v, u, .int .i64 m] w fun e w' => ∃ r, e = .returned (.tuple #[.agg #[.int .i64 (res fs ss m).x, .int .i64 (res fs ss m).y, .int .i64 (res fs ss m).wh, r], .bool (res fs ss m).ok]) ∧ IRows w' r (res fs ss m).rows ∧ Below w.heap.size w w' := by
  obtain ⟨i0, hi, hz0, hz1, hz2⟩ := info_parts infoInts
  have hf := h.form
  have hf' := h'.form
  have CF := Lib.hid (fun (W : World) (hW : Below w.heap.size w W) => chances v fs m W (h.below hW))
  have CS := Lib.hid (fun (W : World) (hW : Below w.heap.size w W) => chances u ss m W (h'.below hW))
  obtain ⟨A, b, o, cap, rfl, _, _, hA, hc⟩ := hf
  obtain ⟨A', b', o', cap', rfl, _, _, hA', hc'⟩ := hf'
  clear h h'
  have B0 := Lib.hid (below_al (Below.refl w.heap.size w) (.cells #[.int .i64 0, .int .i64 0, .int .i64 0, .slice none 0 0] 24))
  by_cases hm : 1 ≤ m ∧ m ≤ 31
  · obtain ⟨h1, h2⟩ := hm
    by_cases h3 : good fs m
    · have E3 := Lib.hid (goodB_yes h3)
      by_cases h4 : good ss m
      · have E4 := Lib.hid (goodB_yes h4)
        have hall : all fs ss m := ⟨⟨h1, h2⟩, h3, h4⟩
        have HE := Lib.hid (res_yes hall)
        have HALL := Lib.hid hall
        obtain ⟨q1, q2⟩ := sq_bd h1 h2
        have k5 : IntKind.i64.wrap (m * m) = m * m := IntWalk.i64_in _ (by omega)
        have hlf := h3.1
        have hls := h4.1
        have h9 := Lib.hid (len9 hall)
        have HFF := Lib.hid h3.2
        have HSS := Lib.hid h4.2
        have HW0 : Hid (make.Way w (((w.alloc (.cells #[.int .i64 0, .int .i64 0, .int .i64 0, .slice none 0 0] 24)).alloc (.cells #[] 30)).alloc (.cells #[.int .i64 (fs.length : Int), .int .i64 (ss.length : Int), .int .i64 (m * m), .slice (some ⟨w.heap.size + 1, 0, none⟩) 0 0] 24)) (w.heap.size + 1 + 1) fs.length ss.length (m * m) (0 * ss.length) (.slice (some ⟨w.heap.size + 1, 0, none⟩) 0 0) [] (N fs ss m)) := Lib.hid (by
          refine ⟨below_al (below_al (below_al (Below.refl _ _) _) _) _, by omega, ?_, ?_, ?_, fun r u hu => by simp at hu, fun r s g g' _ hu => by simp at hu⟩
          · have := Blk.new ((w.alloc (.cells #[.int .i64 0, .int .i64 0, .int .i64 0, .slice none 0 0] 24)).alloc (.cells #[] 30)) 24 #[.int .i64 (fs.length : Int), .int .i64 (ss.length : Int), .int .i64 (m * m), .slice (some ⟨w.heap.size + 1, 0, none⟩) 0 0]
            simpa using this
          · exact ((Blk.new w 24 #[.int .i64 0, .int .i64 0, .int .i64 0, .slice none 0 0]).alloc _).alloc _
          · have := World.ownsRow_made (base := w.heap.size + 1) (e := 30) (size := 1) (w.alloc (.cells #[.int .i64 0, .int .i64 0, .int .i64 0, .slice none 0 0] 24)) #[] 0 (by simp) (Nat.zero_le _) rfl
            have := this.alloc (.cells #[.int .i64 (fs.length : Int), .int .i64 (ss.length : Int), .int .i64 (m * m), .slice (some ⟨w.heap.size + 1, 0, none⟩) 0 0] 24)
            simpa using this)
        have HC := Lib.hid hc
        have HC' := Lib.hid hc'
        clear h3 h4 hall hc hc'
        go_enter Try.func25, Try.ntmps25
        go_wp2_with fail
        refine (val.in_yes _ _ _ _ h1 h2).mono ?_
        rintro e w' ⟨rfl, rfl⟩
        go_wp2_with fail
        refine (CF.out _ B0.out).mono ?_
        rintro e w' ⟨rfl, rfl⟩
        rw [E3.out]
        go_wp2_with fail
        refine (CS.out _ B0.out).mono ?_
        rintro e w' ⟨rfl, rfl⟩
        rw [E4.out]
        go_wp2_with fail
        go_loopw [9] (fun i wr => ∃ a : Nat, a ≤ fs.length ∧ i = .int .i64 a ∧ ∃ v vals, Hid (make.Way w wr (w.heap.size + 1 + 1) fs.length ss.length (m * m) (a * ss.length) v vals (N fs ss m))) (fun i _ => fs.length - (intOf i).toNat)
        case atStart => exact ⟨0, Nat.zero_le _, rfl, _, _, HW0⟩
        case round =>
          obtain ⟨a, ha, rfl, v, vals, hW⟩ := hrel
          clear HW0
          obtain ⟨wo, rfl⟩ : ∃ wo : World, wo = wr := ⟨_, rfl⟩
          obtain ⟨c0, c1, c2, c3, c4⟩ := four_cells hW.out.blk
          by_cases hlt : a < fs.length
          · have hkz : (a : Int) < (fs.length : Int) := by omega
            go_wp2_with fail
            clear c0 c1 c2 c3 c4
            go_loopw [10] (fun j wi => ∃ c : Nat, c ≤ ss.length ∧ j = .int .i64 c ∧ ∃ v vals, Hid (make.Way w wi (w.heap.size + 1 + 1) fs.length ss.length (m * m) (a * ss.length + c) v vals (N fs ss m))) (fun j _ => ss.length - (intOf j).toNat)
            case atStart => exact ⟨0, Nat.zero_le _, rfl, _, _, hW⟩
            case round =>
              obtain ⟨c, hcl, rfl, v, vals, hW⟩ := hrel
              obtain ⟨c0, c1, c2, c3, c4⟩ := four_cells hW.out.blk
              by_cases hlc : c < ss.length
              · have hkc : (c : Int) < (ss.length : Int) := by omega
                obtain rfl := hA (by omega)
                obtain rfl := hA' (by omega)
                have g1 := below_cell hW.out.below _ _ (HC.out a hlt)
                have g2 := below_cell hW.out.below _ _ (HC'.out c hlc)
                obtain ⟨fp, fp'⟩ := HFF.out a hlt
                obtain ⟨fq, fq'⟩ := HSS.out c hlc
                have HN : Hid (N fs ss m (a * ss.length + c) = pair fs[a] ss[c] m) := Lib.hid (by rw [N_at fs ss m a c hlc, getD_at hlt, getD_at hlc])
                have hk9 : a * ss.length + c < 9 := by
                  have e1 : a * ss.length + c < (a + 1) * ss.length := by rw [Nat.add_mul]; omega
                  have e2 : (a + 1) * ss.length ≤ fs.length * ss.length := Nat.mul_le_mul_right _ (by omega)
                  have := h9.out
                  omega
                have HK9 := Lib.hid hk9
                generalize fs[a] = p at *
                generalize ss[c] = q at *
                obtain ⟨k1, k2, k3, k4⟩ := wraps fp fp' fq fq' h1 h2
                clear hk9
                go_wp2_with fail
                go_quiet (fail)
                have W1 := Lib.hid (hW.out.keep (below_drewN (Below.refl _ _) nq))
                generalize hwd : wr.drewN nq = wd at *
                obtain ⟨wd', rfl⟩ : ∃ wd' : World, wd' = wd := ⟨_, rfl⟩
                clear hW c0 c1 c2 c3 c4 g1 g2 hwd
                obtain ⟨c0, c1, c2, c3, c4⟩ := four_cells W1.out.blk
                have hsz := W1.out.below.size
                have c3' := fun (o1 : Obj) => below_cell (below_al (Below.refl _ _) o1) _ _ c3
                have c5 : w.heap.size + 1 + 1 < wd'.heap.size + 1 := by omega
                go_wp2_with (at_builtin; go_must (refine wpList_append_own _ rfl (.tmp 59) (.tmp 81) 22 rfl (w.heap.size + 1) 30 i0 (.slice none 0 0) 1 24 Try.underlying22 hi hz0 hz1 hz2 rfl (by decide) _ _ _ rfl (((W1.out.keep (below_al (Below.refl _ _) _)).owns).alloc _) ⟨wd'.heap.size + 1, 0, none⟩ 1 1 [.slice (some ⟨wd'.heap.size, 0, none⟩) 4 4] rfl rfl ?c1 ?c2 ?c3 ?c4 ?c5 ?_))
                case c1 =>
                  have := app.one_at (wd'.alloc (.cells #[.int .i64 ((m - p) * (m - q)), .int .i64 ((m - p) * q), .int .i64 (p * (m - q)), .int .i64 (p * q)] 3)) (.slice (some ⟨wd'.heap.size, 0, none⟩) 4 4) 30
                  simpa using this
                case c2 => intro u hu; simp at hu; subst hu; rfl
                case c3 => have := HK9.out; unfold maxLen; omega
                case c4 => have := HK9.out; omega
                case c5 => simp; omega
                intro v' w3 hown' hgrow _
                have HG := Lib.hid ((W1.out.keep (below_al (Below.refl _ _) (.cells #[.int .i64 ((m - p) * (m - q)), .int .i64 ((m - p) * q), .int .i64 (p * (m - q)), .int .i64 (p * q)] 3))).keep (below_al (Below.refl _ _) (.cells #[.slice (some ⟨wd'.heap.size, 0, none⟩) 4 4] 30)))
                have hri : (wd'.alloc (.cells #[.int .i64 ((m - p) * (m - q)), .int .i64 ((m - p) * q), .int .i64 (p * (m - q)), .int .i64 (p * q)] 3)).rowIs wd'.heap.size 3 4 (fun j => .int .i64 ((make.quad (N fs ss m) (a * ss.length + c)).getD j 0)) := by
                  have eN := HN.out
                  refine ⟨#[.int .i64 ((m - p) * (m - q)), .int .i64 ((m - p) * q), .int .i64 (p * (m - q)), .int .i64 (p * q)], heap_alloc_new _ _, rfl, fun i hi => ?_⟩
                  match i, hi with
                  | 0, _ => simp [make.quad, eN, pair]
                  | 1, _ => simp [make.quad, eN, pair]
                  | 2, _ => simp [make.quad, eN, pair]
                  | 3, _ => simp [make.quad, eN, pair]
                have HRR := Lib.hid (hri.alloc (.cells #[.slice (some ⟨wd'.heap.size, 0, none⟩) 4 4] 30))
                have HFR : Hid (∀ (r g' : Nat), vals[r]? = some (Value.slice (some ⟨g', 0, none⟩) 4 4) → g' ≠ wd'.heap.size) := Lib.hid (fun r g' hu => by
                  obtain ⟨g, e, _, hr⟩ := W1.out.row r _ hu
                  injection e with e; injection e with e; injection e with e
                  have := hr.lt; omega)
                obtain ⟨f1, f2⟩ := HG.out.field hgrow
                have W4 := Lib.hid (HG.out.grow HRR.out (by omega) HFR.out hown' hgrow)
                obtain ⟨va, vl, vc, rfl⟩ := make.shape hown'
                clear hown' hgrow W1 HG HRR HFR hri c0 c1 c2 c3 c4 c3' c5 k1 k2 k3 k4
                go_wp2_with fail
                go_roundw
                case rel => exact ⟨c + 1, by omega, by go_num, _, _, W4⟩
                case measure => simp [intOf]; omega
              · have hkc : ¬ (c : Int) < (ss.length : Int) := by omega
                have hcy : c = ss.length := by omega
                have HWn : Hid (make.Way w wr (w.heap.size + 1 + 1) fs.length ss.length (m * m) ((a + 1) * ss.length) v vals (N fs ss m)) := Lib.hid (by have := hW.out; rw [hcy] at this; rw [Nat.add_mul, Nat.one_mul]; exact this)
                clear hcy
                go_wp2_with fail
                go_roundw
                case rel => exact ⟨a + 1, by omega, by go_num, v, vals, HWn⟩
                case measure => simp [intOf]; omega
          · have hkz : ¬ (a : Int) < (fs.length : Int) := by omega
            have haf : a = fs.length := by omega
            have HWn : Hid (make.Way w wo (w.heap.size + 1 + 1) fs.length ss.length (m * m) (fs.length * ss.length) v vals (N fs ss m)) := Lib.hid (by have := hW.out; rw [haf] at this; exact this)
            clear haf hW c0 c1 c2 c3 c4
            obtain ⟨va, vl, vc, rfl⟩ := make.shape HWn.out.owns
            obtain ⟨c0, c1, c2, c3, c4⟩ := four_cells HWn.out.blk
            obtain ⟨r0, r1, r2, r3, r4⟩ := four_cells HWn.out.res
            have rf : ∀ k, wo.frozen? ⟨w.heap.size, k, none⟩ = false := fun k => Joins.unfrozen_of_block HWn.out.res k
            have HD := Lib.hid HWn.out.done
            have HB := Lib.hid HWn.out.below
            clear HWn
            go_wp2_with fail
            refine bodyPost_ret (v := .tuple #[.agg #[.int .i64 (fs.length : Int), .int .i64 (ss.length : Int), .int .i64 (m * m), .slice va vl vc], .bool true]) (by simp [results, Try.results25, go_sem, r0, r1, r2, r3]) rfl ?_
            rw [HE.out]
            refine ⟨_, rfl, ?_, ?_⟩
            · refine (HD.out.wrote (S := fun p => p.block < w.heap.size + 1) ?_ (fun p hp => .inl hp)).rows
              repeat (first | exact Wrote.refl _ _ | refine Wrote.setCell ?_ (by simp) _)
            · repeat (refine Below.setCell ?_ (by simp <;> omega) _)
              exact HB.out
      · have E4 := Lib.hid (goodB_no h4)
        have HE := Lib.hid (res_no (fs := fs) (ss := ss) (m := m) (fun h => h4 h.2.2))
        clear h3 h4 hc hc' hA hA'
        go_enter Try.func25, Try.ntmps25
        go_wp2_with fail
        refine (val.in_yes _ _ _ _ h1 h2).mono ?_
        rintro e w' ⟨rfl, rfl⟩
        go_wp2_with fail
        refine (CF.out _ B0.out).mono ?_
        rintro e w' ⟨rfl, rfl⟩
        rw [E3.out]
        go_wp2_with fail
        refine (CS.out _ B0.out).mono ?_
        rintro e w' ⟨rfl, rfl⟩
        rw [E4.out]
        go_wp2_with fail
        refine bodyPost_ret (v := .tuple #[.agg #[.int .i64 0, .int .i64 0, .int .i64 0, .slice none 0 0], .bool false]) (by simp [results, Try.results25, go_sem]) rfl ?_
        rw [HE.out]
        refine ⟨_, rfl, IRows.nil _, ?_⟩
        repeat (first | (with_reducible exact B0.out) | refine Below.setCell ?_ (by simp <;> omega) _)
    · have E3 := Lib.hid (goodB_no h3)
      have HE := Lib.hid (res_no (fs := fs) (ss := ss) (m := m) (fun h => h3 h.2.1))
      clear h3 hc hc' hA hA'
      go_enter Try.func25, Try.ntmps25
      go_wp2_with fail
      refine (val.in_yes _ _ _ _ h1 h2).mono ?_
      rintro e w' ⟨rfl, rfl⟩
      go_wp2_with fail
      refine (CF.out _ B0.out).mono ?_
      rintro e w' ⟨rfl, rfl⟩
      rw [E3.out]
      go_wp2_with fail
      refine bodyPost_ret (v := .tuple #[.agg #[.int .i64 0, .int .i64 0, .int .i64 0, .slice none 0 0], .bool false]) (by simp [results, Try.results25, go_sem]) rfl ?_
      rw [HE.out]
      refine ⟨_, rfl, IRows.nil _, ?_⟩
      repeat (first | (with_reducible exact B0.out) | refine Below.setCell ?_ (by simp <;> omega) _)
  · have hbad : m < 1 ∨ 31 < m := by omega
    have HE := Lib.hid (res_no (fs := fs) (ss := ss) (m := m) (fun h => hm h.1))
    clear hm hc hc' hA hA'
    go_enter Try.func25, Try.ntmps25
    go_wp2_with fail
    refine (val.in_no _ _ _ _ hbad).mono ?_
    rintro e w' ⟨rfl, rfl⟩
    clear hbad
    go_wp2_with fail
    refine bodyPost_ret (v := .tuple #[.agg #[.int .i64 0, .int .i64 0, .int .i64 0, .slice none 0 0], .bool false]) (by simp [results, Try.results25, go_sem]) rfl ?_
    rw [HE.out]
    refine ⟨_, rfl, IRows.nil _, ?_⟩
    repeat (first | (with_reducible exact B0.out) | refine Below.setCell ?_ (by simp <;> omega) _)

end Go.Proofs.Ytkajebhagkbcaaa.prod
