/- What is told: rows in which one number is the Whole; spec.l11Of. -/
import Derived.Test.YtomofmmecpdalaaGrd
import Derived.Test.YtomofmmecpdalaaTwy
import Derived.Test.YtomofmmecpdalaaTvk
import Derived.Test.YtomofmmecpdalaaTra
import Derived.Test.YtomofmmecpdalaaPlay
import Derived.Test.YtomofmmecpdalaaLast
namespace Go.Proofs.Ytomofmmecpdalaa.tto
open Go.RowKit Go.Deep Go.Proofs.Ytomofmmecpdalaa.base
open Go.Proofs.Ytomofmmecpdalaa.ints (infoInts)
open Go.Proofs.Ytomofmmecpdalaa.tri (two_cells)
open Go.Proofs.Ytomofmmecpdalaa.trb (three_cells)
open Go.Proofs.Ytomofmmecpdalaa.grd
open Go.Proofs.Ytomofmmecpdalaa.tvk (Res)
open Go.Proofs.Ytomofmmecpdalaa.trv (okTrio)
open Go.Proofs.Ytomofmmecpdalaa.val (okRowN)

@[go_sem] theorem eqA3 (a b c a' b' c' : Int) (w : World) : (Op.equalIn 10000 76 (.agg #[.int .i64 a, .int .i64 b, .int .i64 c]) (.agg #[.int .i64 a', .int .i64 b', .int .i64 c'])).run Try.prog w = .ok (a == a' && b == b' && c == c') w := by
  have u3 := Try.underlying3
  have a3 := Try.isAgg3
  have z3 := Try.sizeOf3
  rw [show (10000 : Nat) = 9999 + 1 from rfl, Op.equalIn]
  simp only [Sem.run_bind, run_underlying Try.underlying76, Result.andThen_ok]
  simp only [Std.Legacy.Range.forIn_eq_forIn_range', Std.Legacy.Range.size, Nat.sub_zero, Nat.add_sub_cancel, Nat.div_one, List.range'_succ, List.range'_zero, List.forIn_cons, List.forIn_nil]
  go_simp
  by_cases h1 : a = a' <;> by_cases h2 : b = b' <;> by_cases h3 : c = c' <;> simp [h1, h2, h3]

def ND (s : Nat → Nat) (wh : Int) (q c : Nat) : Int := if c = s q then wh else 0
theorem ok_told {s : Nat → Nat} {wh : Int} (hs : ∀ q, q < 8 → s q < 8) : okTrio wh (rows8 (ND s wh)) ↔ 1 ≤ wh ∧ wh ≤ 1000 := by
  constructor
  · exact fun h => h.1
  · intro h
    refine ⟨h, len_rows8 _, fun q hq => ?_⟩
    have hq8 : q < 8 := by rw [len_rows8] at hq; exact hq
    rw [at_rows8]
    refine ⟨by simp, fun k hk => ?_, ?_⟩
    · simp only [List.getElem_map, List.getElem_range, ND]
      split <;> omega
    · have := hs q hq8
      have e : (List.map (fun k => ND s wh q k) (List.range 8)).sum = ND s wh q 0 + (ND s wh q 1 + (ND s wh q 2 + (ND s wh q 3 + (ND s wh q 4 + (ND s wh q 5 + (ND s wh q 6 + (ND s wh q 7 + 0))))))) := by simp [List.range, List.range.loop]
      rw [e]
      simp only [ND]
      generalize s q = t at *
      obtain rfl | rfl | rfl | rfl | rfl | rfl | rfl | rfl : t = 0 ∨ t = 1 ∨ t = 2 ∨ t = 3 ∨ t = 4 ∨ t = 5 ∨ t = 6 ∨ t = 7 := by omega
      all_goals simp

theorem held2f {B : Nat} {w w' : World} {p1 p2 : Addr} {u1 u2 : Value} (hB : B = w.heap.size) (h1 : w.cell? p1 = some u1) (h2 : w.cell? p2 = some u2) (hf : w.frozen? p2 = false) (hb : Below B w w') :
    w'.cell? p1 = some u1 ∧ w'.cell? p2 = some u2 ∧ w'.frozen? p2 = false ∧ Below B w w' := by
  subst hB
  exact ⟨below_cell hb _ _ h1, below_cell hb _ _ h2, (hb.frozen (World.block_lt_of_cell? _ _ h2)).trans hf, hb⟩
theorem at3z (k : Nat) (hk : k < 8) (w : World) : Calls Try.prog 80 #[.int .i64 (k : Int)] w fun e w' => e = .returned (.agg #[.int .i64 ((k : Int) / 4 % 2), .int .i64 ((k : Int) / 2 % 2), .int .i64 ((k : Int) % 2)]) ∧ Below w.heap.size w w' := by
  have := trb.at3 k hk w
  simpa [trb.tb, trb.b3] using this

def sl (ls : List Int) (q : Nat) : Nat := (ls.getD q 0).toNat
def row1 (s : Nat → Nat) (wh : Int) (q i : Nat) : Int := if i = s q then wh else 0

set_option maxRecDepth 100000 in
set_option maxHeartbeats 8000000 in
theorem l11of (v : Value) (ls : List Int) (wh : Int) (w : World) (h : Ints w v ls) (hl : ls.length = 8) (hb8 : ∀ q, q < 8 → 0 ≤ ls.getD q 0 ∧ ls.getD q 0 < 8) :
    Calls Try.prog 100 #[v, .int .i64 wh] w fun e w' => ∃ u, e = .returned (.agg #[.int .i64 wh, u]) ∧ OwnRows w' w.heap.size w'.heap.size u (rows8 (ND (sl ls) wh)) ∧ Below w.heap.size w w' := by
  obtain ⟨i0, hi, hz0, hz1, hz2⟩ := info_parts infoInts
  have hmk : ∀ W : World, (Instr.makeSlice 33 (.int .i64 8) (.int .i64 8)).run Try.prog W = .ok (.slice (some ⟨W.heap.size, 0, none⟩) 8 8) (W.alloc (.cells (madeCells #[.int .i64 0] 8) 3)) := fun W => by kernel_rfl
  obtain ⟨A, b, o, cap, rfl, hcap, hmax, hA, hc⟩ := h.form
  rw [hl]
  obtain rfl := hA (by omega)
  have HC := Lib.hid (fun (q : Nat) (hq : q < 8) => (show sl ls q < 8 ∧ w.cell? ⟨b, o + q, none⟩ = some (.int .i64 ((sl ls q : Nat) : Int)) from by
    have h1 := hc q (by omega)
    have e : ls[q]'(by omega) = ls.getD q 0 := by rw [trn.getD_at (by omega)]
    rw [e] at h1
    obtain ⟨h2, h3⟩ := hb8 q hq
    refine ⟨by unfold sl; omega, ?_⟩
    rw [h1]
    unfold sl
    rw [Int.toNat_of_nonneg h2]))
  clear h hcap hmax hA hc hl hb8
  obtain ⟨W0, hW0⟩ : ∃ W, W = (((w.alloc (.cells #[.int .i64 0, .slice none 0 0] 27)).alloc (.cells #[] 33)).alloc (.cells #[.int .i64 wh, .slice (some ⟨w.heap.size + 1, 0, none⟩) 0 0] 27)) := ⟨_, rfl⟩
  have HW0 : Hid (twy.Way w W0 (w.heap.size + 1 + 1) wh 0 (.slice (some ⟨w.heap.size + 1, 0, none⟩) 0 0) [] (ND (sl ls) wh)) := Lib.hid (by
    rw [hW0]
    refine ⟨below_al (below_al (below_al (Below.refl _ _) _) _) _, by omega, ?_, ?_, ?_, fun r u hu => by simp at hu, fun r s g g' _ hu => by simp at hu⟩
    · have := Blk.new ((w.alloc (.cells #[.int .i64 0, .slice none 0 0] 27)).alloc (.cells #[] 33)) 27 #[.int .i64 wh, .slice (some ⟨w.heap.size + 1, 0, none⟩) 0 0]
      simpa using this
    · exact ((Blk.new w 27 #[.int .i64 0, .slice none 0 0]).alloc _).alloc _
    · have := World.ownsRow_made (base := w.heap.size + 1) (e := 33) (size := 1) (w.alloc (.cells #[.int .i64 0, .slice none 0 0] 27)) #[] 0 (by simp) (Nat.zero_le _) rfl
      have := this.alloc (.cells #[.int .i64 wh, .slice (some ⟨w.heap.size + 1, 0, none⟩) 0 0] 27)
      simpa using this)
  go_enter Try.func100, Try.ntmps100
  go_wp2_with fail
  rw [← hW0]
  clear hW0
  go_loopw [6] (fun i wr => ∃ q : Nat, q ≤ 8 ∧ i = .int .i64 q ∧ ∃ v vals, Hid (twy.Way w wr (w.heap.size + 1 + 1) wh q v vals (ND (sl ls) wh))) (fun i _ => 8 - (intOf i).toNat)
  case atStart => exact ⟨0, Nat.zero_le _, rfl, _, _, HW0⟩
  case round =>
    obtain ⟨q, hq, rfl, v, vals, hW⟩ := hrel
    clear HW0
    obtain ⟨wo, rfl⟩ : ∃ wo : World, wo = wr := ⟨_, rfl⟩
    by_cases hlt : q < 8
    · have hqz : (q : Int) < 8 := by omega
      obtain ⟨hs8, hcell⟩ := HC.out q hlt
      have hsz8 : ((sl ls q : Nat) : Int) < 8 := by omega
      have al := below_al (Below.refl wo.heap.size wo) (.cells (madeCells #[.int .i64 0] 8) 3)
      have x1 := below_cell (below_tr hW.out.below al) _ _ hcell
      have R1 := World.rowIs_made wo (.int .i64 0) 8 3
      have r1 := R1.cell hs8
      have rf := R1.frozen (sl ls q)
      have HR : Hid ((wo.alloc (.cells ((madeCells #[.int .i64 0] 8).setIfInBounds (sl ls q) (.int .i64 wh)) 3)).rowIs wo.heap.size 3 8 (fun j => .int .i64 (ND (sl ls) wh q j))) := Lib.hid (by
        have hz : ((madeCells #[.int .i64 0] 8).setIfInBounds (sl ls q) (.int .i64 wh)).size = 8 := by simp [madeCells]
        have := World.rowIs_alloc wo ((madeCells #[.int .i64 0] 8).setIfInBounds (sl ls q) (.int .i64 wh)) 3 (fun j => .int .i64 (ND (sl ls) wh q j)) (fun i hi => by
          have hi8 : i < 8 := by rw [hz] at hi; exact hi
          rw [Array.getElem?_setIfInBounds]
          unfold ND
          by_cases e : sl ls q = i
          · subst e; simp [madeCells, hs8]
          · have e2 : ¬ i = sl ls q := fun h => e h.symm
            simp only [e, e2, if_false]
            obtain rfl | rfl | rfl | rfl | rfl | rfl | rfl | rfl : i = 0 ∨ i = 1 ∨ i = 2 ∨ i = 3 ∨ i = 4 ∨ i = 5 ∨ i = 6 ∨ i = 7 := by omega
            all_goals simp [madeCells])
        rw [hz] at this
        exact this)
      have HW := Lib.hid (hW.out.keep (below_al (Below.refl wo.heap.size wo) (.cells ((madeCells #[.int .i64 0] 8).setIfInBounds (sl ls q) (.int .i64 wh)) 3)))
      have HF0 : Hid (∀ (r g' : Nat), vals[r]? = some (Value.slice (some ⟨g', 0, none⟩) 8 8) → g' ≠ wo.heap.size) := Lib.hid (fun r g' hu => by
        obtain ⟨g, e, _, hr⟩ := hW.out.row r _ hu
        injection e with e; injection e with e; injection e with e
        have := hr.lt; omega)
      have HZ : Hid (w.heap.size + 1 + 1 < wo.heap.size) := Lib.hid hW.out.blk.lt
      have hzz := HZ.out
      have gsz : (wo.alloc (.cells ((madeCells #[.int .i64 0] 8).setIfInBounds (sl ls q) (.int .i64 wh)) 3)).heap.size = wo.heap.size + 1 := by simp
      clear al R1 hW hcell
      obtain ⟨c0, c1, c2⟩ := two_cells HW.out.blk
      have hszW := HW.out.below.size
      have c1' := fun (o1 : Obj) => below_cell (below_al (Below.refl _ _) o1) _ _ c1
      have HFR : Hid (∀ (r g' : Nat), vals[r]? = some (Value.slice (some ⟨g', 0, none⟩) 8 8) → g' ≠ wo.heap.size) := HF0
      go_wp2_with (at_builtin; go_must (refine wpList_append_own _ rfl (.tmp 24) (.tmp 26) 22 rfl (w.heap.size + 1) 33 i0 (.slice none 0 0) 1 24 Try.underlying22 hi hz0 hz1 hz2 rfl (by decide) _ _ _ rfl (HW.out.owns.alloc _) ⟨wo.heap.size + 1, 0, none⟩ 1 1 [.slice (some ⟨wo.heap.size, 0, none⟩) 8 8] rfl rfl ?c1 ?c2 ?c3 ?c4 ?c5 ?_))
      try (case c1 => first | exact app.one_at _ _ _ | (have := app.one_at (wo.alloc (.cells ((madeCells #[.int .i64 0] 8).setIfInBounds (sl ls q) (.int .i64 wh)) 3)) (.slice (some ⟨wo.heap.size, 0, none⟩) 8 8) 33; simpa using this))
      case c2 => first | rfl | (intro u hu; simp at hu; subst hu; rfl)
      case c3 => unfold maxLen; omega
      case c4 => omega
      try (case c5 => first | omega | (simp; omega))
      intro v' w3 hown' hgrow _
      have HG := Lib.hid (HW.out.keep (below_al (Below.refl _ _) (.cells #[.slice (some ⟨wo.heap.size, 0, none⟩) 8 8] 33)))
      have HRR := Lib.hid (HR.out.alloc (.cells #[.slice (some ⟨wo.heap.size, 0, none⟩) 8 8] 33))
      obtain ⟨f1, f2⟩ := HG.out.field hgrow
      have W4 := Lib.hid (HG.out.grow HRR.out (by have := HZ.out; omega) HFR.out hown' hgrow)
      obtain ⟨va', vl', vc', rfl⟩ := make.shape hown'
      clear hown' hgrow HG HRR HFR c0 c1 c2 c1'
      go_wp2_with fail
      go_roundw
      case rel => exact ⟨q + 1, by omega, by go_num, _, _, W4⟩
      case measure => simp [intOf]; omega
    · have hqz : ¬ (q : Int) < 8 := by omega
      obtain rfl : q = 8 := by omega
      obtain ⟨va', vl', vc', rfl⟩ := make.shape hW.out.owns
      obtain ⟨c0, c1, c2⟩ := two_cells hW.out.blk
      obtain ⟨r0, r1, r2⟩ := two_cells hW.out.res
      have rf : ∀ k, wo.frozen? ⟨w.heap.size, k, none⟩ = false := fun k => Joins.unfrozen_of_block hW.out.res k
      have U1 := Lib.hid hW.out.done
      have B1 := Lib.hid hW.out.below
      go_wp2_with fail
      refine bodyPost_ret (v := .agg #[.int .i64 wh, .slice va' vl' vc']) (by simp [results, Try.results100, go_sem, r0, r1]) rfl ⟨_, rfl, ?_, ?_⟩
      · have hw : Wrote (fun p => p.block = w.heap.size) wo ((wo.setCell ⟨w.heap.size, 0, none⟩ (.int .i64 wh)).setCell ⟨w.heap.size, 1, none⟩ (.slice va' vl' vc')) := Wrote.setCell (S := fun p => p.block = w.heap.size) (Wrote.setCell (S := fun p => p.block = w.heap.size) (Wrote.refl _ _) rfl _) rfl _
        exact (U1.out.wrote hw (fun p hp => .inl (by have e : p.block = w.heap.size := hp; omega))).mono (by omega) (by simp [World.setCell])
      · exact Below.setCell (Below.setCell B1.out (Nat.le_refl _) _) (Nat.le_refl _) _

end Go.Proofs.Ytomofmmecpdalaa.tto
