/- PlayWorth of the model and of the program. -/
import Derived.Test.YtkajebhagkbcaabWorthc
import Derived.Test.YtkajebhagkbcaabPboxb
import Derived.Test.YtkajebhagkbcaabPboxc
namespace Go.Proofs.Ytkajebhagkbcaab.pworth
open Go.RowKit Go.Deep Go.Proofs.Ytkajebhagkbcaab.base
open Go.Proofs.Ytkajebhagkbcaab.val (okSizes okBox ret_b mul_small boxB boxB_yes boxB_no)
open Go.Proofs.Ytkajebhagkbcaab.play (within withinB withinB_yes withinB_no isPlay isPlay_yes isPlay_no)
open Go.Proofs.Ytkajebhagkbcaab.rws (total)
open Go.Proofs.Ytkajebhagkbcaab.worth (okFun funB funB_yes funB_no worth)

def all (x y : Int) (fss : List (List Int)) (ps : List Int) : Prop := okSizes x y ∧ within (x + y) 0 1 ps ∧ okFun x y fss
/-- the rows of the play's box with the whole 1 -/
def prows (x y : Int) (ps : List Int) : List (List Int) := make.rowsOf (pbox.N ps x.toNat y.toNat 1) (x * y).toNat
open Classical in
noncomputable def res (x y : Int) (fss : List (List Int)) (ps : List Int) : Int × Bool := if all x y fss ps then (worth fss (prows x y ps), true) else (0, false)
theorem res_yes {x y : Int} {fss : List (List Int)} {ps : List Int} (h : all x y fss ps) : res x y fss ps = (worth fss (prows x y ps), true) := if_pos h
theorem res_no {x y : Int} {fss : List (List Int)} {ps : List Int} (h : ¬ all x y fss ps) : res x y fss ps = (0, false) := if_neg h
theorem prows_nat (X Y : Nat) (ps : List Int) : prows X Y ps = make.rowsOf (pbox.N ps X Y 1) (X * Y) := by
  unfold prows
  rw [← Int.natCast_mul]; rfl
theorem pbox_all {x y : Int} {ps : List Int} (hs : okSizes x y) (hw : within (x + y) 0 1 ps) : pbox.all x y ps 1 := ⟨hs, hw, by omega, by omega⟩
theorem prows_ok {x y : Int} {ps : List Int} (hs : okSizes x y) (hw : within (x + y) 0 1 ps) : okBox x y 1 (prows x y ps) := by
  obtain ⟨X, rfl⟩ : ∃ X : Nat, x = X := ⟨x.toNat, by have := hs.1.1; omega⟩
  obtain ⟨Y, rfl⟩ : ∃ Y : Nat, y = Y := ⟨y.toNat, by have := hs.2.1; omega⟩
  rw [prows_nat]
  exact pbox.box_ok (pbox_all hs hw)
theorem prows_tot {x y : Int} {ps : List Int} (hs : okSizes x y) : total (prows x y ps) ≤ 1048576 := make.total_rowsOf _ _ (by have := val.mul_small hs; omega)



set_option maxHeartbeats 1000000 in
theorem impl_any (x y : Int) (vf v : Value) (fss : List (List Int)) (ps : List Int) (w : World) (hf : IRows w vf fss) (h : Ints w v ps) (hnf : total fss ≤ 1048576) :
    Calls Try.prog 102 #[.int .i64 x, .int .i64 y, vf, v] w fun e w' => e = .returned (.tuple #[.int .i64 (res x y fss ps).1, .bool (res x y fss ps).2]) ∧ Below w.heap.size w w' := by
  have CP := Lib.hid (pbox.impl_any x y v ps 1 w h)
  have HF := Lib.hid hf
  obtain ⟨va, vn, vc, rfl⟩ := h.shape
  obtain ⟨fa, fn, fc, rfl⟩ := hf.shape
  clear h hf
  by_cases hp : okSizes x y ∧ within (x + y) 0 1 ps
  · have EP := Lib.hid (pbox.res_yes (pbox_all hp.1 hp.2))
    have HB := Lib.hid (prows_ok hp.1 hp.2)
    have HT := Lib.hid (prows_tot (ps := ps) hp.1)
    have HR : Hid (worth.res x y 1 fss (prows x y ps) = res x y fss ps) := Lib.hid (by
      by_cases hg : okFun x y fss
      · rw [res_yes ⟨hp.1, hp.2, hg⟩, worth.res_yes ⟨HB.out, hg⟩]
      · rw [res_no (fun h => hg h.2.2), worth.res_no (fun h => hg h.2)])
    rw [← HR.out]
    clear hp
    go_enter Try.func102, Try.ntmps102
    go_wp2_with fail
    refine CP.out.mono ?_
    rw [EP.out]
    rintro e w1 ⟨u, rfl, hu, hb⟩
    obtain ⟨ua, ul, uc, rfl⟩ := hu.rows.shape
    have B1 := Lib.hid hb
    have U1 := Lib.hid (show IRows w1 _ (prows x y ps) from hu.rows)
    clear hu hb CP
    go_wp2_with fail
    have B2 := Lib.hid (below_al B1.out (.cells #[.int .i64 x, .int .i64 y, .int .i64 1, .slice ua ul uc] 36))
    refine (worth.impl_any x y 1 _ _ fss (prows x y ps) _ (HF.out.below B2.out) (U1.out.below (below_al (Below.refl _ _) _)) hnf HT.out).mono ?_
    rintro e w2 ⟨rfl, hb⟩
    have B3 := Lib.hid (below_tr B2.out hb)
    clear hb
    go_wp2_with fail
    go_ret2
    exact ⟨rfl, B3.out⟩
  · have EP := Lib.hid (pbox.res_no (x := x) (y := y) (ps := ps) (wh := 1) (fun h => hp ⟨h.1, h.2.1⟩))
    rw [res_no (fun h => hp ⟨h.1, h.2.1⟩)]
    clear hp
    go_enter Try.func102, Try.ntmps102
    go_wp2_with fail
    refine CP.out.mono ?_
    rw [EP.out]
    rintro e w1 ⟨u, rfl, hu, hb⟩
    obtain ⟨ua, ul, uc, rfl⟩ := hu.rows.shape
    have B1 := Lib.hid hb
    clear hu hb CP
    unfold make.Res.zero
    go_wp2_with fail
    go_ret2
    exact ⟨rfl, below_al B1.out _⟩

end Go.Proofs.Ytkajebhagkbcaab.pworth
