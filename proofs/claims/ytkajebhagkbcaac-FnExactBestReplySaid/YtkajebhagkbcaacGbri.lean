/- BestReply of the program. -/
import Derived.Test.YtkajebhagkbcaacGpwr
namespace Go.Proofs.Ytkajebhagkbcaac.gbr
open Go.RowKit Go.Deep Go.Proofs.Ytkajebhagkbcaac.base
open Go.Proofs.Ytkajebhagkbcaac.rws (total)
open Go.Proofs.Ytkajebhagkbcaac.val (okSizes)
open Go.Proofs.Ytkajebhagkbcaac.gval (okGame gameB gameB_yes gameB_no)
open Go.Proofs.Ytkajebhagkbcaac.play (within withinB withinB_yes withinB_no)
open Go.Proofs.Ytkajebhagkbcaac.gscore (score)
open Go.Proofs.Ytkajebhagkbcaac.gbm (stp reply)

open Classical in
noncomputable def res (x y : Int) (ws : List Int) (xss : List (List Int)) (f : List Int) : List Int × Int × Bool :=
  if okGame x y ws xss ∧ within x 0 1 f then (reply x.toNat y.toNat ws xss f, score x.toNat y.toNat ws xss (stp x.toNat y.toNat ws xss f y.toNat), true) else ([], 0, false)
theorem res_yes {x y : Int} {ws : List Int} {xss : List (List Int)} {f : List Int} (h : okGame x y ws xss ∧ within x 0 1 f) : res x y ws xss f = (reply x.toNat y.toNat ws xss f, score x.toNat y.toNat ws xss (stp x.toNat y.toNat ws xss f y.toNat), true) := if_pos h
theorem res_no {x y : Int} {ws : List Int} {xss : List (List Int)} {f : List Int} (h : ¬ (okGame x y ws xss ∧ within x 0 1 f)) : res x y ws xss f = ([], 0, false) := if_neg h
theorem len_res (x y : Int) (ws : List Int) (xss : List (List Int)) (f : List Int) : (res x y ws xss f).1.length ≤ 1048576 := by
  by_cases h : okGame x y ws xss ∧ within x 0 1 f
  · rw [res_yes h]
    have := h.1.1.2
    show (reply x.toNat y.toNat ws xss f).length ≤ 1048576
    simp [reply]; omega
  · rw [res_no h]; exact Nat.zero_le _


set_option maxRecDepth 100000 in
set_option maxHeartbeats 4000000 in
theorem impl_any (x y : Int) (v : Value) (ws : List Int) (u : Value) (xss : List (List Int)) (fv : Value) (f : List Int) (w : World) (h : game.GV w v ws u xss) (hp : Ints w fv f) (hn : ws.length ≤ 1048576) (hm : total xss ≤ 1048576) :
    Calls Try.prog 34 #[.agg #[.int .i64 x, .int .i64 y, v, u], fv] w fun e w' => ∃ u', e = .returned (.tuple #[u', .int .i64 (res x y ws xss f).2.1, .bool (res x y ws xss f).2.2]) ∧ OwnInts w' w.heap.size w'.heap.size u' (res x y ws xss f).1 ∧ Below w.heap.size w w' := by
  obtain ⟨va, vn, vc, ua, un, uc, rfl, rfl⟩ := h.shape
  obtain ⟨pa, pn, pc, rfl⟩ := hp.shape
  have H := Lib.hid h
  have HP := Lib.hid hp
  have K0 := Lib.hid (Blk.new w 28 #[.int .i64 x, .int .i64 y, .slice va vn vc, .slice ua un uc])
  have B0 := Lib.hid (below_al (Below.refl w.heap.size w) (.cells #[.int .i64 x, .int .i64 y, .slice va vn vc, .slice ua un uc] 28))
  have HC := Lib.hid (gval.impl_any x y _ ws _ xss _ (h.below B0.out) hn hm)
  have HBI := Lib.hid (fun (W : World) (hW : Below w.heap.size w W) => play.impl_bits _ f x W (hp.below hW))
  clear h hp
  by_cases hok : okGame x y ws xss
  · have HE := Lib.hid (gameB_yes hok)
    by_cases hw : within x 0 1 f
    · have HE2 := Lib.hid (withinB_yes hw)
      rw [res_yes ⟨hok, hw⟩]
      obtain ⟨X, rfl⟩ : ∃ X : Nat, x = X := ⟨x.toNat, by have := hok.1.1; omega⟩
      obtain ⟨Y, rfl⟩ : ∃ Y : Nat, y = Y := ⟨y.toNat, by have := hok.1.2; omega⟩
      simp only [Int.toNat_natCast]
      have HPW := Lib.hid (fun (W : World) (hW : Below w.heap.size w W) => gpwr.any X Y _ ws _ xss _ f W (H.out.below hW) (HP.out.below hW) hok hw)
      have hY1 : 1 ≤ Y := by have := hok.1.2.1; omega
      have hX3 : X ≤ 3 := by have := hok.1.1.2; omega
      have hY3 : Y ≤ 3 := by have := hok.1.2.2; omega
      have HLS := Lib.hid (gbm.len_stp X Y ws xss (f := f) (by have := hw.1; omega) Y)
      have HDR := Lib.hid (gbm.stp_drop X Y ws xss (f := f) (by have := hw.1; omega))
      have hxy : (X : Int) ≤ (X : Int) + (Y : Int) := by omega
      have hxz : (X : Int) < ((X + Y : Nat) : Int) := by omega
      have hne : ¬ X + Y = X := by omega
      have hne2 : ¬ X = X + Y := by omega
      clear hok hw
      go_enter Try.func34, Try.ntmps34
      go_wp2_with fail
      refine HC.out.mono ?_
      rintro e w1 ⟨rfl, hb⟩
      rw [HE.out]
      have B1 := Lib.hid (below_tr B0.out hb)
      have K1 := Lib.hid (K0.out.below hb)
      obtain ⟨c0, c1, c2, c3, c4⟩ := four_cells K1.out
      clear hb HC K0
      go_wp2_with fail
      refine (HBI.out _ B1.out).mono ?_
      rintro e w2 ⟨rfl, rfl⟩
      rw [HE2.out]
      go_wp2_with fail
      refine (HPW.out _ B1.out).mono ?_
      rintro e w2 ⟨g, rfl, hr, hg, hb⟩
      have R2 := Lib.hid hr
      have G2 := Lib.hid hg
      have B2 := Lib.hid (below_tr B1.out hb)
      have Z1 := Lib.hid B1.out.size
      clear c0 c1 c2 c3 c4
      obtain ⟨c0, c1, c2, c3, c4⟩ := four_cells (K1.out.below hb)
      clear hb hr hg K1
      go_wp2_with fail
      go_ret3
      refine ⟨_, rfl, ?_, B2.out⟩
      have hp := (gpwr.Row.part R2.out HLS.out (k := X) (by omega) (by unfold maxLen; omega)).mono (B' := w.heap.size) (T' := w2.heap.size) (by have := G2.out; have := Z1.out; omega) R2.out.lt
      rw [HDR.out, show X + Y - X = Y by omega] at hp
      exact hp
    · have HE2 := Lib.hid (withinB_no hw)
      rw [res_no (fun h => hw h.2)]
      clear hok hw
      go_enter Try.func34, Try.ntmps34
      go_wp2_with fail
      refine HC.out.mono ?_
      rintro e w1 ⟨rfl, hb⟩
      rw [HE.out]
      have B1 := Lib.hid (below_tr B0.out hb)
      obtain ⟨c0, c1, c2, c3, c4⟩ := four_cells (K0.out.below hb)
      clear hb HC K0
      go_wp2_with fail
      refine (HBI.out _ B1.out).mono ?_
      rintro e w2 ⟨rfl, rfl⟩
      rw [HE2.out]
      go_wp2_with fail
      go_ret3
      exact ⟨_, rfl, OwnInts.nil _ _ _, B1.out⟩
  · have HE := Lib.hid (gameB_no hok)
    rw [res_no (fun h => hok h.1)]
    clear hok
    go_enter Try.func34, Try.ntmps34
    go_wp2_with fail
    refine HC.out.mono ?_
    rintro e w1 ⟨rfl, hb⟩
    rw [HE.out]
    have B1 := Lib.hid (below_tr B0.out hb)
    clear hb HC K0
    go_wp2_with fail
    go_ret3
    exact ⟨_, rfl, OwnInts.nil _ _ _, B1.out⟩


end Go.Proofs.Ytkajebhagkbcaac.gbr
