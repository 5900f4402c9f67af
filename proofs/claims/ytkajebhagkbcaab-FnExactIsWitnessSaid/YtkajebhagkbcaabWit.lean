/- IsWitness of both sides. -/
import Derived.Test.YtkajebhagkbcaabLocalb
import Derived.Test.YtkajebhagkbcaabLocalc
import Derived.Deep.RegionHeld3
namespace Go.Proofs.Ytkajebhagkbcaab.wit
open Go.RowKit Go.Deep Go.Proofs.Ytkajebhagkbcaab.base
open Go.Proofs.Ytkajebhagkbcaab.val (okSizes okBox ret_b boxB boxB_yes boxB_no)
open Go.Proofs.Ytkajebhagkbcaab.worth (okFun funB funB_yes funB_no worth cum term)
open Go.Proofs.Ytkajebhagkbcaab.ints (ret_int)
open Go.Proofs.Ytkajebhagkbcaab.rws (total)
open Go.Proofs.Ytkajebhagkbcaab.loc (mx g val at_within)

def all (x y wh : Int) (xss fss : List (List Int)) : Prop := okBox x y wh xss ∧ okFun x y fss
open Classical in
noncomputable def res (x y wh : Int) (xss fss : List (List Int)) : Bool × Bool := if all x y wh xss fss then (decide (wh * val x y fss < worth fss xss), true) else (false, false)
theorem res_yes {x y wh : Int} {xss fss : List (List Int)} (h : all x y wh xss fss) : res x y wh xss fss = (decide (wh * val x y fss < worth fss xss), true) := if_pos h
theorem res_no {x y wh : Int} {xss fss : List (List Int)} (h : ¬ all x y wh xss fss) : res x y wh xss fss = (false, false) := if_neg h
theorem worth_bd {x y wh : Int} {fss xss : List (List Int)} (hf : okFun x y fss) (hb : okBox x y wh xss) : -3564000 ≤ worth fss xss ∧ worth fss xss ≤ 3564000 := by
  have hl := val.ok_len hb
  have := worth.cum_bd (g := term fss xss) (m := 99000) (4 * xss.length) (fun t ht => worth.term_bd hf hb t ht)
  unfold worth
  omega
theorem mx_bd {g : Nat → Int} {m : Int} (hm : 0 ≤ m) : ∀ k, (∀ p, p < k → -m ≤ g p ∧ g p ≤ m) → -m ≤ mx g k ∧ mx g k ≤ m
  | 0, _ => by simp [mx]; omega
  | k + 1, h => by
    by_cases hn : k = 0 ∨ mx g k < g k
    · rw [loc.mx_new hn]; exact h k (by omega)
    · rw [loc.mx_old hn]; exact mx_bd hm k (fun p hp => h p (by omega))
theorem val_bd {x y : Int} {fss : List (List Int)} (hf : okFun x y fss) : -3564000 ≤ val x y fss ∧ val x y fss ≤ 3564000 :=
  mx_bd (by omega) _ (fun p _ => worth_bd hf (pworth.prows_ok hf.1 (at_within hf.1 p)))
theorem mul_bd {wh v : Int} (h0 : 1 ≤ wh) (h1 : wh ≤ 1000) (v0 : -3564000 ≤ v) (v1 : v ≤ 3564000) : IntKind.i64.wrap (wh * v) = wh * v := by
  have a := Int.mul_le_mul_of_nonneg_left v1 (show 0 ≤ wh by omega)
  have b := Int.mul_le_mul_of_nonneg_left v0 (show 0 ≤ wh by omega)
  exact IntWalk.i64_in _ (by omega)

set_option maxHeartbeats 1000000 in
theorem spec_any (x y wh : Int) (v vf : Value) (xss fss : List (List Int)) (w : World) (h : IRows w v xss) (hf : IRows w vf fss) (hn : total xss ≤ 1048576) (hnf : total fss ≤ 1048576) :
    Calls Try.prog 25 #[.agg #[.int .i64 x, .int .i64 y, .int .i64 wh, v], vf] w fun e w' => e = .returned (.tuple #[.bool (res x y wh xss fss).1, .bool (res x y wh xss fss).2]) ∧ Below w.heap.size w w' := by
  have HV0 := Lib.hid h
  have HF0 := Lib.hid hf
  obtain ⟨va, vn, vc, rfl⟩ := h.shape
  obtain ⟨fa, fn, fc, rfl⟩ := hf.shape
  clear h hf
  have B0 := Lib.hid (below_al (Below.refl w.heap.size w) (.cells #[.int .i64 x, .int .i64 y, .int .i64 wh, .slice va vn vc] 36))
  have P0 := Lib.hid (Blk.new w 36 #[.int .i64 x, .int .i64 y, .int .i64 wh, .slice va vn vc])
  have CP := Lib.hid (val.spec_any x y wh _ xss _ (HV0.out.below B0.out) hn)
  by_cases hs : okBox x y wh xss
  · have EB := Lib.hid (boxB_yes hs)
    by_cases hg : okFun x y fss
    · have HA := Lib.hid (show all x y wh xss fss from ⟨hs, hg⟩)
      have EF := Lib.hid (funB_yes hg)
      have hvb := val_bd hg
      have kw := mul_bd hs.2.1.1 hs.2.1.2 hvb.1 hvb.2
      have HLV := Lib.hid (fun (W : World) (hb : Below w.heap.size w W) => loc.l3value x y (.slice fa fn fc) fss W (HF0.out.below hb) HA.out.2)
      have HLW := Lib.hid (fun (W : World) (hb : Below w.heap.size w W) => worth.l2worth x y wh (.slice fa fn fc) (.slice va vn vc) fss xss W (HF0.out.below hb) (HV0.out.below hb) HA.out)
      rw [res_yes HA.out]
      clear hs hg hvb
      generalize val x y fss = lv at *
      generalize worth fss xss = lw at *
      go_enter Try.func25, Try.ntmps25
      go_wp2_with fail
      refine CP.out.mono ?_
      rintro e w1 ⟨rfl, hb⟩
      have B1 := Lib.hid (below_tr B0.out hb)
      have P1 := Lib.hid (P0.out.below hb)
      obtain ⟨c0, c1, c2, c3, c4⟩ := four_cells P1.out
      clear hb
      rw [EB.out]
      go_wp2_with fail
      refine (worth.spec_fun x y _ fss _ (HF0.out.below B1.out) hnf).mono ?_
      rintro e w' ⟨rfl, rfl⟩
      rw [EF.out]
      go_wp2_with fail
      go_region_held3 (fun w' => w'.cell? ⟨w.heap.size, 0, none⟩ = some (.int .i64 x) ∧ w'.cell? ⟨w.heap.size, 1, none⟩ = some (.int .i64 y) ∧ w'.cell? ⟨w.heap.size, 2, none⟩ = some (.int .i64 wh) ∧ w'.cell? ⟨w.heap.size, 3, none⟩ = some (.slice va vn vc) ∧ Below w1.heap.size w1 w')
        ((refine held4 c0 c1 c2 c3 ?_; repeat (first | exact Below.refl _ _ | assumption | refine below_dr ?_ | refine below_tr ?_ (by assumption))))
        (first
          | (go_at_call 62; (with_reducible refine (HLW.out _ (below_tr B1.out ?_)).mono ?_); (exact below_dr (Below.refl _ _)); rintro e w5 ⟨rfl, hb1⟩)
          | (go_at_call 59; (with_reducible refine (HLV.out _ (below_tr B1.out ?_)).mono ?_); (exact below_tr (below_dr (Below.refl _ _)) hb1); rintro e w6 ⟨rfl, hb2⟩))
      have hbt := below_tr (below_tr (below_dr (Below.refl _ _)) hb1) hb2
      have B2 := Lib.hid (below_tr B1.out hbt)
      clear hbt hb1 hb2 c0 c1 c2 c3 c4
      go_wp2_with fail
      go_ret2
      exact ⟨rfl, B2.out⟩
    · have EF := Lib.hid (funB_no hg)
      rw [res_no (fun h => hg h.2)]
      clear hs hg
      go_enter Try.func25, Try.ntmps25
      go_wp2_with fail
      refine CP.out.mono ?_
      rintro e w1 ⟨rfl, hb⟩
      have B1 := Lib.hid (below_tr B0.out hb)
      have P1 := Lib.hid (P0.out.below hb)
      obtain ⟨c0, c1, c2, c3, c4⟩ := four_cells P1.out
      clear hb
      rw [EB.out]
      go_wp2_with fail
      refine (worth.spec_fun x y _ fss _ (HF0.out.below B1.out) hnf).mono ?_
      rintro e w' ⟨rfl, rfl⟩
      rw [EF.out]
      go_wp2_with fail
      go_ret2
      exact ⟨rfl, B1.out⟩
  · have EB := Lib.hid (boxB_no hs)
    rw [res_no (fun h => hs h.1)]
    clear hs
    go_enter Try.func25, Try.ntmps25
    go_wp2_with fail
    refine CP.out.mono ?_
    rintro e w1 ⟨rfl, hb⟩
    have B1 := Lib.hid (below_tr B0.out hb)
    clear hb
    rw [EB.out]
    go_wp2_with fail
    go_ret2
    exact ⟨rfl, B1.out⟩

set_option maxHeartbeats 1000000 in
theorem impl_any (x y wh : Int) (v vf : Value) (xss fss : List (List Int)) (w : World) (h : IRows w v xss) (hf : IRows w vf fss) (hn : total xss ≤ 1048576) (hnf : total fss ≤ 1048576) :
    Calls Try.prog 27 #[.agg #[.int .i64 x, .int .i64 y, .int .i64 wh, v], vf] w fun e w' => e = .returned (.tuple #[.bool (res x y wh xss fss).1, .bool (res x y wh xss fss).2]) ∧ Below w.heap.size w w' := by
  have HV0 := Lib.hid h
  have HF0 := Lib.hid hf
  obtain ⟨va, vn, vc, rfl⟩ := h.shape
  obtain ⟨fa, fn, fc, rfl⟩ := hf.shape
  clear h hf
  have B0 := Lib.hid (below_al (Below.refl w.heap.size w) (.cells #[.int .i64 x, .int .i64 y, .int .i64 wh, .slice va vn vc] 36))
  have P0 := Lib.hid (Blk.new w 36 #[.int .i64 x, .int .i64 y, .int .i64 wh, .slice va vn vc])
  have CP := Lib.hid (worth.impl_any x y wh _ _ fss xss _ (HF0.out.below B0.out) (HV0.out.below B0.out) hnf hn)
  by_cases hs : okBox x y wh xss ∧ okFun x y fss
  · have HA := Lib.hid (show all x y wh xss fss from hs)
    have ER := Lib.hid (worth.res_yes hs)
    have EL := Lib.hid (loc.res_yes hs.2)
    have hvb := val_bd hs.2
    have kw := mul_bd hs.1.2.1.1 hs.1.2.1.2 hvb.1 hvb.2
    have HLV := Lib.hid (fun (W : World) (hb : Below w.heap.size w W) => loc.impl_value x y (.slice fa fn fc) fss W (HF0.out.below hb) hnf)
    rw [res_yes HA.out]
    clear hs hvb
    generalize hlv : val x y fss = lv at *
    generalize hlw : worth fss xss = lw at *
    have HE1 := Lib.hid hlv
    clear hlv hlw
    go_enter Try.func27, Try.ntmps27
    go_wp2_with fail
    refine CP.out.mono ?_
    rw [ER.out]
    rintro e w1 ⟨rfl, hb⟩
    have B1 := Lib.hid (below_tr B0.out hb)
    have P1 := Lib.hid (P0.out.below hb)
    obtain ⟨c0, c1, c2, c3, c4⟩ := four_cells P1.out
    clear hb
    go_wp2_with fail
    refine (HLV.out _ B1.out).mono ?_
    rw [EL.out]
    rintro e w2 ⟨rfl, hb⟩
    have B2 := Lib.hid (below_tr B1.out hb)
    have P2 := Lib.hid (P1.out.below hb)
    clear hb c0 c1 c2 c3 c4
    obtain ⟨c0, c1, c2, c3, c4⟩ := four_cells P2.out
    go_wp2_with fail
    go_ret2
    exact ⟨rfl, B2.out⟩
  · have ER := Lib.hid (worth.res_no hs)
    rw [res_no hs]
    clear hs
    go_enter Try.func27, Try.ntmps27
    go_wp2_with fail
    refine CP.out.mono ?_
    rw [ER.out]
    rintro e w1 ⟨rfl, hb⟩
    have B1 := Lib.hid (below_tr B0.out hb)
    clear hb
    go_wp2_with fail
    go_ret2
    exact ⟨rfl, B1.out⟩

end Go.Proofs.Ytkajebhagkbcaab.wit
