/- IsRule of the model and of the program. -/
import Derived.Test.YtiigfhigmdjooaaWrm
import Derived.Test.YtiigfhigmdjooaaRule
namespace Go.Proofs.Ytiigfhigmdjooaa.rul
open Go.RowKit Go.Deep Go.Proofs.Ytiigfhigmdjooaa.base
open Go.Proofs.Ytiigfhigmdjooaa.ints (ret_int)
open Go.Proofs.Ytiigfhigmdjooaa.play (within withinB withinB_yes withinB_no)
open Go.Proofs.Ytiigfhigmdjooaa.wrm (tab tabB tabB_yes tabB_no rule ruleB ruleB_yes ruleB_no)
open Go.Proofs.Ytiigfhigmdjooaa.scene (three_cells)
open Go.Proofs.Ytiigfhigmdjooaa.rule (RV)


set_option maxHeartbeats 1000000 in
theorem itab (v : Value) (xss : List (List Int)) (n : Int) (w : World) (h : IRows w v xss) :
    Calls Try.prog 193 #[v, .int .i64 n] w fun e w' => e = .returned (.bool (tabB n xss)) ∧ w = w' := by
  obtain ⟨A, b, o, cap, R, rfl, hcap, hmax, hA, hc⟩ := h.form
  clear h hmax hcap
  by_cases hl : xss.length = 2
  · have dl : ((xss.length : Int) == 2) = true := by simp [hl]
    have p0 : 0 < xss.length := by omega
    have p1 : 1 < xss.length := by omega
    have q0 : (0 : Int) < (xss.length : Int) := by omega
    have q1 : (1 : Int) < (xss.length : Int) := by omega
    obtain rfl := hA (by omega)
    obtain ⟨g0, i0⟩ := hc 0 p0
    obtain ⟨g1, i1⟩ := hc 1 p1
    rw [Nat.add_zero] at g0
    have e0 : xss.getD 0 [] = xss[0] := row.getD_lt p0
    have e1 : xss.getD 1 [] = xss[1] := row.getD_lt p1
    have I0 := play.impl_bits (R 0) xss[0] n w i0
    have I1 := play.impl_bits (R 1) xss[1] n w i1
    by_cases h0 : within n 0 1 xss[0]
    · rw [withinB_yes h0] at I0
      by_cases h1 : within n 0 1 xss[1]
      · rw [withinB_yes h1] at I1
        have HT : Hid (tabB n xss = true) := Lib.hid (tabB_yes ⟨hl, by rw [e0]; exact h0, by rw [e1]; exact h1⟩)
        have H0 := Lib.hid I0
        have H1 := Lib.hid I1
        clear I0 I1 i0 i1 e0 e1 hc hA hl h0 h1
        go_enter Try.func193, Try.ntmps193
        go_wp2_with fail
        refine H0.out.mono ?_
        rintro e w' ⟨rfl, rfl⟩
        go_wp2_with fail
        refine H1.out.mono ?_
        rintro e w' ⟨rfl, rfl⟩
        go_wp2_with fail
        go_ret
        exact ⟨val.ret_b HT.out.symm, rfl⟩
      · rw [withinB_no h1] at I1
        have HT : Hid (tabB n xss = false) := Lib.hid (tabB_no (fun h => h1 (by rw [← e1]; exact h.2.2)))
        have H0 := Lib.hid I0
        have H1 := Lib.hid I1
        clear I0 I1 i0 i1 e0 e1 hc hA hl h0 h1
        go_enter Try.func193, Try.ntmps193
        go_wp2_with fail
        refine H0.out.mono ?_
        rintro e w' ⟨rfl, rfl⟩
        go_wp2_with fail
        refine H1.out.mono ?_
        rintro e w' ⟨rfl, rfl⟩
        go_wp2_with fail
        go_ret
        exact ⟨val.ret_b HT.out.symm, rfl⟩
    · rw [withinB_no h0] at I0
      have HT : Hid (tabB n xss = false) := Lib.hid (tabB_no (fun h => h0 (by rw [← e0]; exact h.2.1)))
      have H0 := Lib.hid I0
      have H1 := Lib.hid I1
      clear I0 I1 i0 i1 e0 e1 hc hA hl h0
      go_enter Try.func193, Try.ntmps193
      go_wp2_with fail
      refine H0.out.mono ?_
      rintro e w' ⟨rfl, rfl⟩
      go_wp2_with fail
      go_ret
      exact ⟨val.ret_b HT.out.symm, rfl⟩
  · have dl : ((xss.length : Int) == 2) = false := by simp; omega
    have HT : Hid (tabB n xss = false) := Lib.hid (tabB_no (fun h => hl h.1))
    clear hl hc hA
    go_enter Try.func193, Try.ntmps193
    go_wp2_with fail
    go_ret
    exact ⟨val.ret_b HT.out.symm, rfl⟩



set_option maxHeartbeats 1000000 in
theorem stab (v : Value) (xss : List (List Int)) (n : Int) (w : World) (h : IRows w v xss) :
    Calls Try.prog 189 #[v, .int .i64 2, .int .i64 n] w fun e w' => e = .returned (.bool (tabB n xss)) ∧ w = w' := by
  obtain ⟨A, b, o, cap, R, rfl, hcap, hmax, hA, hc⟩ := h.form
  have hm : (xss.length : Int) ≤ 9223372036854775807 := by unfold maxLen at hmax; omega
  clear h hmax hcap
  go_enter Try.func189, Try.ntmps189
  go_wp2_with fail
  go_loopw [6, 7] (fun q i wr => ∃ k : Nat, k ≤ xss.length ∧ i = .int .i64 k ∧ q = .bool false ∧ Hid (∀ j (h : j < xss.length), j < k → within n 0 1 xss[j]) ∧ w = wr) (fun _ i _ => xss.length - (intOf i).toNat)
  case atStart => exact ⟨0, Nat.zero_le _, rfl, rfl, Lib.hid (fun j _ hj => by omega), rfl⟩
  case round =>
    obtain ⟨k, hk, rfl, rfl, hH, rfl⟩ := hrel
    by_cases hlt : k < xss.length
    · have hkz : (k : Int) < (xss.length : Int) := by omega
      obtain rfl := hA (by omega)
      obtain ⟨g0, i0⟩ := hc k hlt
      have I0 := play.spec_bits (R k) xss[k] n w i0
      have HC := Lib.hid hc
      clear hc hA i0
      by_cases hin : within n 0 1 xss[k]
      · rw [withinB_yes hin] at I0
        have H0 := Lib.hid I0
        clear I0
        go_wp2_with fail
        refine H0.out.mono ?_
        rintro e w' ⟨rfl, rfl⟩
        go_wp2_with fail
        go_roundw
        case rel =>
          refine ⟨k + 1, by omega, by go_num, rfl, Lib.hid (fun j hj hj' => ?_), by first | rfl | trivial⟩
          by_cases e : j = k
          · subst e; exact hin
          · exact hH.out j hj (by omega)
        case measure => simp [intOf]; omega
      · rw [withinB_no hin] at I0
        have H0 := Lib.hid I0
        have HT : Hid (tabB n xss = false) := Lib.hid (tabB_no (fun h => hin (by
          have hl := h.1
          obtain rfl | rfl : k = 0 ∨ k = 1 := by omega
          · rw [← row.getD_lt hlt]; exact h.2.1
          · rw [← row.getD_lt hlt]; exact h.2.2)))
        clear I0 hin
        go_wp2_with fail
        refine H0.out.mono ?_
        rintro e w' ⟨rfl, rfl⟩
        go_wp2_with fail
        go_ret
        exact ⟨val.ret_b HT.out.symm, rfl⟩
    · have hkz : ¬ (k : Int) < (xss.length : Int) := by omega
      by_cases hl : xss.length = 2
      · have dl : ((xss.length : Int) == 2) = true := by simp [hl]
        have HT : Hid (tabB n xss = true) := Lib.hid (tabB_yes ⟨hl, by rw [row.getD_lt (by omega : 0 < xss.length)]; exact hH.out 0 (by omega) (by omega), by rw [row.getD_lt (by omega : 1 < xss.length)]; exact hH.out 1 (by omega) (by omega)⟩)
        clear hc hA hl
        go_wp2_with fail
        go_ret
        exact ⟨val.ret_b HT.out.symm, rfl⟩
      · have dl : ((xss.length : Int) == 2) = false := by simp; omega
        have HT : Hid (tabB n xss = false) := Lib.hid (tabB_no (fun h => hl h.1))
        clear hc hA hl
        go_wp2_with fail
        go_ret
        exact ⟨val.ret_b HT.out.symm, rfl⟩



set_option maxHeartbeats 1000000 in
theorem spec_is (sv : Value) (ss : List Int) (u : Value) (xss : List (List Int)) (nv : Value) (yss : List (List Int)) (w : World) (h : RV w sv ss u xss nv yss) :
    Calls Try.prog 135 #[.agg #[sv, u, nv]] w fun e w' => e = .returned (.bool (ruleB ss xss yss)) ∧ Below w.heap.size w w' := by
  obtain ⟨va, vn, vc, ua, un, uc, na, nn, nc, rfl, rfl, rfl⟩ := h.shape
  have B0 := Lib.hid (below_al (Below.refl w.heap.size w) (.cells #[.slice va vn vc, .slice ua un uc, .slice na nn nc] 88))
  have H := h.below B0.out
  have I0 := play.spec_bits _ ss 2 _ H.ints
  have I1 := stab _ xss 2 _ H.rows
  have I2 := stab _ yss 4 _ H.rows2
  clear h H
  by_cases h0 : within 2 0 1 ss
  · rw [withinB_yes h0] at I0
    by_cases h1 : tab 2 xss
    · rw [tabB_yes h1] at I1
      by_cases h2 : tab 4 yss
      · rw [tabB_yes h2] at I2
        have HT : Hid (ruleB ss xss yss = true) := Lib.hid (ruleB_yes ⟨h0, h1, h2⟩)
        clear h0 h1 h2
        have H0 := Lib.hid I0
        have H1 := Lib.hid I1
        have H2 := Lib.hid I2
        clear I0 I1 I2
        go_enter Try.func135, Try.ntmps135
        go_wp2_with fail
        refine H0.out.mono ?_
        rintro e w' ⟨rfl, rfl⟩
        go_wp2_with fail
        refine H1.out.mono ?_
        rintro e w' ⟨rfl, rfl⟩
        go_wp2_with fail
        refine H2.out.mono ?_
        rintro e w' ⟨rfl, rfl⟩
        go_wp2_with fail
        go_ret
        exact ⟨val.ret_b HT.out.symm, B0.out⟩
      · rw [tabB_no h2] at I2
        have HT : Hid (ruleB ss xss yss = false) := Lib.hid (ruleB_no (fun h => h2 h.2.2))
        clear h0 h1 h2
        have H0 := Lib.hid I0
        have H1 := Lib.hid I1
        have H2 := Lib.hid I2
        clear I0 I1 I2
        go_enter Try.func135, Try.ntmps135
        go_wp2_with fail
        refine H0.out.mono ?_
        rintro e w' ⟨rfl, rfl⟩
        go_wp2_with fail
        refine H1.out.mono ?_
        rintro e w' ⟨rfl, rfl⟩
        go_wp2_with fail
        refine H2.out.mono ?_
        rintro e w' ⟨rfl, rfl⟩
        go_wp2_with fail
        go_ret
        exact ⟨val.ret_b HT.out.symm, B0.out⟩
    · rw [tabB_no h1] at I1
      have HT : Hid (ruleB ss xss yss = false) := Lib.hid (ruleB_no (fun h => h1 h.2.1))
      clear h0 h1
      have H0 := Lib.hid I0
      have H1 := Lib.hid I1
      have H2 := Lib.hid I2
      clear I0 I1 I2
      go_enter Try.func135, Try.ntmps135
      go_wp2_with fail
      refine H0.out.mono ?_
      rintro e w' ⟨rfl, rfl⟩
      go_wp2_with fail
      refine H1.out.mono ?_
      rintro e w' ⟨rfl, rfl⟩
      go_wp2_with fail
      go_ret
      exact ⟨val.ret_b HT.out.symm, B0.out⟩
  · rw [withinB_no h0] at I0
    have HT : Hid (ruleB ss xss yss = false) := Lib.hid (ruleB_no (fun h => h0 h.1))
    clear h0
    have H0 := Lib.hid I0
    have H1 := Lib.hid I1
    have H2 := Lib.hid I2
    clear I0 I1 I2
    go_enter Try.func135, Try.ntmps135
    go_wp2_with fail
    refine H0.out.mono ?_
    rintro e w' ⟨rfl, rfl⟩
    go_wp2_with fail
    go_ret
    exact ⟨val.ret_b HT.out.symm, B0.out⟩



set_option maxHeartbeats 1000000 in
theorem impl_is (sv : Value) (ss : List Int) (u : Value) (xss : List (List Int)) (nv : Value) (yss : List (List Int)) (w : World) (h : RV w sv ss u xss nv yss) :
    Calls Try.prog 141 #[.agg #[sv, u, nv]] w fun e w' => e = .returned (.bool (ruleB ss xss yss)) ∧ Below w.heap.size w w' := by
  obtain ⟨va, vn, vc, ua, un, uc, na, nn, nc, rfl, rfl, rfl⟩ := h.shape
  have B0 := Lib.hid (below_al (Below.refl w.heap.size w) (.cells #[.slice va vn vc, .slice ua un uc, .slice na nn nc] 88))
  have H := h.below B0.out
  have I0 := play.impl_bits _ ss 2 _ H.ints
  have I1 := itab _ xss 2 _ H.rows
  have I2 := itab _ yss 4 _ H.rows2
  clear h H
  by_cases h0 : within 2 0 1 ss
  · rw [withinB_yes h0] at I0
    by_cases h1 : tab 2 xss
    · rw [tabB_yes h1] at I1
      by_cases h2 : tab 4 yss
      · rw [tabB_yes h2] at I2
        have HT : Hid (ruleB ss xss yss = true) := Lib.hid (ruleB_yes ⟨h0, h1, h2⟩)
        clear h0 h1 h2
        have H0 := Lib.hid I0
        have H1 := Lib.hid I1
        have H2 := Lib.hid I2
        clear I0 I1 I2
        go_enter Try.func141, Try.ntmps141
        go_wp2_with fail
        refine H0.out.mono ?_
        rintro e w' ⟨rfl, rfl⟩
        go_wp2_with fail
        refine H1.out.mono ?_
        rintro e w' ⟨rfl, rfl⟩
        go_wp2_with fail
        refine H2.out.mono ?_
        rintro e w' ⟨rfl, rfl⟩
        go_wp2_with fail
        go_ret
        exact ⟨val.ret_b HT.out.symm, B0.out⟩
      · rw [tabB_no h2] at I2
        have HT : Hid (ruleB ss xss yss = false) := Lib.hid (ruleB_no (fun h => h2 h.2.2))
        clear h0 h1 h2
        have H0 := Lib.hid I0
        have H1 := Lib.hid I1
        have H2 := Lib.hid I2
        clear I0 I1 I2
        go_enter Try.func141, Try.ntmps141
        go_wp2_with fail
        refine H0.out.mono ?_
        rintro e w' ⟨rfl, rfl⟩
        go_wp2_with fail
        refine H1.out.mono ?_
        rintro e w' ⟨rfl, rfl⟩
        go_wp2_with fail
        refine H2.out.mono ?_
        rintro e w' ⟨rfl, rfl⟩
        go_wp2_with fail
        go_ret
        exact ⟨val.ret_b HT.out.symm, B0.out⟩
    · rw [tabB_no h1] at I1
      have HT : Hid (ruleB ss xss yss = false) := Lib.hid (ruleB_no (fun h => h1 h.2.1))
      clear h0 h1
      have H0 := Lib.hid I0
      have H1 := Lib.hid I1
      have H2 := Lib.hid I2
      clear I0 I1 I2
      go_enter Try.func141, Try.ntmps141
      go_wp2_with fail
      refine H0.out.mono ?_
      rintro e w' ⟨rfl, rfl⟩
      go_wp2_with fail
      refine H1.out.mono ?_
      rintro e w' ⟨rfl, rfl⟩
      go_wp2_with fail
      go_ret
      exact ⟨val.ret_b HT.out.symm, B0.out⟩
  · rw [withinB_no h0] at I0
    have HT : Hid (ruleB ss xss yss = false) := Lib.hid (ruleB_no (fun h => h0 h.1))
    clear h0
    have H0 := Lib.hid I0
    have H1 := Lib.hid I1
    have H2 := Lib.hid I2
    clear I0 I1 I2
    go_enter Try.func141, Try.ntmps141
    go_wp2_with fail
    refine H0.out.mono ?_
    rintro e w' ⟨rfl, rfl⟩
    go_wp2_with fail
    go_ret
    exact ⟨val.ret_b HT.out.symm, B0.out⟩




end Go.Proofs.Ytiigfhigmdjooaa.rul
