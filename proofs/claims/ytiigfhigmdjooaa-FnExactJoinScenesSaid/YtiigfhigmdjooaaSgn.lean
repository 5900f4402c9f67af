/- Sign games: what one is; both sides' IsSignGame. -/
import Derived.Test.YtiigfhigmdjooaaPlay
import Derived.BigQuiet
namespace Go.Proofs.Ytiigfhigmdjooaa.sgn
open Go.RowKit Go.Deep Go.Proofs.Ytiigfhigmdjooaa.base
open Go.Proofs.Ytiigfhigmdjooaa.val (okSizes ret_b)
open Go.Proofs.Ytiigfhigmdjooaa.play (within withinB withinB_yes withinB_no)

/-- how many numbers the first list has -/
def wide (xss : List (List Int)) : Nat := (xss.getD 0 []).length
/-- what a sign game is -/
def okSign (xss : List (List Int)) : Prop := okSizes xss.length (wide xss) ∧ ∀ k (h : k < xss.length), within (wide xss) (-9) 9 xss[k]
open Classical in
noncomputable def signB (xss : List (List Int)) : Bool := if okSign xss then true else false
theorem signB_yes {xss : List (List Int)} (h : okSign xss) : signB xss = true := if_pos h
theorem signB_no {xss : List (List Int)} (h : ¬ okSign xss) : signB xss = false := if_neg h
theorem wide_eq {xss : List (List Int)} (h : 0 < xss.length) : wide xss = xss[0].length := by
  unfold wide; simp [List.getD, h]

set_option maxHeartbeats 1000000 in
theorem spec_row (v : Value) (xs : List Int) (n most : Int) (w : World) (h : Ints w v xs) (h0 : 0 ≤ most) (h1 : most ≤ 1000) :
    Calls Try.prog 167 #[v, .int .i64 n, .int .i64 most] w fun e w' => e = .returned (.bool (withinB n (-most) most xs)) ∧ w = w' := by
  obtain ⟨A, b, o, cap, rfl, hcap, hmax, hA, hc⟩ := h.form
  have hm : (xs.length : Int) ≤ 9223372036854775807 := by unfold maxLen at hmax; omega
  clear h hmax
  go_enter Try.func167, Try.ntmps167
  go_wp2
  go_loopw [6, 7] (fun q i wr => ∃ k : Nat, k ≤ xs.length ∧ i = .int .i64 k ∧ q = .bool false ∧ Hid (∀ j (h : j < xs.length), j < k → -most ≤ xs[j] ∧ xs[j] ≤ most) ∧ w = wr) (fun _ i _ => xs.length - (intOf i).toNat)
  case atStart => exact ⟨0, Nat.zero_le _, rfl, rfl, fun j _ hj => by omega, rfl⟩
  case round =>
    obtain ⟨k, hk, rfl, rfl, hH, rfl⟩ := hrel
    by_cases hlt : k < xs.length
    · have hkz : (k : Int) < (xs.length : Int) := by omega
      obtain rfl := hA (by omega)
      have g0 := hc k hlt
      have HC := Lib.hid hc
      clear hc hA
      by_cases hin : -most ≤ xs[k] ∧ xs[k] ≤ most
      · obtain ⟨i1, i2⟩ := hin
        go_wp2_with fail
        refine (val.in_yes _ _ _ _ i1 i2).mono ?_
        rintro e w' ⟨rfl, rfl⟩
        go_wp2_with fail
        go_roundw
        case rel =>
          refine ⟨k + 1, by omega, by go_num, rfl, fun j hj hj' => ?_, by first | rfl | trivial⟩
          by_cases e : j = k
          · subst e; exact ⟨i1, i2⟩
          · exact hH.out j hj (by omega)
        case measure => simp [intOf]; omega
      · have hbad : xs[k] < -most ∨ most < xs[k] := by omega
        have HN : Hid (¬ within n (-most) most xs) := Lib.hid (fun h => hin (h.2 k hlt))
        clear hin
        go_wp2_with fail
        refine (val.in_no _ _ _ _ hbad).mono ?_
        rintro e w' ⟨rfl, rfl⟩
        clear hbad
        go_wp2_with fail
        go_ret
        exact ⟨ret_b (withinB_no HN.out).symm, rfl⟩
    · have hkz : ¬ (k : Int) < (xs.length : Int) := by omega
      clear hc hA
      by_cases hl : (xs.length : Int) = n
      · have dl : ((xs.length : Int) == n) = true := by simp [hl]
        have HN : Hid (within n (-most) most xs) := Lib.hid ⟨hl, fun j hj => hH.out j hj (by omega)⟩
        clear hl
        go_wp2_with fail
        go_ret
        exact ⟨ret_b (withinB_yes HN.out).symm, rfl⟩
      · have dl : ((xs.length : Int) == n) = false := by simp [hl]
        have HN : Hid (¬ within n (-most) most xs) := Lib.hid (fun h => hl h.1)
        clear hl
        go_wp2_with fail
        go_ret
        exact ⟨ret_b (withinB_no HN.out).symm, rfl⟩

set_option maxHeartbeats 1000000 in
theorem impl_lists (v : Value) (xss : List (List Int)) (n most : Int) (w : World) (h : IRows w v xss) (h0 : 0 ≤ most) (h1 : most ≤ 1000) :
    ∃ r : Bool, (r = true ↔ ∀ k (h : k < xss.length), within n (-most) most xss[k]) ∧
    Calls Try.prog 168 #[v, .int .i64 n, .int .i64 most] w fun e w' => e = .returned (.bool r) ∧ w = w' := by
  obtain ⟨B, d, q, cap, R, rfl, hcap, hmax, hB, hr⟩ := h.form
  have hm : (xss.length : Int) ≤ 9223372036854775807 := by unfold maxLen at hmax; omega
  clear h hmax
  by_cases hall : ∀ k (h : k < xss.length), within n (-most) most xss[k]
  · refine ⟨true, ⟨fun _ => hall, fun _ => rfl⟩, ?_⟩
    have HALL := Lib.hid hall
    clear hall
    go_enter Try.func168, Try.ntmps168
    go_wp2
    go_loopw [6, 8, 11] (fun q' z i wr => ∃ k : Nat, k ≤ xss.length ∧ i = .int .i64 k ∧ q' = .bool false ∧ (∃ z', z = z') ∧ w = wr) (fun _ _ i _ => xss.length - (intOf i).toNat)
    case atStart => exact ⟨0, Nat.zero_le _, rfl, rfl, ⟨_, rfl⟩, rfl⟩
    case round =>
      obtain ⟨k, hk, rfl, rfl, ⟨z', rfl⟩, rfl⟩ := hrel
      by_cases hlt : k < xss.length
      · have hkz : (k : Int) < (xss.length : Int) := by omega
        obtain rfl := hB (by omega)
        obtain ⟨g0, g1⟩ := hr k hlt
        have HF := Lib.hid (play.impl_within (R k) xss[k] n (-most) most w g1)
        have HE := Lib.hid (withinB_yes (HALL.out k hlt))
        clear hr hB g1
        go_wp2_with fail
        refine HF.out.mono ?_
        rintro e w' ⟨rfl, rfl⟩
        rw [HE.out]
        go_wp2_with fail
        go_roundw
        case rel => exact ⟨k + 1, by omega, by go_num, rfl, ⟨_, rfl⟩, by first | rfl | trivial⟩
        case measure => simp [intOf]; omega
      · have hkz : ¬ (k : Int) < (xss.length : Int) := by omega
        clear hr hB
        go_wp2_with fail
        go_ret
        exact ⟨rfl, rfl⟩
  · refine ⟨false, ⟨fun h => (by cases h), fun h => absurd h hall⟩, ?_⟩
    have HALL := Lib.hid hall
    clear hall
    go_enter Try.func168, Try.ntmps168
    go_wp2
    go_loopw [6, 8, 11] (fun q' z i wr => ∃ k : Nat, k ≤ xss.length ∧ i = .int .i64 k ∧ q' = .bool false ∧ (∃ z', z = z') ∧ Hid (∀ j (h : j < xss.length), j < k → within n (-most) most xss[j]) ∧ w = wr) (fun _ _ i _ => xss.length - (intOf i).toNat)
    case atStart => exact ⟨0, Nat.zero_le _, rfl, rfl, ⟨_, rfl⟩, fun j _ hj => by omega, rfl⟩
    case round =>
      obtain ⟨k, hk, rfl, rfl, ⟨z', rfl⟩, hH, rfl⟩ := hrel
      by_cases hlt : k < xss.length
      · have hkz : (k : Int) < (xss.length : Int) := by omega
        obtain rfl := hB (by omega)
        obtain ⟨g0, g1⟩ := hr k hlt
        have HF := Lib.hid (play.impl_within (R k) xss[k] n (-most) most w g1)
        clear hr hB g1
        by_cases hw : within n (-most) most xss[k]
        · have HE := Lib.hid (withinB_yes hw)
          have HW := Lib.hid hw
          clear hw
          go_wp2_with fail
          refine HF.out.mono ?_
          rintro e w' ⟨rfl, rfl⟩
          rw [HE.out]
          go_wp2_with fail
          go_roundw
          case rel =>
            refine ⟨k + 1, by omega, by go_num, rfl, ⟨_, rfl⟩, fun j hj hj' => ?_, by first | rfl | trivial⟩
            by_cases e : j = k
            · subst e; exact HW.out
            · exact hH.out j hj (by omega)
          case measure => simp [intOf]; omega
        · have HE := Lib.hid (withinB_no hw)
          clear hw
          go_wp2_with fail
          refine HF.out.mono ?_
          rintro e w' ⟨rfl, rfl⟩
          rw [HE.out]
          go_wp2_with fail
          go_ret
          exact ⟨rfl, rfl⟩
      · exact absurd (fun j hj => hH.out j hj (by omega)) HALL.out

theorem ints_slice {w : World} {v : Value} {xs : List Int} (h : Ints w v xs) : ∃ A c, v = .slice A xs.length c := by
  obtain ⟨A, c, hv, _⟩ := h; exact ⟨A, c, by rw [hv, len_i64s]⟩


set_option maxHeartbeats 2000000 in
theorem spec_good (v : Value) (xss : List (List Int)) (w : World) (h : IRows w v xss) :
    Calls Try.prog 98 #[v] w fun e w' => e = .returned (.bool (signB xss)) ∧ ∃ n, w' = w.drewN n := by
  obtain ⟨B, d, q, cap, R, rfl, hcap, hmax, hB, hr⟩ := h.form
  have hm : (xss.length : Int) ≤ 9223372036854775807 := by unfold maxLen at hmax; omega
  clear h hmax
  go_enter Try.func98, Try.ntmps98
  go_wp2_with fail
  go_loopw [2, 3] (fun q' i wr => ∃ k : Nat, k ≤ xss.length ∧ i = .int .i64 k ∧ q' = .bool false ∧ Hid (∀ j (h : j < xss.length), j < k → (1 ≤ xss[j].length ∧ xss[j].length ≤ 3) ∧ within (wide xss) (-9) 9 xss[j]) ∧ ∃ n, wr = w.drewN n) (fun _ i _ => xss.length - (intOf i).toNat)
  case atStart => exact ⟨0, Nat.zero_le _, rfl, rfl, fun j _ hj => by omega, 0, rfl⟩
  case round =>
    obtain ⟨k, hk, rfl, rfl, hH, n, rfl⟩ := hrel
    by_cases hlt : k < xss.length
    · have hkz : (k : Int) < (xss.length : Int) := by omega
      have hpos : 0 < xss.length := by omega
      have hkz0 : (0 : Int) < (xss.length : Int) := by omega
      obtain rfl := hB (by omega)
      obtain ⟨g0, g1⟩ := hr k hlt
      obtain ⟨a0, a1⟩ := hr 0 hpos
      have HW := Lib.hid (wide_eq hpos)
      obtain ⟨A1, c1, e1⟩ := ints_slice g1
      obtain ⟨A2, c2, e2⟩ := ints_slice a1
      rw [e1] at g0
      rw [e2, ← HW.out] at a0
      rw [e1] at g1
      rw [Nat.add_zero] at a0
      have hf : ∀ W : World, (∀ a u, w.cell? a = some u → W.cell? a = some u) → Calls Try.prog 167 #[.slice A1 xss[k].length c1, .int .i64 (wide xss), .int .i64 9] W fun e w' => e = .returned (.bool (withinB (wide xss) (-9) 9 xss[k])) ∧ W = w' := fun W hW =>
        spec_row _ xss[k] (wide xss) 9 W (g1.keep hW) (by omega) (by omega)
      have HR := Lib.hid hr
      clear hr hB a1 g1 e1 e2
      by_cases hin : 1 ≤ xss[k].length ∧ xss[k].length ≤ 3
      · have HIN := Lib.hid hin
        have i1 : (1 : Int) ≤ (xss[k].length : Int) := by omega
        have i2 : (xss[k].length : Int) ≤ 3 := by omega
        by_cases hw : within (wide xss) (-9) 9 xss[k]
        · rw [withinB_yes hw] at hf
          have HF := Lib.hid hf
          have HWI := Lib.hid hw
          clear hf hw hin
          go_wp2_with fail
          go_quiet (first | (go_at_call 138; go_must (exact ints.quiet_at_same (val.in_yes _ _ _ _ i1 i2))) | (go_at_call 167; go_must (exact ints.quiet_at_same (HF.out _ (fun a u h => by simpa using h)))))
          go_wp2_with fail
          go_roundw
          case rel =>
            refine ⟨k + 1, by omega, by go_num, rfl, fun j hj hj' => ?_, by first | exact ⟨_, rfl⟩ | exact ⟨_, World.drewN_drewN _ _ _⟩⟩
            by_cases e : j = k
            · subst e; exact ⟨HIN.out, HWI.out⟩
            · exact hH.out j hj (by omega)
          case measure => simp [intOf]; omega
        · rw [withinB_no hw] at hf
          have HF := Lib.hid hf
          have HN : Hid (¬ okSign xss) := Lib.hid (fun h => hw (h.2 k hlt))
          clear hf hw hin
          go_wp2_with fail
          go_quiet (first | (go_at_call 138; go_must (exact ints.quiet_at_same (val.in_yes _ _ _ _ i1 i2))) | (go_at_call 167; go_must (exact ints.quiet_at_same (HF.out _ (fun a u h => by simpa using h)))))
          go_wp2_with fail
          go_ret
          exact ⟨ret_b (signB_no HN.out).symm, by first | exact ⟨_, rfl⟩ | exact ⟨_, World.drewN_drewN _ _ _⟩⟩
      · have hbad : (xss[k].length : Int) < 1 ∨ 3 < (xss[k].length : Int) := by omega
        have HN : Hid (¬ okSign xss) := Lib.hid (fun h => by
          have h1 := (h.2 k hlt).1
          have h2 := h.1.2
          omega)
        clear hin hf
        go_wp2_with fail
        go_quiet ((go_at_call 138; go_must (exact ints.quiet_at_same (val.in_no _ _ _ _ hbad))))
        go_wp2_with fail
        go_ret
        exact ⟨ret_b (signB_no HN.out).symm, by first | exact ⟨_, rfl⟩ | exact ⟨_, World.drewN_drewN _ _ _⟩⟩
    · have hkz : ¬ (k : Int) < (xss.length : Int) := by omega
      clear hr hB
      by_cases hl : 1 ≤ xss.length ∧ xss.length ≤ 3
      · have HN : Hid (okSign xss) := Lib.hid (by
          obtain ⟨h1, h2⟩ := hl
          refine ⟨⟨⟨by omega, by omega⟩, ?_⟩, fun j hj => (hH.out j hj (by omega)).2⟩
          have h3 := (hH.out 0 (by omega) (by omega)).1
          rw [wide_eq (show 0 < xss.length by omega)]
          exact ⟨by omega, by omega⟩)
        have i1 : (1 : Int) ≤ (xss.length : Int) := by omega
        have i2 : (xss.length : Int) ≤ 3 := by omega
        clear hl
        go_wp2_with fail
        refine (val.in_yes _ _ _ _ i1 i2).mono ?_
        rintro e w' ⟨rfl, rfl⟩
        go_wp2_with fail
        go_ret
        exact ⟨ret_b (signB_yes HN.out).symm, _, rfl⟩
      · have HN : Hid (¬ okSign xss) := Lib.hid (fun h => by have := h.1.1; omega)
        have hbad : (xss.length : Int) < 1 ∨ 3 < (xss.length : Int) := by omega
        clear hl
        go_wp2_with fail
        refine (val.in_no _ _ _ _ hbad).mono ?_
        rintro e w' ⟨rfl, rfl⟩
        go_wp2_with fail
        go_ret
        exact ⟨ret_b (signB_no HN.out).symm, _, rfl⟩


set_option maxHeartbeats 2000000 in
theorem impl_sign (v : Value) (xss : List (List Int)) (w : World) (h : IRows w v xss) :
    Calls Try.prog 102 #[v] w fun e w' => e = .returned (.bool (signB xss)) ∧ w = w' := by
  obtain ⟨r, hr1, hL⟩ := impl_lists v xss (wide xss) 9 w h (by omega) (by omega)
  obtain ⟨B, d, q, cap, R, rfl, hcap, hmax, hB, hr⟩ := h.form
  have hm : (xss.length : Int) ≤ 9223372036854775807 := by unfold maxLen at hmax; omega
  have HL := Lib.hid hL
  clear h hmax hL
  by_cases h0 : xss.length = 0
  · have HN : Hid (¬ okSign xss) := Lib.hid (fun h => by have := h.1.1; omega)
    have d0 : ((xss.length : Int) == 0) = true := by simp [h0]
    clear hr hB h0
    go_enter Try.func102, Try.ntmps102
    go_wp2_with fail
    go_ret
    exact ⟨ret_b (signB_no HN.out).symm, rfl⟩
  · have hpos : 0 < xss.length := by omega
    have d0 : ((xss.length : Int) == 0) = false := beq_eq_false_iff_ne.2 (by omega)
    have hkz0 : (0 : Int) < (xss.length : Int) := by omega
    obtain rfl := hB (by omega)
    obtain ⟨a0, a1⟩ := hr 0 hpos
    obtain ⟨A2, c2, e2⟩ := ints_slice a1
    rw [e2, ← wide_eq hpos, Nat.add_zero] at a0
    clear hr hB a1 e2 h0
    by_cases hs : okSizes xss.length (wide xss)
    · have HSZ := Lib.hid hs
      have HE : Hid (r = signB xss) := Lib.hid (by
        cases r with
        | true => exact (signB_yes ⟨hs, hr1.1 rfl⟩).symm
        | false => exact (signB_no (fun h => by have := hr1.2 h.2; cases this)).symm)
      clear hs hr1
      go_enter Try.func102, Try.ntmps102
      go_wp2_with fail
      refine (val.isizes_yes _ _ _ HSZ.out).mono ?_
      rintro e w' ⟨rfl, rfl⟩
      go_wp2_with fail
      refine HL.out.mono ?_
      rintro e w' ⟨rfl, rfl⟩
      go_wp2_with fail
      go_ret
      exact ⟨ret_b HE.out, rfl⟩
    · have HSZ := Lib.hid hs
      have HN : Hid (¬ okSign xss) := Lib.hid (fun h => hs h.1)
      clear hs hr1
      go_enter Try.func102, Try.ntmps102
      go_wp2_with fail
      refine (val.isizes_no _ _ _ HSZ.out).mono ?_
      rintro e w' ⟨rfl, rfl⟩
      go_wp2_with fail
      go_ret
      exact ⟨ret_b (signB_no HN.out).symm, rfl⟩


theorem impl_is (v : Value) (xss : List (List Int)) (w : World) (h : IRows w v xss) :
    Calls Try.prog 102 #[v] w fun e w' => e = .returned (.bool (signB xss)) ∧ Below w.heap.size w w' :=
  (impl_sign v xss w h).mono (fun _ _ ⟨h1, h2⟩ => ⟨h1, h2 ▸ Below.refl _ _⟩)

end Go.Proofs.Ytiigfhigmdjooaa.sgn
