/- Lists of numbers between two bounds; plays; IsPlay of the program and of the model. -/
import Derived.Test.YtiigfhigmdjooaaVal
namespace Go.Proofs.Ytiigfhigmdjooaa.play
open Go.RowKit Go.Deep Go.Proofs.Ytiigfhigmdjooaa.base
open Go.Proofs.Ytiigfhigmdjooaa.ints (ret_int ret_no ret_yes)
open Go.Proofs.Ytiigfhigmdjooaa.val (okSizes ret_b)

def within (n lo hi : Int) (xs : List Int) : Prop := (xs.length : Int) = n ∧ ∀ k (h : k < xs.length), lo ≤ xs[k] ∧ xs[k] ≤ hi
open Classical in
noncomputable def withinB (n lo hi : Int) (xs : List Int) : Bool := if within n lo hi xs then true else false
theorem withinB_yes {n lo hi : Int} {xs : List Int} (h : within n lo hi xs) : withinB n lo hi xs = true := if_pos h
theorem withinB_no {n lo hi : Int} {xs : List Int} (h : ¬ within n lo hi xs) : withinB n lo hi xs = false := if_neg h


set_option maxHeartbeats 1000000 in
theorem spec_bits (v : Value) (xs : List Int) (n : Int) (w : World) (h : Ints w v xs) :
    Calls Try.prog 150 #[v, .int .i64 n] w fun e w' => e = .returned (.bool (withinB n 0 1 xs)) ∧ w = w' := by
  obtain ⟨A, b, o, cap, rfl, hcap, hmax, hA, hc⟩ := h.form
  have hm : (xs.length : Int) ≤ 9223372036854775807 := by unfold maxLen at hmax; omega
  clear h hmax
  go_enter Try.func150, Try.ntmps150
  go_wp2
  go_loopw [4, 5] (fun q i wr => ∃ k : Nat, k ≤ xs.length ∧ i = .int .i64 k ∧ q = .bool false ∧ Hid (∀ j (h : j < xs.length), j < k → 0 ≤ xs[j] ∧ xs[j] ≤ 1) ∧ w = wr) (fun _ i _ => xs.length - (intOf i).toNat)
  case atStart => exact ⟨0, Nat.zero_le _, rfl, rfl, fun j _ hj => by omega, rfl⟩
  case round =>
    obtain ⟨k, hk, rfl, rfl, hH, rfl⟩ := hrel
    by_cases hlt : k < xs.length
    · have hkz : (k : Int) < (xs.length : Int) := by omega
      obtain rfl := hA (by omega)
      have g0 := hc k hlt
      have HC := Lib.hid hc
      clear hc hA
      by_cases hin : 0 ≤ xs[k] ∧ xs[k] ≤ 1
      · obtain ⟨i1, i2⟩ := hin
        go_wp2_with fail
        refine (val.in_yes _ _ _ _ i1 i2).mono ?_
        rintro e w' ⟨rfl, rfl⟩
        go_wp2_with fail
        go_roundw
        case rel =>
          refine ⟨k + 1, by omega, by go_num, rfl, fun j hj hj' => ?_, by first | rfl | trivial⟩
          by_cases e : j = k
          · subst e; exact ⟨i1, i2⟩
          · exact hH.out j hj (by omega)
        case measure => simp [intOf]; omega
      · have hbad : xs[k] < 0 ∨ 1 < xs[k] := by omega
        have HN : Hid (¬ within n 0 1 xs) := Lib.hid (fun h => hin (h.2 k hlt))
        clear hin
        go_wp2_with fail
        refine (val.in_no _ _ _ _ hbad).mono ?_
        rintro e w' ⟨rfl, rfl⟩
        clear hbad
        go_wp2_with fail
        go_ret
        exact ⟨ret_b (withinB_no HN.out).symm, rfl⟩
    · have hkz : ¬ (k : Int) < (xs.length : Int) := by omega
      clear hc hA
      by_cases hl : (xs.length : Int) = n
      · have dl : ((xs.length : Int) == n) = true := by simp [hl]
        have HN : Hid (within n 0 1 xs) := Lib.hid ⟨hl, fun j hj => hH.out j hj (by omega)⟩
        clear hl
        go_wp2_with fail
        go_ret
        exact ⟨ret_b (withinB_yes HN.out).symm, rfl⟩
      · have dl : ((xs.length : Int) == n) = false := by simp [hl]
        have HN : Hid (¬ within n 0 1 xs) := Lib.hid (fun h => hl h.1)
        clear hl
        go_wp2_with fail
        go_ret
        exact ⟨ret_b (withinB_no HN.out).symm, rfl⟩


set_option maxHeartbeats 1000000 in
theorem impl_within (v : Value) (xs : List Int) (n lo hi : Int) (w : World) (h : Ints w v xs) :
    Calls Try.prog 158 #[v, .int .i64 n, .int .i64 lo, .int .i64 hi] w fun e w' => e = .returned (.bool (withinB n lo hi xs)) ∧ w = w' := by
  obtain ⟨A, b, o, cap, rfl, hcap, hmax, hA, hc⟩ := h.form
  have hm : (xs.length : Int) ≤ 9223372036854775807 := by unfold maxLen at hmax; omega
  clear h hmax
  by_cases hl : (xs.length : Int) = n
  · have dl : ((xs.length : Int) != n) = false := by simp [hl]
    have HL := Lib.hid hl
    clear hl
    go_enter Try.func158, Try.ntmps158
    go_wp2
    go_loopw [8, 10, 17] (fun q z i wr => ∃ k : Nat, k ≤ xs.length ∧ i = .int .i64 k ∧ q = .bool false ∧ (∃ z', z = z') ∧ Hid (∀ j (h : j < xs.length), j < k → lo ≤ xs[j] ∧ xs[j] ≤ hi) ∧ w = wr) (fun _ _ i _ => xs.length - (intOf i).toNat)
    case atStart => exact ⟨0, Nat.zero_le _, rfl, rfl, ⟨_, rfl⟩, fun j _ hj => by omega, rfl⟩
    case round =>
      obtain ⟨k, hk, rfl, rfl, ⟨z', rfl⟩, hH, rfl⟩ := hrel
      by_cases hlt : k < xs.length
      · have hkz : (k : Int) < (xs.length : Int) := by omega
        obtain rfl := hA (by omega)
        have g0 := hc k hlt
        have HC := Lib.hid hc
        clear hc hA
        by_cases i1 : lo ≤ xs[k]
        · have d1 : decide (xs[k] < lo) = false := by simp; omega
          by_cases i2 : xs[k] ≤ hi
          · have d2 : decide (hi < xs[k]) = false := by simp; omega
            go_wp2
            go_roundw
            case rel =>
              refine ⟨k + 1, by omega, by go_num, rfl, ⟨_, rfl⟩, fun j hj hj' => ?_, by first | rfl | trivial⟩
              by_cases e : j = k
              · subst e; exact ⟨i1, i2⟩
              · exact hH.out j hj (by omega)
            case measure => simp [intOf]; omega
          · have d2 : decide (hi < xs[k]) = true := by simp; omega
            have HN : Hid (¬ within n lo hi xs) := Lib.hid (fun h => i2 (h.2 k hlt).2)
            go_wp2
            go_ret
            exact ⟨ret_b (withinB_no HN.out).symm, rfl⟩
        · have d1 : decide (xs[k] < lo) = true := by simp; omega
          have HN : Hid (¬ within n lo hi xs) := Lib.hid (fun h => i1 (h.2 k hlt).1)
          go_wp2
          go_ret
          exact ⟨ret_b (withinB_no HN.out).symm, rfl⟩
      · have hkz : ¬ (k : Int) < (xs.length : Int) := by omega
        have HN : Hid (within n lo hi xs) := Lib.hid ⟨HL.out, fun j hj => hH.out j hj (by omega)⟩
        clear hc hA
        go_wp2
        go_ret
        exact ⟨ret_b (withinB_yes HN.out).symm, rfl⟩
  · have dl : ((xs.length : Int) != n) = true := by simp [hl]
    have HN : Hid (¬ within n lo hi xs) := Lib.hid (fun h => hl h.1)
    clear hl hc hA
    go_enter Try.func158, Try.ntmps158
    go_wp2
    go_ret
    exact ⟨ret_b (withinB_no HN.out).symm, rfl⟩

theorem impl_bits (v : Value) (xs : List Int) (n : Int) (w : World) (h : Ints w v xs) :
    Calls Try.prog 151 #[v, .int .i64 n] w fun e w' => e = .returned (.bool (withinB n 0 1 xs)) ∧ w = w' := by
  have hc := impl_within v xs n 0 1 w h
  obtain ⟨va, vn, vc, rfl⟩ := h.shape
  clear h
  go_enter Try.func151, Try.ntmps151
  go_wp2_with fail
  refine hc.mono ?_
  rintro e w' ⟨rfl, rfl⟩
  clear hc
  go_wp2_with fail
  go_ret
  exact ⟨rfl, rfl⟩

/-! ### IsPlay -/
open Classical in
/-- what IsPlay answers -/
noncomputable def isPlay (x y : Int) (xs : List Int) : Bool × Bool := if okSizes x y then (withinB (x + y) 0 1 xs, true) else (false, false)
theorem isPlay_yes {x y : Int} {xs : List Int} (h : okSizes x y) : isPlay x y xs = (withinB (x + y) 0 1 xs, true) := if_pos h
theorem isPlay_no {x y : Int} {xs : List Int} (h : ¬ okSizes x y) : isPlay x y xs = (false, false) := if_neg h
theorem ret_bb {a b c d : Bool} (h : (a, b) = (c, d)) : Ending.returned (.tuple #[.bool a, .bool b]) = .returned (.tuple #[.bool c, .bool d]) := by
  injection h with h1 h2; rw [h1, h2]





end Go.Proofs.Ytiigfhigmdjooaa.play
