/- Rising lists of places: l1Rising of the model, arePlaces of the program. -/
import Derived.Test.YtiigfhigmdjooaaScm
import Derived.Test.YtiigfhigmdjooaaVal
namespace Go.Proofs.Ytiigfhigmdjooaa.scv
open Go.RowKit Go.Deep Go.Proofs.Ytiigfhigmdjooaa.base
open Go.Proofs.Ytiigfhigmdjooaa.ints (ret_int ret_no ret_yes)
open Go.Proofs.Ytiigfhigmdjooaa.rws (total len_le_total)
open Go.Proofs.Ytiigfhigmdjooaa.val (ret_b)
open Go.Proofs.Ytiigfhigmdjooaa.play (within withinB withinB_yes withinB_no)
open Go.Proofs.Ytiigfhigmdjooaa.scm

theorem sub_one (k : Nat) : (((k + 1 : Nat) : Int) - 1) = (k : Int) := by omega


set_option maxHeartbeats 2000000 in
theorem spec_rising (v : Value) (xs : List Int) (lo hi : Int) (w : World) (h : Ints w v xs) :
    Calls Try.prog 194 #[v, .int .i64 lo, .int .i64 hi] w fun e w' => e = .returned (.bool (risingB lo hi xs)) ∧ ∃ q, w' = w.drewN q := by
  obtain ⟨A, b, o, cap, rfl, hcap, hmax, hA, hc⟩ := h.form
  have hm : (xs.length : Int) ≤ 9223372036854775807 := by unfold maxLen at hmax; omega
  clear h hmax
  go_enter Try.func194, Try.ntmps194
  go_wp2_with fail
  go_loopw [6, 7] (fun q i wr => ∃ k : Nat, k ≤ xs.length ∧ i = .int .i64 k ∧ q = .bool false ∧ Hid (∀ j (h : j < xs.length), j < k → lo ≤ xs[j] ∧ xs[j] ≤ hi ∧ ∀ (h0 : 0 < j), xs[j - 1]'(by omega) < xs[j]) ∧ ∃ m, wr = w.drewN m) (fun _ i _ => xs.length - (intOf i).toNat)
  case atStart => exact ⟨0, Nat.zero_le _, rfl, rfl, fun j _ hj => by omega, 0, rfl⟩
  case round =>
    obtain ⟨k, hk, rfl, rfl, hH, m, rfl⟩ := hrel
    by_cases hlt : k < xs.length
    · have hkz : (k : Int) < (xs.length : Int) := by omega
      obtain rfl := hA (by omega)
      have g0 := hc k hlt
      have gl := World.block_lt_of_cell? _ _ g0
      have HC := Lib.hid hc
      clear hc hA
      by_cases hin : lo ≤ xs[k] ∧ xs[k] ≤ hi
      · obtain ⟨i1, i2⟩ := hin
        by_cases hz : k = 0
        · have HZ := Lib.hid hz
          have d0 : decide (0 < k) = false := by simp; omega
          clear hz
          go_wp2_with fail
          go_quiet ((go_at_call 138; go_must (exact ints.quiet_at_same (val.in_yes _ _ _ _ i1 i2))))
          all_goals
            go_wp2_with fail
            go_roundw
            case rel =>
              refine ⟨k + 1, by omega, by go_num, rfl, fun j hj hj' => ?_, _, by first | rfl | exact ints.drewN_drewN _ _ _⟩
              obtain rfl : j = k := by have := HZ.out; omega
              exact ⟨i1, i2, fun h0 => by have := HZ.out; omega⟩
            case measure => simp [intOf]; omega
        · obtain ⟨j, rfl⟩ : ∃ j, k = j + 1 := ⟨k - 1, by omega⟩
          have hjl : j < xs.length := by omega
          have g1 := HC.out j hjl
          have hjz : (j : Int) < (xs.length : Int) := by omega
          have d0 : decide ((0 : Int) < ((j + 1 : Nat) : Int)) = true := by simp
          have dj : ((j + 1 : Nat) : Int) - 1 = (j : Int) := by omega
          clear hz
          by_cases hl : xs[j] < xs[j + 1]
          · have d1 : decide (xs[j + 1] ≤ xs[j]) = false := by simp; omega
            have HL := Lib.hid hl
            clear hl
            go_wp2_with fail
            go_quiet ((go_at_call 138; go_must (exact ints.quiet_at_same (val.in_yes _ _ _ _ i1 i2))))
            all_goals
              go_wp2_with fail
              go_roundw
              case rel =>
                refine ⟨j + 1 + 1, by omega, by go_num, rfl, fun i hi hi' => ?_, _, rfl⟩
                by_cases e : i = j + 1
                · subst e; exact ⟨i1, i2, fun _ => HL.out⟩
                · exact hH.out i hi (by omega)
              case measure => simp [intOf]; omega
          · have d1 : decide (xs[j + 1] ≤ xs[j]) = true := by simp; omega
            have HN : Hid (¬ rising lo hi xs) := Lib.hid (fun h => hl ((h (j + 1) hlt).2.2 (by omega)))
            clear hl
            go_wp2_with fail
            go_quiet ((go_at_call 138; go_must (exact ints.quiet_at_same (val.in_yes _ _ _ _ i1 i2))))
            all_goals
              go_wp2_with fail
              go_ret
              exact ⟨ret_b (risingB_no HN.out).symm, _, ints.drewN_drewN _ _ _⟩
      · have hbad : xs[k] < lo ∨ hi < xs[k] := by omega
        have HN : Hid (¬ rising lo hi xs) := Lib.hid (fun h => hin ⟨(h k hlt).1, (h k hlt).2.1⟩)
        clear hin
        go_wp2_with fail
        go_quiet ((go_at_call 138; go_must (exact ints.quiet_at_same (val.in_no _ _ _ _ hbad))))
        all_goals
          go_wp2_with fail
          go_ret
          exact ⟨ret_b (risingB_no HN.out).symm, _, ints.drewN_drewN _ _ _⟩
    · have hkz : ¬ (k : Int) < (xs.length : Int) := by omega
      have HN : Hid (rising lo hi xs) := Lib.hid (fun j hj => hH.out j hj (by omega))
      clear hc hA
      go_wp2_with fail
      go_ret
      exact ⟨ret_b (risingB_yes HN.out).symm, _, rfl⟩



set_option maxHeartbeats 1000000 in
theorem impl_places (v : Value) (xs : List Int) (n : Int) (w : World) (h : Ints w v xs) :
    Calls Try.prog 152 #[v, .int .i64 n] w fun e w' => e = .returned (.bool (risingB 0 (n - 1) xs)) ∧ w = w' := by
  obtain ⟨A, b, o, cap, rfl, hcap, hmax, hA, hc⟩ := h.form
  have hm : (xs.length : Int) ≤ 9223372036854775807 := by unfold maxLen at hmax; omega
  clear h hmax
  go_enter Try.func152, Try.ntmps152
  go_wp2_with fail
  go_loopw [4, 5, 7, 10] (fun q p z i wr => ∃ (k : Nat) (c : Int), k ≤ xs.length ∧ i = .int .i64 k ∧ p = .int .i64 c ∧ q = .bool false ∧ (∃ z', z = z') ∧ -1 ≤ c ∧ Hid ((k = 0 → c = -1) ∧ (∀ h : 0 < k ∧ k - 1 < xs.length, c = xs[k - 1]) ∧ ∀ j (h : j < xs.length), j < k → 0 ≤ xs[j] ∧ xs[j] ≤ n - 1 ∧ ∀ (h0 : 0 < j), xs[j - 1]'(by omega) < xs[j]) ∧ w = wr) (fun _ _ _ i _ => xs.length - (intOf i).toNat)
  case atStart => exact ⟨0, -1, Nat.zero_le _, rfl, rfl, rfl, ⟨_, rfl⟩, by omega, ⟨fun _ => rfl, fun h => by omega, fun j _ hj => by omega⟩, rfl⟩
  case round =>
    obtain ⟨k, c, hk, rfl, rfl, rfl, ⟨z', rfl⟩, hcm, hH, rfl⟩ := hrel
    by_cases hlt : k < xs.length
    · have hkz : (k : Int) < (xs.length : Int) := by omega
      obtain rfl := hA (by omega)
      have g0 := hc k hlt
      have HC := Lib.hid hc
      clear hc hA
      by_cases i1 : c < xs[k]
      · have d1 : decide (xs[k] ≤ c) = false := by simp; omega
        by_cases i2 : xs[k] ≤ n - 1
        · have d2 : decide (n ≤ xs[k]) = false := by simp; omega
          go_wp2_with fail
          go_roundw
          case rel =>
            refine ⟨k + 1, xs[k], by omega, by go_num, rfl, rfl, ⟨_, rfl⟩, by omega, ⟨fun h => by omega, fun h => by simp, fun j hj hj' => ?_⟩, by first | rfl | trivial⟩
            by_cases e : j = k
            · subst e
              exact ⟨by omega, i2, fun h0 => by have := hH.out.2.1 ⟨h0, by omega⟩; omega⟩
            · exact hH.out.2.2 j hj (by omega)
          case measure => simp [intOf]; omega
        · have d2 : decide (n ≤ xs[k]) = true := by simp; omega
          have HN : Hid (¬ rising 0 (n - 1) xs) := Lib.hid (fun h => i2 (h k hlt).2.1)
          go_wp2_with fail
          go_ret
          exact ⟨ret_b (risingB_no HN.out).symm, rfl⟩
      · have d1 : decide (xs[k] ≤ c) = true := by simp; omega
        have HN : Hid (¬ rising 0 (n - 1) xs) := Lib.hid (fun h => by
          by_cases hz : k = 0
          · have := hH.out.1 hz; have := (h k hlt).1; omega
          · have := hH.out.2.1 ⟨by omega, by omega⟩; have := (h k hlt).2.2 (by omega); omega)
        go_wp2_with fail
        go_ret
        exact ⟨ret_b (risingB_no HN.out).symm, rfl⟩
    · have hkz : ¬ (k : Int) < (xs.length : Int) := by omega
      have HN : Hid (rising 0 (n - 1) xs) := Lib.hid (fun j hj => hH.out.2.2 j hj (by omega))
      clear hc hA
      go_wp2_with fail
      go_ret
      exact ⟨ret_b (risingB_yes HN.out).symm, rfl⟩


end Go.Proofs.Ytiigfhigmdjooaa.scv
