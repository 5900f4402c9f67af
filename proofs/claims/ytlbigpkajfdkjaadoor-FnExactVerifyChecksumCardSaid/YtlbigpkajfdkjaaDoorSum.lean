import Derived.Test.YtlbigpkajfdkjaaDoorRows
import Derived.WalkKit
import Derived.WalkSpells
import Derived.Lib.Hide
namespace Go.Proofs.YtlbigpkajfdkjaaDoor.sum
open Go.RowKit
/-! ### the plain mathematics -/
def step (n : Int) (c : UInt8) : Int := (41 * n + c.toNat + 1) % 999979
def sum (l : List UInt8) : Int := l.foldl step 7
theorem sum_bd (l : List UInt8) : 0 ≤ sum l ∧ sum l < 999979 := by
  unfold sum
  suffices h : ∀ (l : List UInt8) (n : Int), 0 ≤ n → n < 999979 → 0 ≤ l.foldl step n ∧ l.foldl step n < 999979 from h l 7 (by decide) (by decide)
  intro l
  induction l with
  | nil => intro n h1 h2; exact ⟨h1, h2⟩
  | cons c l ih => intro n h1 h2; simp only [List.foldl_cons]; exact ih _ (by unfold step; omega) (by unfold step; omega)
theorem sum_snoc (l : List UInt8) (c : UInt8) : sum (l ++ [c]) = (41 * sum l + c.toNat + 1) % 999979 := by
  simp [sum, List.foldl_append, step]
theorem take_snoc (s : ByteArray) (k : Nat) (h : k < s.size) : s.data.toList.take (k + 1) = s.data.toList.take k ++ [s[k]] := by
  rw [List.take_succ_eq_append_getElem (by simpa using h)]; rfl
theorem ret_int {k : IntKind} {a b : Int} (h : a = b) : Ending.returned (.int k a) = .returned (.int k b) := by rw [h]
theorem sum_all (s : ByteArray) (k : Nat) (h1 : k ≤ s.size) (h2 : ¬ k < s.size) : sum (s.data.toList.take k) = sum s.data.toList := by
  rw [List.take_of_length_le (by simp; omega)]

/-! ### the walks -/
set_option maxHeartbeats 400000 in
theorem l1Sum_any (s : ByteArray) (w : World) (hs : s.size ≤ maxLen) :
    Calls Tryd.prog 42 #[.string s] w fun e w' => e = .returned (.int .i64 (sum s.data.toList)) ∧ w = w' := by
  unfold maxLen at hs
  go_enter Tryd.func42, Tryd.ntmps42
  go_wp2
  go_loop [3, 4] (fun n i => ∃ k : Nat, k ≤ s.size ∧ i = .int .i64 k ∧ n = .int .i64 (sum (s.data.toList.take k))) (fun _ i => s.size - (intOf i).toNat)
  case atStart => exact ⟨0, Nat.zero_le _, rfl, rfl⟩
  case round =>
    obtain ⟨k, hk, rfl, rfl⟩ := hrel
    have hd := sum_bd (s.data.toList.take k)
    by_cases hlt : k < s.size
    · have HS : Hid (sum (s.data.toList.take (k + 1)) = (41 * sum (s.data.toList.take k) + (s[k].toNat : Int) + 1) % 999979) := by rw [take_snoc s k hlt]; exact sum_snoc _ _
      have hb : (s[k].toNat : Int) < 256 := by have := s[k].toNat_lt; omega
      go_wp2
      go_round
      case rel => exact ⟨k + 1, by omega, by go_num, by rw [HS.out]⟩
      case measure => simp [intOf]; omega
    · go_wp2
      go_ret
      exact ⟨ret_int (sum_all s k hk hlt), rfl⟩


def sumOf (s : ByteArray) : Int := if s.size ≤ 4000 then sum s.data.toList else 0
def okOf (s : ByteArray) : Bool := if s.size ≤ 4000 then true else false
theorem sumOf_yes {s : ByteArray} (h : s.size ≤ 4000) : sumOf s = sum s.data.toList := if_pos h
theorem sumOf_no {s : ByteArray} (h : ¬ s.size ≤ 4000) : sumOf s = 0 := if_neg h
theorem okOf_yes {s : ByteArray} (h : s.size ≤ 4000) : okOf s = true := if_pos h
theorem okOf_no {s : ByteArray} (h : ¬ s.size ≤ 4000) : okOf s = false := if_neg h
theorem ret_two {a b : Int} {x y : Bool} (h : a = b) (g : x = y) : Ending.returned (.tuple #[.int .i64 a, .bool x]) = .returned (.tuple #[.int .i64 b, .bool y]) := by rw [h, g]

set_option maxHeartbeats 400000 in
theorem checksum_any (s : ByteArray) (w : World) (hs : s.size ≤ maxLen) :
    Calls Tryd.prog 31 #[.string s] w fun e w' => e = .returned (.tuple #[.int .i64 (sumOf s), .bool (okOf s)]) ∧ w = w' := by
  unfold maxLen at hs
  by_cases h : s.size ≤ 4000
  · go_enter Tryd.func31, Tryd.ntmps31
    go_wp2
    go_loop [4, 11] (fun n i => ∃ k : Nat, k ≤ s.size ∧ i = .int .i64 k ∧ n = .int .i64 (sum (s.data.toList.take k))) (fun _ i => s.size - (intOf i).toNat)
    case atStart => exact ⟨0, Nat.zero_le _, rfl, rfl⟩
    case round =>
      obtain ⟨k, hk, rfl, rfl⟩ := hrel
      have hd := sum_bd (s.data.toList.take k)
      by_cases hlt : k < s.size
      · have HS : Hid (sum (s.data.toList.take (k + 1)) = (41 * sum (s.data.toList.take k) + (s[k].toNat : Int) + 1) % 999979) := by rw [take_snoc s k hlt]; exact sum_snoc _ _
        have hb : (s[k].toNat : Int) < 256 := by have := s[k].toNat_lt; omega
        go_wp2
        go_round
        case rel => exact ⟨k + 1, by omega, by go_num, by rw [HS.out]⟩
        case measure => simp [intOf]; omega
      · go_wp2
        go_ret2
        exact ⟨ret_two ((sum_all s k hk hlt).trans (sumOf_yes h).symm) (okOf_yes h).symm, rfl⟩
  · go_enter Tryd.func31, Tryd.ntmps31
    go_wp2_with fail
    go_ret2
    exact ⟨ret_two (sumOf_no h).symm (okOf_no h).symm, rfl⟩

end Go.Proofs.YtlbigpkajfdkjaaDoor.sum
