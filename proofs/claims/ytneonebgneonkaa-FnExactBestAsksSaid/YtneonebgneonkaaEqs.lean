/- Equal-sum boxes: which rows have an odd sum, as both sides tell. -/
import Derived.Test.YtneonebgneonkaaMake
namespace Go.Proofs.Ytneonebgneonkaa.eqs
open Go.RowKit Go.Deep Go.Proofs.Ytneonebgneonkaa.base
open Go.Proofs.Ytneonebgneonkaa.val (okBox okSizes)

def odd (k r : Nat) : Nat := ((r / 2) * (r % 2) + (k / 4) * (r / 2) + (k / 2 % 2) * (r % 2) + k % 2) % 2
def N (k r j : Nat) : Int := if j = 0 ∨ j = 3 then 1 - (odd k r : Int) else (odd k r : Int)
theorem odd_lt (k r : Nat) : odd k r < 2 := Nat.mod_lt _ (by omega)
theorem eight {k : Nat} (h : k < 8) : k = 0 ∨ k = 1 ∨ k = 2 ∨ k = 3 ∨ k = 4 ∨ k = 5 ∨ k = 6 ∨ k = 7 := by omega


theorem l6odd (k x y : Nat) (w : World) (hk : k < 8) (hx : x < 2) (hy : y < 2) :
    Calls Try.prog 132 #[.int .i64 (k : Int), .int .i64 (x : Int), .int .i64 (y : Int)] w fun e w' => e = .returned (.int .i64 (odd k (2 * x + y) : Int)) ∧ w = w' := by
  obtain rfl | rfl : x = 0 ∨ x = 1 := by omega
  all_goals obtain rfl | rfl : y = 0 ∨ y = 1 := by omega
  all_goals obtain rfl | rfl | rfl | rfl | rfl | rfl | rfl | rfl := eight hk
  all_goals
    clear hk hx hy
    go_enter Try.func132, Try.ntmps132
    go_wp2
    go_ret
    exact ⟨ints.ret_int (by first | rfl | decide | kernel_rfl), rfl⟩


theorem oddat (k r : Nat) (w : World) (hk : k < 8) (hr : r < 4) :
    Calls Try.prog 157 #[.int .i64 (k : Int), .int .i64 (r : Int)] w fun e w' => e = .returned (.int .i64 (odd k r : Int)) ∧ w = w' := by
  obtain rfl | rfl | rfl | rfl : r = 0 ∨ r = 1 ∨ r = 2 ∨ r = 3 := by omega
  all_goals obtain rfl | rfl | rfl | rfl | rfl | rfl | rfl | rfl := eight hk
  all_goals
    clear hk hr
    go_enter Try.func157, Try.ntmps157
    go_wp2
    go_ret
    exact ⟨ints.ret_int (by first | rfl | decide | kernel_rfl), rfl⟩


end Go.Proofs.Ytneonebgneonkaa.eqs
