/- ScaleBox of the model and of the program: plain part, the closure. -/
import Derived.Test.YtneonebgneonkaaMake
import Derived.BigRegion
namespace Go.Proofs.Ytneonebgneonkaa.scale
open Go.RowKit Go.Deep Go.Proofs.Ytneonebgneonkaa.base
open Go.Proofs.Ytneonebgneonkaa.ints (ret_int infoInt infoInts)
open Go.Proofs.Ytneonebgneonkaa.rws (total)
open Go.Proofs.Ytneonebgneonkaa.val (okSizes okBox boxB boxB_yes boxB_no)
open Go.Proofs.Ytneonebgneonkaa.row (nn nn_bd at_ at_lt)


def N (xss : List (List Int)) (kk : Int) (r k : Nat) : Int := nn xss r k * kk
theorem mul_bd {n kk : Int} (h0 : 0 ≤ n) (h1 : n ≤ 1000) (k0 : 1 ≤ kk) (k1 : kk ≤ 1000) : 0 ≤ n * kk ∧ n * kk ≤ 1000000 :=
  ⟨Int.mul_nonneg h0 (by omega), Int.le_trans (Int.mul_le_mul h1 k1 (by omega) (by omega)) (by omega)⟩
theorem wrapm {n kk : Int} (h0 : 0 ≤ n) (h1 : n ≤ 1000) (k0 : 1 ≤ kk) (k1 : kk ≤ 1000) : IntKind.i64.wrap (n * kk) = n * kk := by
  have := mul_bd h0 h1 k0 k1
  exact IntWalk.i64_in _ (by omega)
theorem at_nat (a Y c : Nat) : at_ (Y : Int) (a : Int) (c : Int) = a * Y + c := by
  unfold at_
  rw [← Int.natCast_mul, ← Int.natCast_add, Int.toNat_natCast]
def st (n0 n1 n2 n3 kk : Int) (j : Nat) : Array Value := #[.int .i64 (if 0 < j then n0 * kk else n0), .int .i64 (if 1 < j then n1 * kk else n1), .int .i64 (if 2 < j then n2 * kk else n2), .int .i64 (if 3 < j then n3 * kk else n3)]

end Go.Proofs.Ytneonebgneonkaa.scale
