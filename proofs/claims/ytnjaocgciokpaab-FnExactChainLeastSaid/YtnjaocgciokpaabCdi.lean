/- Codes in the program: letterOf, isLetterCount, IsCode, letterCodeOf. -/
import Derived.Test.YtnjaocgciokpaabCds
import Derived.Test.YtnjaocgciokpaabPrt
namespace Go.Proofs.Ytnjaocgciokpaab.cdi
open Go.RowKit Go.Deep Go.Proofs.Ytnjaocgciokpaab.base
open Go.Proofs.Ytnjaocgciokpaab.ints (ret_int infoInt)
open Go.Proofs.Ytnjaocgciokpaab.val (ret_b)
open Go.Proofs.Ytnjaocgciokpaab.play (within withinB withinB_yes withinB_no)
open Go.Proofs.Ytnjaocgciokpaab.cdm


theorem letter (k i : Nat) (w : World) (hk : k < 64) (hi : i ≤ 2) :
    Calls Try.prog 129 #[.int .i64 (k : Int), .int .i64 (i : Int)] w fun e w' => e = .returned (.int .i64 ((lt k i : Nat) : Int)) ∧ w = w' := by
  have HX := Lib.hid (and_lt k i hk)
  have hi2 : (i : Int) ≤ 2 := by omega
  go_enter Try.func129, Try.ntmps129
  go_wp2_with fail
  go_ret
  exact ⟨ret_int HX.out, rfl⟩


theorem letter3 (k i : Nat) (w : World) (hk : k < 64) (hi : i ≤ 3) :
    Calls Try.prog 129 #[.int .i64 (k : Int), .int .i64 (i : Int)] w fun e w' => e = .returned (.int .i64 ((lt k i : Nat) : Int)) ∧ w = w' := by
  have HX := Lib.hid (and_lt k i hk)
  have hi2 : (i : Int) ≤ 3 := by omega
  go_enter Try.func129, Try.ntmps129
  go_wp2_with fail
  go_ret
  exact ⟨ret_int HX.out, rfl⟩




end Go.Proofs.Ytnjaocgciokpaab.cdi
