/- math/bits.OnesCount and countOnes, for small numbers. -/
import Derived.Test.YtnjaocgciokpaaaChecked
import Derived.Test.YtnjaocgciokpaaaBase
namespace Go.Proofs.Ytnjaocgciokpaaa.onec
open Go.RowKit Go.Deep Go.Proofs.Ytnjaocgciokpaaa.base

def on (k : Nat) : Nat := k % 2 + k / 2 % 2 + k / 4 % 2


theorem c64_0 (w : World) : Calls Try.prog 105 #[.int .u64 0] w fun e w' => e = .returned (.int .i64 0) ∧ w = w' := by
  have f0 : bits .and .u64 0 6148914691236517205 = 0 := by decide
  have f2 : bits .and .u64 0 3689348814741910323 = 0 := by decide
  have f4 : bits .and .u64 0 1085102592571150095 = 0 := by decide
  have f5 : bits .and .i64 0 127 = 0 := by decide
  go_enter Try.func105, Try.ntmps105
  go_wp2_with fail
  go_ret
  exact ⟨rfl, rfl⟩
theorem c64_1 (w : World) : Calls Try.prog 105 #[.int .u64 1] w fun e w' => e = .returned (.int .i64 1) ∧ w = w' := by
  have f0 : bits .and .u64 0 6148914691236517205 = 0 := by decide
  have f1 : bits .and .u64 1 6148914691236517205 = 1 := by decide
  have f2 : bits .and .u64 0 3689348814741910323 = 0 := by decide
  have f3 : bits .and .u64 1 3689348814741910323 = 1 := by decide
  have f4 : bits .and .u64 1 1085102592571150095 = 1 := by decide
  have f5 : bits .and .i64 1 127 = 1 := by decide
  go_enter Try.func105, Try.ntmps105
  go_wp2_with fail
  go_ret
  exact ⟨rfl, rfl⟩
theorem c64_2 (w : World) : Calls Try.prog 105 #[.int .u64 2] w fun e w' => e = .returned (.int .i64 1) ∧ w = w' := by
  have f0 : bits .and .u64 1 6148914691236517205 = 1 := by decide
  have f1 : bits .and .u64 2 6148914691236517205 = 0 := by decide
  have f2 : bits .and .u64 0 3689348814741910323 = 0 := by decide
  have f3 : bits .and .u64 1 3689348814741910323 = 1 := by decide
  have f4 : bits .and .u64 1 1085102592571150095 = 1 := by decide
  have f5 : bits .and .i64 1 127 = 1 := by decide
  go_enter Try.func105, Try.ntmps105
  go_wp2_with fail
  go_ret
  exact ⟨rfl, rfl⟩
theorem c64_3 (w : World) : Calls Try.prog 105 #[.int .u64 3] w fun e w' => e = .returned (.int .i64 2) ∧ w = w' := by
  have f0 : bits .and .u64 1 6148914691236517205 = 1 := by decide
  have f1 : bits .and .u64 3 6148914691236517205 = 1 := by decide
  have f2 : bits .and .u64 0 3689348814741910323 = 0 := by decide
  have f3 : bits .and .u64 2 3689348814741910323 = 2 := by decide
  have f4 : bits .and .u64 2 1085102592571150095 = 2 := by decide
  have f5 : bits .and .i64 2 127 = 2 := by decide
  go_enter Try.func105, Try.ntmps105
  go_wp2_with fail
  go_ret
  exact ⟨rfl, rfl⟩
theorem c64_4 (w : World) : Calls Try.prog 105 #[.int .u64 4] w fun e w' => e = .returned (.int .i64 1) ∧ w = w' := by
  have f0 : bits .and .u64 2 6148914691236517205 = 0 := by decide
  have f1 : bits .and .u64 4 6148914691236517205 = 4 := by decide
  have f2 : bits .and .u64 1 3689348814741910323 = 1 := by decide
  have f3 : bits .and .u64 4 3689348814741910323 = 0 := by decide
  have f4 : bits .and .u64 1 1085102592571150095 = 1 := by decide
  have f5 : bits .and .i64 1 127 = 1 := by decide
  go_enter Try.func105, Try.ntmps105
  go_wp2_with fail
  go_ret
  exact ⟨rfl, rfl⟩
theorem c64_5 (w : World) : Calls Try.prog 105 #[.int .u64 5] w fun e w' => e = .returned (.int .i64 2) ∧ w = w' := by
  have f0 : bits .and .u64 2 6148914691236517205 = 0 := by decide
  have f1 : bits .and .u64 5 6148914691236517205 = 5 := by decide
  have f2 : bits .and .u64 1 3689348814741910323 = 1 := by decide
  have f3 : bits .and .u64 5 3689348814741910323 = 1 := by decide
  have f4 : bits .and .u64 2 1085102592571150095 = 2 := by decide
  have f5 : bits .and .i64 2 127 = 2 := by decide
  go_enter Try.func105, Try.ntmps105
  go_wp2_with fail
  go_ret
  exact ⟨rfl, rfl⟩
theorem c64_6 (w : World) : Calls Try.prog 105 #[.int .u64 6] w fun e w' => e = .returned (.int .i64 2) ∧ w = w' := by
  have f0 : bits .and .u64 3 6148914691236517205 = 1 := by decide
  have f1 : bits .and .u64 6 6148914691236517205 = 4 := by decide
  have f2 : bits .and .u64 1 3689348814741910323 = 1 := by decide
  have f3 : bits .and .u64 5 3689348814741910323 = 1 := by decide
  have f4 : bits .and .u64 2 1085102592571150095 = 2 := by decide
  have f5 : bits .and .i64 2 127 = 2 := by decide
  go_enter Try.func105, Try.ntmps105
  go_wp2_with fail
  go_ret
  exact ⟨rfl, rfl⟩
theorem c64_7 (w : World) : Calls Try.prog 105 #[.int .u64 7] w fun e w' => e = .returned (.int .i64 3) ∧ w = w' := by
  have f0 : bits .and .u64 3 6148914691236517205 = 1 := by decide
  have f1 : bits .and .u64 7 6148914691236517205 = 5 := by decide
  have f2 : bits .and .u64 1 3689348814741910323 = 1 := by decide
  have f3 : bits .and .u64 6 3689348814741910323 = 2 := by decide
  have f4 : bits .and .u64 3 1085102592571150095 = 3 := by decide
  have f5 : bits .and .i64 3 127 = 3 := by decide
  go_enter Try.func105, Try.ntmps105
  go_wp2_with fail
  go_ret
  exact ⟨rfl, rfl⟩


theorem c_0 (w : World) : Calls Try.prog 96 #[.int .u64 0] w fun e w' => e = .returned (.int .i64 0) ∧ w = w' := by
  go_enter Try.func96, Try.ntmps96
  go_wp2_with fail
  refine (c64_0 _).mono ?_
  rintro e w' ⟨rfl, rfl⟩
  go_wp2_with fail
  go_ret
  exact ⟨rfl, rfl⟩
theorem o_0 (w : World) : Calls Try.prog 74 #[.int .i64 0] w fun e w' => e = .returned (.int .i64 0) ∧ w = w' := by
  go_enter Try.func74, Try.ntmps74
  go_wp2_with fail
  refine (c_0 _).mono ?_
  rintro e w' ⟨rfl, rfl⟩
  go_wp2_with fail
  go_ret
  exact ⟨rfl, rfl⟩
theorem c_1 (w : World) : Calls Try.prog 96 #[.int .u64 1] w fun e w' => e = .returned (.int .i64 1) ∧ w = w' := by
  go_enter Try.func96, Try.ntmps96
  go_wp2_with fail
  refine (c64_1 _).mono ?_
  rintro e w' ⟨rfl, rfl⟩
  go_wp2_with fail
  go_ret
  exact ⟨rfl, rfl⟩
theorem o_1 (w : World) : Calls Try.prog 74 #[.int .i64 1] w fun e w' => e = .returned (.int .i64 1) ∧ w = w' := by
  go_enter Try.func74, Try.ntmps74
  go_wp2_with fail
  refine (c_1 _).mono ?_
  rintro e w' ⟨rfl, rfl⟩
  go_wp2_with fail
  go_ret
  exact ⟨rfl, rfl⟩
theorem c_2 (w : World) : Calls Try.prog 96 #[.int .u64 2] w fun e w' => e = .returned (.int .i64 1) ∧ w = w' := by
  go_enter Try.func96, Try.ntmps96
  go_wp2_with fail
  refine (c64_2 _).mono ?_
  rintro e w' ⟨rfl, rfl⟩
  go_wp2_with fail
  go_ret
  exact ⟨rfl, rfl⟩
theorem o_2 (w : World) : Calls Try.prog 74 #[.int .i64 2] w fun e w' => e = .returned (.int .i64 1) ∧ w = w' := by
  go_enter Try.func74, Try.ntmps74
  go_wp2_with fail
  refine (c_2 _).mono ?_
  rintro e w' ⟨rfl, rfl⟩
  go_wp2_with fail
  go_ret
  exact ⟨rfl, rfl⟩
theorem c_3 (w : World) : Calls Try.prog 96 #[.int .u64 3] w fun e w' => e = .returned (.int .i64 2) ∧ w = w' := by
  go_enter Try.func96, Try.ntmps96
  go_wp2_with fail
  refine (c64_3 _).mono ?_
  rintro e w' ⟨rfl, rfl⟩
  go_wp2_with fail
  go_ret
  exact ⟨rfl, rfl⟩
theorem o_3 (w : World) : Calls Try.prog 74 #[.int .i64 3] w fun e w' => e = .returned (.int .i64 2) ∧ w = w' := by
  go_enter Try.func74, Try.ntmps74
  go_wp2_with fail
  refine (c_3 _).mono ?_
  rintro e w' ⟨rfl, rfl⟩
  go_wp2_with fail
  go_ret
  exact ⟨rfl, rfl⟩
theorem c_4 (w : World) : Calls Try.prog 96 #[.int .u64 4] w fun e w' => e = .returned (.int .i64 1) ∧ w = w' := by
  go_enter Try.func96, Try.ntmps96
  go_wp2_with fail
  refine (c64_4 _).mono ?_
  rintro e w' ⟨rfl, rfl⟩
  go_wp2_with fail
  go_ret
  exact ⟨rfl, rfl⟩
theorem o_4 (w : World) : Calls Try.prog 74 #[.int .i64 4] w fun e w' => e = .returned (.int .i64 1) ∧ w = w' := by
  go_enter Try.func74, Try.ntmps74
  go_wp2_with fail
  refine (c_4 _).mono ?_
  rintro e w' ⟨rfl, rfl⟩
  go_wp2_with fail
  go_ret
  exact ⟨rfl, rfl⟩
theorem c_5 (w : World) : Calls Try.prog 96 #[.int .u64 5] w fun e w' => e = .returned (.int .i64 2) ∧ w = w' := by
  go_enter Try.func96, Try.ntmps96
  go_wp2_with fail
  refine (c64_5 _).mono ?_
  rintro e w' ⟨rfl, rfl⟩
  go_wp2_with fail
  go_ret
  exact ⟨rfl, rfl⟩
theorem o_5 (w : World) : Calls Try.prog 74 #[.int .i64 5] w fun e w' => e = .returned (.int .i64 2) ∧ w = w' := by
  go_enter Try.func74, Try.ntmps74
  go_wp2_with fail
  refine (c_5 _).mono ?_
  rintro e w' ⟨rfl, rfl⟩
  go_wp2_with fail
  go_ret
  exact ⟨rfl, rfl⟩
theorem c_6 (w : World) : Calls Try.prog 96 #[.int .u64 6] w fun e w' => e = .returned (.int .i64 2) ∧ w = w' := by
  go_enter Try.func96, Try.ntmps96
  go_wp2_with fail
  refine (c64_6 _).mono ?_
  rintro e w' ⟨rfl, rfl⟩
  go_wp2_with fail
  go_ret
  exact ⟨rfl, rfl⟩
theorem o_6 (w : World) : Calls Try.prog 74 #[.int .i64 6] w fun e w' => e = .returned (.int .i64 2) ∧ w = w' := by
  go_enter Try.func74, Try.ntmps74
  go_wp2_with fail
  refine (c_6 _).mono ?_
  rintro e w' ⟨rfl, rfl⟩
  go_wp2_with fail
  go_ret
  exact ⟨rfl, rfl⟩
theorem c_7 (w : World) : Calls Try.prog 96 #[.int .u64 7] w fun e w' => e = .returned (.int .i64 3) ∧ w = w' := by
  go_enter Try.func96, Try.ntmps96
  go_wp2_with fail
  refine (c64_7 _).mono ?_
  rintro e w' ⟨rfl, rfl⟩
  go_wp2_with fail
  go_ret
  exact ⟨rfl, rfl⟩
theorem o_7 (w : World) : Calls Try.prog 74 #[.int .i64 7] w fun e w' => e = .returned (.int .i64 3) ∧ w = w' := by
  go_enter Try.func74, Try.ntmps74
  go_wp2_with fail
  refine (c_7 _).mono ?_
  rintro e w' ⟨rfl, rfl⟩
  go_wp2_with fail
  go_ret
  exact ⟨rfl, rfl⟩
theorem ones (k : Nat) (hk : k < 8) (w : World) : Calls Try.prog 74 #[.int .i64 (k : Int)] w fun e w' => e = .returned (.int .i64 ((on k : Nat) : Int)) ∧ w = w' := by
  match k, hk with
  | 0, _ => exact o_0 w
  | 1, _ => exact o_1 w
  | 2, _ => exact o_2 w
  | 3, _ => exact o_3 w
  | 4, _ => exact o_4 w
  | 5, _ => exact o_5 w
  | 6, _ => exact o_6 w
  | 7, _ => exact o_7 w
  | k + 8, h => exact absurd h (by omega)

end Go.Proofs.Ytnjaocgciokpaaa.onec
