/- Proved here: for all arguments, the law FnExactTrimGame returns true: the program's function answers as its model in every field, leaves its arguments as they were, and its answer owns its memory. Conditions: none beyond the row. -/
import Derived.Test.YtimfnhejiiagmaaTgl
import Derived.Test.YtimfnhejiiagmaaRows
namespace Go.Proofs.Ytimfnhejiiagmaa.lawTrimGame
open Go.ChangeShapes Go.WideShapes Go.ChangeAt Go.RowKit Go.Deep Go.Proofs.Ytimfnhejiiagmaa.base
open Go.ChangeMaps (open_string shut_string)
theorem over : Rows.fnExactTrimGameRow.holds Try.pinned (OpenSpec.ofChange Rows.fnExactTrimGameSpec) :=
  OpenClaim.holds_of_wide 5 Try.f5 rfl rfl rfl rfl rfl rfl rfl ⟨rfl, rfl, rfl, rfl, rfl⟩ rfl rfl rfl rfl rfl (by kernel_rfl) Try.func5 (by kernel_rfl)
    (of_decide_eq_true (by kernel_rfl)) (by unfold Func.isWrapper; first | (rw [if_pos (by decide +kernel)]; kernel_rfl) | (rw [if_neg (by decide +kernel)]; exact ⟨rfl, rfl⟩))
    (fun os started H enc _ => lifted os started H enc)

theorem proved : Rows.FnExactTrimGameSaid := over
#print axioms proved
end Go.Proofs.Ytimfnhejiiagmaa.lawTrimGame
