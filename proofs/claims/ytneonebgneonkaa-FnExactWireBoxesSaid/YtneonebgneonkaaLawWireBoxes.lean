/- Proved here: for all arguments, the law FnExactWireBoxes returns true: the program's function answers as its model in every field, leaves its arguments as they were, and its answer owns its memory. Conditions: none beyond the row. -/
import Derived.Test.YtneonebgneonkaaWbl
import Derived.Test.YtneonebgneonkaaRows
namespace Go.Proofs.Ytneonebgneonkaa.lawWireBoxes
open Go.ChangeShapes Go.WideShapes Go.ChangeAt Go.RowKit Go.Deep Go.Proofs.Ytneonebgneonkaa.base
open Go.ChangeMaps (open_string shut_string)
theorem over : Rows.fnExactWireBoxesRow.holds Try.pinned (OpenSpec.ofChange Rows.fnExactWireBoxesSpec) :=
  OpenClaim.holds_of_wide 8 Try.f8 rfl rfl rfl rfl rfl rfl rfl ⟨rfl, rfl, rfl, rfl, rfl⟩ rfl rfl rfl rfl rfl (by kernel_rfl) Try.func8 (by kernel_rfl)
    (of_decide_eq_true (by kernel_rfl)) (by unfold Func.isWrapper; first | (rw [if_pos (by decide +kernel)]; kernel_rfl) | (rw [if_neg (by decide +kernel)]; exact ⟨rfl, rfl⟩))
    (fun os started H enc _ => lifted os started H enc)

theorem proved : Rows.FnExactWireBoxesSaid := over
#print axioms proved
end Go.Proofs.Ytneonebgneonkaa.lawWireBoxes
