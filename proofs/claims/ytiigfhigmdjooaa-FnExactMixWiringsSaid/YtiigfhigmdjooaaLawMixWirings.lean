/- Proved here: for all arguments, the law FnExactMixWirings returns true: the program's function answers as its model in every field, leaves its arguments as they were, and its answer owns its memory. Conditions: none beyond the row. -/
import Derived.Test.YtiigfhigmdjooaaMxl2
import Derived.Test.YtiigfhigmdjooaaRows
namespace Go.Proofs.Ytiigfhigmdjooaa.lawMixWirings
open Go.ChangeShapes Go.WideShapes Go.ChangeAt Go.RowKit Go.Deep Go.Proofs.Ytiigfhigmdjooaa.base
open Go.ChangeMaps (open_string shut_string)
theorem over : Rows.fnExactMixWiringsRow.holds Try.pinned (OpenSpec.ofChange Rows.fnExactMixWiringsSpec) :=
  OpenClaim.holds_of_wide 3 Try.f3 rfl rfl rfl rfl rfl rfl rfl ⟨rfl, rfl, rfl, rfl, rfl⟩ rfl rfl rfl rfl rfl (by kernel_rfl) Try.func3 (by kernel_rfl)
    (of_decide_eq_true (by kernel_rfl)) (by unfold Func.isWrapper; first | (rw [if_pos (by decide +kernel)]; kernel_rfl) | (rw [if_neg (by decide +kernel)]; exact ⟨rfl, rfl⟩))
    (fun os started H enc _ => lifted os started H enc)

theorem proved : Rows.FnExactMixWiringsSaid := over
#print axioms proved
end Go.Proofs.Ytiigfhigmdjooaa.lawMixWirings
