/- l1Least and l1Most of the model, for any two numbers. -/
import Derived.Test.YtomofmmecpdalaaInts
namespace Go.Proofs.Ytomofmmecpdalaa.lmm
open Go.RowKit Go.Deep Go.Proofs.Ytomofmmecpdalaa.base


theorem most_any (a b : Int) (w : World) : Calls Try.prog 88 #[.int .i64 a, .int .i64 b] w fun e w' => e = .returned (.int .i64 (if a < b then b else a)) ∧ w = w' := by
  by_cases h : b < a
  · have d : decide (b < a) = true := by simp [h]
    rw [if_neg (by omega)]
    go_enter Try.func88, Try.ntmps88
    go_wp2
    go_ret
    exact ⟨rfl, rfl⟩
  · have e : (if a < b then b else a) = b := by split <;> omega
    have d : decide (b < a) = false := by simp; omega
    rw [e]
    go_enter Try.func88, Try.ntmps88
    go_wp2
    go_ret
    exact ⟨rfl, rfl⟩

end Go.Proofs.Ytomofmmecpdalaa.lmm
