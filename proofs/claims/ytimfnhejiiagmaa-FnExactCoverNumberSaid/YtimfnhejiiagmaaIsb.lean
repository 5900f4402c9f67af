/- isBit of the program (as in XTki, for seats that have no Talk). -/
import Derived.Test.YtimfnhejiiagmaaTask
namespace Go.Proofs.Ytimfnhejiiagmaa.isb
open Go.RowKit Go.Deep Go.Proofs.Ytimfnhejiiagmaa.base


theorem bit_yes (x : Int) (w : World) (h : x = 0 ∨ x = 1) : Calls Try.prog 126 #[.int .i64 x] w fun e w' => e = .returned (.bool true) ∧ w = w' := by
  rcases h with rfl | rfl
  · go_enter Try.func126, Try.ntmps126
    go_wp2_with fail
    go_ret
    exact ⟨rfl, rfl⟩
  · go_enter Try.func126, Try.ntmps126
    go_wp2_with fail
    go_ret
    exact ⟨rfl, rfl⟩
theorem bit_no (x : Int) (w : World) (h : ¬ (x = 0 ∨ x = 1)) : Calls Try.prog 126 #[.int .i64 x] w fun e w' => e = .returned (.bool false) ∧ w = w' := by
  have d0 : (x == 0) = false := by simp; omega
  have d1 : (x == 1) = false := by simp; omega
  clear h
  go_enter Try.func126, Try.ntmps126
  go_wp2_with fail
  go_ret
  exact ⟨rfl, rfl⟩

end Go.Proofs.Ytimfnhejiiagmaa.isb
