/- l1Most of the model. -/
import Derived.Test.YtimfnhejiiagmaaInts
namespace Go.Proofs.Ytimfnhejiiagmaa.part
open Go.RowKit Go.Deep Go.Proofs.Ytimfnhejiiagmaa.base

theorem tdiv_np {x : Int} (h : x ≤ 0) : x.tdiv 2 ≤ 0 := by
  have e : x = -(-x) := by omega
  rw [e, Int.neg_tdiv]
  have := Int.tdiv_nonneg (a := -x) (b := 2) (by omega) (by omega)
  omega
theorem ret_two {a b c d : Int} (h : a = c) (h' : b = d) : Ending.returned (.tuple #[.int .i64 a, .int .i64 b]) = .returned (.tuple #[.int .i64 c, .int .i64 d]) := by rw [h, h']
theorem ret_three {a b c d : Int} {t : Bool} (h : a = c) (h' : b = d) : Ending.returned (.tuple #[.int .i64 a, .int .i64 b, .bool t]) = .returned (.tuple #[.int .i64 c, .int .i64 d, .bool t]) := by rw [h, h']


theorem most_fst (a b : Int) (w : World) (h : b < a) : Calls Try.prog 88 #[.int .i64 a, .int .i64 b] w fun e w' => e = .returned (.int .i64 a) ∧ w = w' := by
  have d : decide (b < a) = true := by simp [h]
  go_enter Try.func88, Try.ntmps88
  go_wp2
  go_ret
  exact ⟨rfl, rfl⟩
theorem most_snd (a b : Int) (w : World) (h : ¬ b < a) : Calls Try.prog 88 #[.int .i64 a, .int .i64 b] w fun e w' => e = .returned (.int .i64 b) ∧ w = w' := by
  have d : decide (b < a) = false := by simp; omega
  go_enter Try.func88, Try.ntmps88
  go_wp2
  go_ret
  exact ⟨rfl, rfl⟩



end Go.Proofs.Ytimfnhejiiagmaa.part
