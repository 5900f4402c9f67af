/- asksTwo of the program. -/
import Derived.Test.YtiigfhigmdjooaaInts
namespace Go.Proofs.Ytiigfhigmdjooaa.two
open Go.RowKit Go.Deep Go.Proofs.Ytiigfhigmdjooaa.base

open Classical in
noncomputable def asksB (x y : Int) : Bool := if x = 2 ∧ y = 2 then true else false
theorem asksB_yes : asksB 2 2 = true := if_pos ⟨rfl, rfl⟩
theorem asksB_no {x y : Int} (h : ¬ (x = 2 ∧ y = 2)) : asksB x y = false := if_neg h

theorem asks (x y : Int) (w : World) : Calls Try.prog 192 #[.int .i64 x, .int .i64 y] w fun e w' => e = .returned (.bool (asksB x y)) ∧ w = w' := by
  by_cases hx : x = 2
  · have dx : (x == 2) = true := by simp [hx]
    by_cases hy : y = 2
    · have dy : (y == 2) = true := by simp [hy]
      rw [show asksB x y = true from if_pos ⟨hx, hy⟩]
      clear hx hy
      go_enter Try.func192, Try.ntmps192
      go_wp2
      go_ret
      exact ⟨rfl, rfl⟩
    · have dy : (y == 2) = false := by simp [hy]
      rw [asksB_no (fun h => hy h.2)]
      clear hx hy
      go_enter Try.func192, Try.ntmps192
      go_wp2
      go_ret
      exact ⟨rfl, rfl⟩
  · have dx : (x == 2) = false := by simp [hx]
    rw [asksB_no (fun h => hx h.1)]
    clear hx
    go_enter Try.func192, Try.ntmps192
    go_wp2
    go_ret
    exact ⟨rfl, rfl⟩



end Go.Proofs.Ytiigfhigmdjooaa.two
