/- l3Four of the model. -/
import Derived.Test.YtimfnhejiiagmaaQpr
namespace Go.Proofs.Ytimfnhejiiagmaa.qfo
open Go.RowKit Go.Deep Go.Proofs.Ytimfnhejiiagmaa.base
open Go.Proofs.Ytimfnhejiiagmaa.prt (two_cells)
open Go.Proofs.Ytimfnhejiiagmaa.val (okSizes ret_b)

/-- what names a sum: the sizes, both pairs, and the row with the minus -/
def okFour (x y a b c d m : Int) : Prop := okSizes x y ∧ (0 ≤ a ∧ a < b ∧ b < x) ∧ (0 ≤ c ∧ c < d ∧ d < y) ∧ 0 ≤ m ∧ m ≤ 3
open Classical in
noncomputable def fourB (x y a b c d m : Int) : Bool := if okFour x y a b c d m then true else false
theorem fourB_yes {x y a b c d m : Int} (h : okFour x y a b c d m) : fourB x y a b c d m = true := if_pos h
theorem fourB_no {x y a b c d m : Int} (h : ¬ okFour x y a b c d m) : fourB x y a b c d m = false := if_neg h


end Go.Proofs.Ytimfnhejiiagmaa.qfo
