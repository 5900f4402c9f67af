/- l2Loud of the model. -/
import Derived.Test.YtkajebhagkbcaaaLoud
namespace Go.Proofs.Ytkajebhagkbcaaa.loud
open Go.RowKit Go.Deep Go.Proofs.Ytkajebhagkbcaaa.base
open Go.Proofs.Ytkajebhagkbcaaa.val (okBox okRow okSizes boxB boxB_yes boxB_no)
open Go.Proofs.Ytkajebhagkbcaaa.ints (ret_int)
open Go.Proofs.Ytkajebhagkbcaaa.rws (total)
open Go.Proofs.Ytkajebhagkbcaaa.row (one at_ nn)

def LoudPost (xss : List (List Int)) (X Y : Nat) (w : World) (e : Ending) (w' : World) : Prop :=
  ∃ a b : Int, e = .returned (.tuple #[.int .i64 a, .int .i64 b]) ∧ ((Quiet xss X Y ∧ a = -1 ∧ b = -1) ∨ ∃ p q : Nat, First xss X Y p q ∧ a = p ∧ b = q) ∧ Below w.heap.size w w'



end Go.Proofs.Ytkajebhagkbcaaa.loud
