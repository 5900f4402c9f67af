/- l2Loud of the model. -/
import Derived.Test.YtknpcajignhifaaLoud
namespace Go.Proofs.Ytknpcajignhifaa.loud
open Go.RowKit Go.Deep Go.Proofs.Ytknpcajignhifaa.base
open Go.Proofs.Ytknpcajignhifaa.val (okBox okRow okSizes boxB boxB_yes boxB_no)
open Go.Proofs.Ytknpcajignhifaa.ints (ret_int)
open Go.Proofs.Ytknpcajignhifaa.rws (total)
open Go.Proofs.Ytknpcajignhifaa.row (one at_ nn)

def LoudPost (xss : List (List Int)) (X Y : Nat) (w : World) (e : Ending) (w' : World) : Prop :=
  ∃ a b : Int, e = .returned (.tuple #[.int .i64 a, .int .i64 b]) ∧ ((Quiet xss X Y ∧ a = -1 ∧ b = -1) ∨ ∃ p q : Nat, First xss X Y p q ∧ a = p ∧ b = q) ∧ Below w.heap.size w w'



end Go.Proofs.Ytknpcajignhifaa.loud
