/- Functionals are told by both sides. -/
import Derived.Test.YtkikdecepdbbnabWorth
namespace Go.Proofs.Ytkikdecepdbbnab.worth
open Go.RowKit Go.Deep Go.Proofs.Ytkikdecepdbbnab.base
open Go.Proofs.Ytkikdecepdbbnab.val (okSizes okBox ret_b mul_small)
open Go.Proofs.Ytkikdecepdbbnab.play (within withinB withinB_yes withinB_no)
open Go.Proofs.Ytkikdecepdbbnab.row (nn)
open Go.Proofs.Ytkikdecepdbbnab.rws (total)





end Go.Proofs.Ytkikdecepdbbnab.worth
