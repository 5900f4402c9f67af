/- Functionals are told by both sides. -/
import Derived.Test.YtggodllfaggjiabWorth
namespace Go.Proofs.Ytggodllfaggjiab.worth
open Go.RowKit Go.Deep Go.Proofs.Ytggodllfaggjiab.base
open Go.Proofs.Ytggodllfaggjiab.val (okSizes okBox ret_b mul_small)
open Go.Proofs.Ytggodllfaggjiab.play (within withinB withinB_yes withinB_no)
open Go.Proofs.Ytggodllfaggjiab.row (nn)
open Go.Proofs.Ytggodllfaggjiab.rws (total)





end Go.Proofs.Ytggodllfaggjiab.worth
