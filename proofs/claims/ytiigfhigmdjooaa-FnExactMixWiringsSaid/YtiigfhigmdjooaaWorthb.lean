/- Functionals are told by both sides. -/
import Derived.Test.YtiigfhigmdjooaaWorth
namespace Go.Proofs.Ytiigfhigmdjooaa.worth
open Go.RowKit Go.Deep Go.Proofs.Ytiigfhigmdjooaa.base
open Go.Proofs.Ytiigfhigmdjooaa.val (okSizes okBox ret_b mul_small)
open Go.Proofs.Ytiigfhigmdjooaa.play (within withinB withinB_yes withinB_no)
open Go.Proofs.Ytiigfhigmdjooaa.row (nn)
open Go.Proofs.Ytiigfhigmdjooaa.rws (total)





end Go.Proofs.Ytiigfhigmdjooaa.worth
