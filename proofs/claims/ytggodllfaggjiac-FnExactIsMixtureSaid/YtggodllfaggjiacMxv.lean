/- MixtureBox of the model. -/
import Derived.Test.YtggodllfaggjiacMxl
namespace Go.Proofs.Ytggodllfaggjiac.mxb
open Go.RowKit Go.Deep Go.Proofs.Ytggodllfaggjiac.base
open Go.Proofs.Ytggodllfaggjiac.val (okSizes okBox)



end Go.Proofs.Ytggodllfaggjiac.mxb
