/- GreatestSum of the model. -/
import Derived.Test.YtimfnhejiiagmaaGsg
namespace Go.Proofs.Ytimfnhejiiagmaa.gss
open Go.RowKit Go.Deep Go.Proofs.Ytimfnhejiiagmaa.base
open Go.Proofs.Ytimfnhejiiagmaa.val (okSizes okBox boxB boxB_yes boxB_no ret_b)
open Go.Proofs.Ytimfnhejiiagmaa.gsm
open Go.Proofs.Ytimfnhejiiagmaa.gsi (res res_yes res_no big ret_ib)
open Go.Proofs.Ytimfnhejiiagmaa.gsg (Is bst l3greatest)


end Go.Proofs.Ytimfnhejiiagmaa.gss
