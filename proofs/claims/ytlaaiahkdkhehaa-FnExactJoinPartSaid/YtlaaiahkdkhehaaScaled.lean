/- ScaleBox of the model: the whole. -/
import Derived.Test.YtlaaiahkdkhehaaScaleb
import Derived.Test.YtlaaiahkdkhehaaScalec
namespace Go.Proofs.Ytlaaiahkdkhehaa.scale
open Go.RowKit Go.Deep Go.Proofs.Ytlaaiahkdkhehaa.base
open Go.Proofs.Ytlaaiahkdkhehaa.rws (total)
open Go.Proofs.Ytlaaiahkdkhehaa.val (okSizes okBox boxB boxB_yes boxB_no)

theorem rows_eq {X Y : Nat} {wh kk : Int} {xss : List (List Int)} (h : okBox X Y wh xss) : (List.range xss.length).map (D xss kk) = make.rowsOf (N xss kk) (X * Y) := by
  have hl := h.2.2.1
  have hl' : xss.length = X * Y := by rw [← Int.natCast_mul] at hl; omega
  unfold make.rowsOf
  rw [← hl']
  refine List.map_congr_left (fun r hr => ?_)
  have hr' : r < xss.length := by simpa using hr
  have h4 := (h.2.2.2 r hr').1
  unfold D make.quad N row.nn
  rw [row.getD_lt hr']
  generalize xss[r] = q at *
  match q, h4 with
  | [a, b, c, d], _ => rfl



end Go.Proofs.Ytlaaiahkdkhehaa.scale
