/- A Trio as an argument of the laws: an integer, and rows. It speaks of no program. -/
import Derived.Test.YtomofmmecpdalaaOpen
namespace Go.Proofs.Ytomofmmecpdalaa.opnt
open Go.ChangeShapes Go.WideShapes Go.ChangeAt Go.RowKit Go.Deep Go.Joins Go.Proofs.Ytomofmmecpdalaa.base
open Go.Proofs.Ytomofmmecpdalaa.opn

section
variable {H : Type} {enc : TypeId × Value → H} {P : Program} {W : World} {b0 : Nat} {fuel : Nat}

theorem trio_of_trod {t e q : TypeId} {f0 f1 : Field} (hs : P.underlying t = some (.struct #[f0, f1])) (hone : oneCellFields P #[f0, f1] = true) (hC : P.cellsOf t = 2)
    (u0 : P.underlying f0.type = some (.int .i64)) (u1 : P.underlying f1.type = some (.slice e))
    (he : P.underlying e = some (.slice q)) (hq : P.underlying q = some (.int .i64)) (ce : P.cellsOf e = 1) (cq : P.cellsOf q = 1) {v : Value} {d : DataW H} {p : List MemPlace}
    (hv : Value.okWide P W .any b0 t v) (h : DataW.Trod enc P W 0 (fun _ => true) true t v d p) :
    ∃ (wh : Int) (u : Value) (xss : List (List Int)), v = .agg #[.int .i64 wh, u] ∧ IRows W u xss := by
  obtain ⟨c0, c1, y0, y1, n, rfl, _, _, hy0, hy1⟩ := open_agg2 hs hone hC hv h
  obtain ⟨wh, rfl, _⟩ := int_of_trod1 u0 hy0
  obtain ⟨xss, hr⟩ := rows_of_trod1 u1 he hq ce cq hy1
  exact ⟨wh, c1, xss, rfl, hr⟩

end
end Go.Proofs.Ytomofmmecpdalaa.opnt
