/- A Scene as an argument of the laws: an integer, rows, a slice of integers. It speaks of no program. -/
import Derived.Test.YtiigfhigmdjooaaOpen
namespace Go.Proofs.Ytiigfhigmdjooaa.opns
open Go.ChangeShapes Go.WideShapes Go.ChangeAt Go.RowKit Go.Deep Go.Joins Go.Proofs.Ytiigfhigmdjooaa.base
open Go.Proofs.Ytiigfhigmdjooaa.opn

section
variable {H : Type} {enc : TypeId × Value → H} {P : Program} {W : World} {b0 : Nat} {fuel : Nat}

theorem scene_of_trod {t s e q : TypeId} {f0 f1 f2 : Field} (hs : P.underlying t = some (.struct #[f0, f1, f2])) (hone : oneCellFields P #[f0, f1, f2] = true) (hC : P.cellsOf t = 3)
    (u0 : P.underlying f0.type = some (.int .i64)) (u1 : P.underlying f1.type = some (.slice e)) (u2 : P.underlying f2.type = some (.slice s))
    (he : P.underlying e = some (.slice q)) (hq : P.underlying q = some (.int .i64)) (ce : P.cellsOf e = 1) (cq : P.cellsOf q = 1) {v : Value} {d : DataW H} {p : List MemPlace}
    (hv : Value.okWide P W .any b0 t v) (h : DataW.Trod enc P W 0 (fun _ => true) true t v d p) (hsq : s = q := by rfl) :
    ∃ (x : Int) (u : Value) (xss : List (List Int)) (wv : Value) (ws : List Int), v = .agg #[.int .i64 x, u, wv] ∧ Ints W wv ws ∧ IRows W u xss := by
  subst hsq
  obtain ⟨c0, c1, c2, y0, y1, y2, n, rfl, _, _, hy0, hy1, hy2⟩ := open_agg3 hs hone hC hv h
  obtain ⟨x, rfl, _⟩ := int_of_trod1 u0 hy0
  obtain ⟨xss, hr⟩ := rows_of_trod1 u1 he hq ce cq hy1
  obtain ⟨ws, hw⟩ := ints_of_trod1 u2 hq cq hy2
  exact ⟨x, c1, xss, c2, ws, rfl, hw, hr⟩

end
end Go.Proofs.Ytiigfhigmdjooaa.opns
