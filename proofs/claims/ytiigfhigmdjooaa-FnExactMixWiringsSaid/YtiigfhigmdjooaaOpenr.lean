/- A Rule as an argument of the laws: a slice of integers, and rows twice. It speaks of no program. -/
import Derived.Test.YtiigfhigmdjooaaOpen
namespace Go.Proofs.Ytiigfhigmdjooaa.opnr
open Go.ChangeShapes Go.WideShapes Go.ChangeAt Go.RowKit Go.Deep Go.Joins Go.Proofs.Ytiigfhigmdjooaa.base
open Go.Proofs.Ytiigfhigmdjooaa.opn

section
variable {H : Type} {enc : TypeId × Value → H} {P : Program} {W : World} {b0 : Nat} {fuel : Nat}

/-- a Rule as an argument: a slice of integers, and rows twice -/
theorem rule_of_trod {t s e q r : TypeId} {f0 f1 f2 : Field} (hs : P.underlying t = some (.struct #[f0, f1, f2])) (hone : oneCellFields P #[f0, f1, f2] = true) (hC : P.cellsOf t = 3)
    (u0 : P.underlying f0.type = some (.slice s)) (u1 : P.underlying f1.type = some (.slice e)) (u2 : P.underlying f2.type = some (.slice r))
    (he : P.underlying e = some (.slice q)) (hq : P.underlying q = some (.int .i64)) (ce : P.cellsOf e = 1) (cq : P.cellsOf q = 1) {v : Value} {d : DataW H} {p : List MemPlace}
    (hv : Value.okWide P W .any b0 t v) (h : DataW.Trod enc P W 0 (fun _ => true) true t v d p) (hsq : s = q := by rfl) (hre : r = e := by rfl) :
    ∃ (sv : Value) (ss : List Int) (u : Value) (xss : List (List Int)) (nv : Value) (yss : List (List Int)), v = .agg #[sv, u, nv] ∧ Ints W sv ss ∧ IRows W u xss ∧ IRows W nv yss := by
  subst hsq; subst hre
  obtain ⟨c0, c1, c2, y0, y1, y2, n, rfl, _, _, hy0, hy1, hy2⟩ := open_agg3 hs hone hC hv h
  obtain ⟨ss, h0⟩ := ints_of_trod1 u0 hq cq hy0
  obtain ⟨xss, h1⟩ := rows_of_trod1 u1 he hq ce cq hy1
  obtain ⟨yss, h2⟩ := rows_of_trod1 u2 he hq ce cq hy2
  exact ⟨c0, ss, c1, xss, c2, yss, rfl, h0, h1, h2⟩

end
end Go.Proofs.Ytiigfhigmdjooaa.opnr
