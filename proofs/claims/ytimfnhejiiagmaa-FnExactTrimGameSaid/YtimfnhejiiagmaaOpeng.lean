/- A Game as an argument of the laws: two integers, a slice of integers, rows. It speaks of no program. -/
import Derived.Test.YtimfnhejiiagmaaOpen
namespace Go.Proofs.Ytimfnhejiiagmaa.opng
open Go.ChangeShapes Go.WideShapes Go.ChangeAt Go.RowKit Go.Deep Go.Joins Go.Proofs.Ytimfnhejiiagmaa.base
open Go.Proofs.Ytimfnhejiiagmaa.opn

section
variable {H : Type} {enc : TypeId × Value → H} {P : Program} {W : World} {b0 : Nat} {fuel : Nat}

theorem game_of_trod {t s e q : TypeId} {f0 f1 f2 f3 : Field} (hs : P.underlying t = some (.struct #[f0, f1, f2, f3])) (hone : oneCellFields P #[f0, f1, f2, f3] = true) (hC : P.cellsOf t = 4)
    (u0 : P.underlying f0.type = some (.int .i64)) (u1 : P.underlying f1.type = some (.int .i64)) (u2 : P.underlying f2.type = some (.slice s)) (u3 : P.underlying f3.type = some (.slice e))
    (he : P.underlying e = some (.slice q)) (hq : P.underlying q = some (.int .i64)) (ce : P.cellsOf e = 1) (cq : P.cellsOf q = 1) {v : Value} {d : DataW H} {p : List MemPlace}
    (hv : Value.okWide P W .any b0 t v) (h : DataW.Trod enc P W 0 (fun _ => true) true t v d p) (hsq : s = q := by rfl) :
    ∃ (x y : Int) (wv : Value) (ws : List Int) (u : Value) (xss : List (List Int)), v = .agg #[.int .i64 x, .int .i64 y, wv, u] ∧ Ints W wv ws ∧ IRows W u xss := by
  subst hsq
  obtain ⟨c0, c1, c2, c3, y0, y1, y2, y3, n, rfl, _, _, hy0, hy1, hy2, hy3⟩ := open_agg4 hs hone hC hv h
  obtain ⟨x, rfl, _⟩ := int_of_trod1 u0 hy0
  obtain ⟨y, rfl, _⟩ := int_of_trod1 u1 hy1
  obtain ⟨ws, hw⟩ := ints_of_trod1 u2 hq cq hy2
  obtain ⟨xss, hr⟩ := rows_of_trod1 u3 he hq ce cq hy3
  exact ⟨x, y, c2, ws, c3, xss, rfl, hw, hr⟩

end
end Go.Proofs.Ytimfnhejiiagmaa.opng
