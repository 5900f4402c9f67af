/- Arguments of the laws as the words of memory have them: a slice of integers, of rows, a Box. They speak of no program. -/
import Derived.Test.YtfcoodhilpbehaaBase
import Derived.ChangeOld
namespace Go.Proofs.Ytfcoodhilpbehaa.opn
open Go.ChangeShapes Go.WideShapes Go.ChangeAt Go.RowKit Go.Deep Go.Joins Go.Proofs.Ytfcoodhilpbehaa.base

theorem add_none (b o k : Nat) : (⟨b, o, none⟩ : Addr).add k = ⟨b, o + k, none⟩ := by unfold Addr.add; split <;> simp_all

section
variable {H : Type} {enc : TypeId × Value → H} {P : Program} {W : World} {b0 : Nat} {fuel : Nat}

theorem ints_of_trod1 {t e : TypeId} (ht : P.underlying t = some (.slice e)) (he : P.underlying e = some (.int .i64)) (ce : P.cellsOf e = 1) {v : Value} {x : DataW H × List MemPlace}
    (h : DataW.trod enc P W 0 (fun _ => true) true fuel t [v] = some x) : ∃ xs, Ints W v xs := by
  rcases open_ints ht he ce h with ⟨hcs, _⟩ | ⟨a, len, cap, zs, hcs, _, hl, hm, hz, _, hcell, _⟩
  · simp at hcs; subst hcs; exact ⟨[], Ints.nil W⟩
  · simp at hcs; subst hcs
    simp at hz
    refine ⟨zs.take len, some a, cap, by rw [len_i64s, List.length_take, hz, Nat.min_eq_left hl], by rw [len_i64s, List.length_take]; omega, hm, fun k u hu => ?_⟩
    have hk : k < len := by
      rcases Nat.lt_or_ge k len with g | g
      · exact g
      · rw [List.getElem?_eq_none (by rw [len_i64s, List.length_take]; omega)] at hu; cases hu
    have hc := hcell k (by omega)
    have hsp := hcell 0 (by omega)
    obtain ⟨ab, ao, sp⟩ := a
    have hs : sp = none := by simpa [Addr.add] using World.cell?_spot hsp
    subst hs
    rw [add_none] at hc
    refine ⟨ab, ao, rfl, ?_⟩
    rw [hc, ← hu, get_i64s (by rw [List.length_take]; omega), List.getElem_take]
    simp [List.getD, show k < zs.length by omega]

theorem ints_of_trod {t e : TypeId} (ht : P.underlying t = some (.slice e)) (he : P.underlying e = some (.int .i64)) (ce : P.cellsOf e = 1) {v : Value} {d : DataW H} {p : List MemPlace}
    (hv : Value.okWide P W .any b0 t v) (h : DataW.Trod enc P W 0 (fun _ => true) true t v d p) : ∃ xs, Ints W v xs := by
  obtain ⟨a, n, c, rfl⟩ := okWide_slice ht hv
  obtain ⟨fuel, hf⟩ := h
  exact ints_of_trod1 ht he ce (by simpa [Value.cells] using hf)

theorem rows_of_trod1 {t e q : TypeId} (ht : P.underlying t = some (.slice e)) (he : P.underlying e = some (.slice q)) (hq : P.underlying q = some (.int .i64)) (ce : P.cellsOf e = 1) (cq : P.cellsOf q = 1) {v : Value} {x : DataW H × List MemPlace}
    (h : DataW.trod enc P W 0 (fun _ => true) true fuel t [v] = some x) : ∃ xss, IRows W v xss := by
  rcases open_int_rows ht he hq ce cq h with ⟨hcs, _⟩ | ⟨a, len, cap, A, L, C, Z, hcs, _, hl, hm, _, hrows⟩
  · simp at hcs; subst hcs; exact ⟨[], IRows.nil W⟩
  · simp at hcs; subst hcs
    have spot : 0 < len → a.spot = none := fun h0 => by simpa [Addr.add] using World.cell?_spot (hrows 0 (by omega)).1
    obtain ⟨ab, ao, sp⟩ := a
    refine ⟨(List.range len).map fun r => (Z r).take (L r), (List.range len).map fun r => Value.slice (A r) (L r) (C r), ⟨some ⟨ab, ao, sp⟩, cap, by simp, by simpa using hl, hm, fun k u hu => ?_⟩, by simp, fun r hr => ?_⟩
    · have hk : k < len := by
        rcases Nat.lt_or_ge k len with g | g
        · exact g
        · rw [List.getElem?_eq_none (by simpa using g)] at hu; cases hu
      have hs : sp = none := spot (by omega)
      subst hs
      have hc := (hrows k (by omega)).1
      rw [add_none] at hc
      refine ⟨ab, ao, rfl, ?_⟩
      rw [hc, ← hu]
      simp [hk]
    · have hk : r < len := by simpa using hr
      obtain ⟨_, g1, g2, g3, _, g5, g6⟩ := hrows r (by omega)
      have e1 : ((List.range len).map fun r => (Z r).take (L r))[r]'hr = (Z r).take (L r) := by simp
      refine ⟨.slice (A r) (L r) (C r), by simp [hk], ?_⟩
      rw [e1]
      refine ⟨A r, C r, by rw [len_i64s, List.length_take, Nat.min_eq_left (by omega)], by rw [len_i64s, List.length_take]; omega, g2, fun k u hu => ?_⟩
      have hkl : k < L r := by
        rcases Nat.lt_or_ge k (L r) with g | g
        · exact g
        · rw [List.getElem?_eq_none (by rw [len_i64s, List.length_take]; omega)] at hu; cases hu
      cases hA : A r with
      | none => have := g5 hA; omega
      | some a' =>
        obtain ⟨_, hcell⟩ := g6 a' hA
        have hc := hcell k (by omega)
        have hsp := hcell 0 (by omega)
        obtain ⟨rb, ro, sp'⟩ := a'
        have hs : sp' = none := by simpa [Addr.add] using World.cell?_spot hsp
        subst hs
        rw [add_none] at hc
        refine ⟨rb, ro, rfl, ?_⟩
        rw [hc, ← hu, get_i64s (by rw [List.length_take]; omega), List.getElem_take]
        simp [List.getD, show k < (Z r).length by omega]

theorem rows_of_trod {t e q : TypeId} (ht : P.underlying t = some (.slice e)) (he : P.underlying e = some (.slice q)) (hq : P.underlying q = some (.int .i64)) (ce : P.cellsOf e = 1) (cq : P.cellsOf q = 1) {v : Value} {d : DataW H} {p : List MemPlace}
    (hv : Value.okWide P W .any b0 t v) (h : DataW.Trod enc P W 0 (fun _ => true) true t v d p) : ∃ xss, IRows W v xss := by
  obtain ⟨a, n, c, rfl⟩ := okWide_slice ht hv
  obtain ⟨fuel, hf⟩ := h
  exact rows_of_trod1 ht he hq ce cq (by simpa [Value.cells] using hf)

theorem int_of_trod1 {t : TypeId} (ht : P.underlying t = some (.int .i64)) {v : Value} {x : DataW H × List MemPlace} (h : DataW.trod enc P W 0 (fun _ => true) true fuel t [v] = some x) : ∃ n, v = .int .i64 n ∧ (Lit.int .i64 n).wf = true := by
  obtain ⟨a, e0, _, wa⟩ := DataW.trod_int ht h
  simp at e0
  exact ⟨a, e0, wa⟩

/-- a struct of three integers and rows (a Box) -/
theorem box_of_trod {t e q : TypeId} {f0 f1 f2 f3 : Field} (hs : P.underlying t = some (.struct #[f0, f1, f2, f3])) (hone : oneCellFields P #[f0, f1, f2, f3] = true) (hC : P.cellsOf t = 4)
    (u0 : P.underlying f0.type = some (.int .i64)) (u1 : P.underlying f1.type = some (.int .i64)) (u2 : P.underlying f2.type = some (.int .i64)) (u3 : P.underlying f3.type = some (.slice e))
    (he : P.underlying e = some (.slice q)) (hq : P.underlying q = some (.int .i64)) (ce : P.cellsOf e = 1) (cq : P.cellsOf q = 1) {v : Value} {d : DataW H} {p : List MemPlace}
    (hv : Value.okWide P W .any b0 t v) (h : DataW.Trod enc P W 0 (fun _ => true) true t v d p) :
    ∃ (x y wh : Int) (u : Value) (xss : List (List Int)), v = .agg #[.int .i64 x, .int .i64 y, .int .i64 wh, u] ∧ IRows W u xss := by
  obtain ⟨c0, c1, c2, c3, y0, y1, y2, y3, n, rfl, _, _, hy0, hy1, hy2, hy3⟩ := open_agg4 hs hone hC hv h
  obtain ⟨x, rfl, _⟩ := int_of_trod1 u0 hy0
  obtain ⟨y, rfl, _⟩ := int_of_trod1 u1 hy1
  obtain ⟨wh, rfl, _⟩ := int_of_trod1 u2 hy2
  obtain ⟨xss, hr⟩ := rows_of_trod1 u3 he hq ce cq hy3
  exact ⟨x, y, wh, c3, xss, rfl, hr⟩

end
end Go.Proofs.Ytfcoodhilpbehaa.opn
