/- How the law's argument of the type []string is opened. -/
import Derived.Test.YtnjlginodafnjaaSta
import Derived.Test.YtnjlginodafnjaaOpen
import Derived.SliceStrings
namespace Go.Proofs.Ytnjlginodafnjaa.stp
open Go.ChangeShapes Go.WideShapes Go.ChangeAt Go.RowKit Go.Deep Go.Proofs.Ytnjlginodafnjaa.base
open Go.Proofs.Ytnjlginodafnjaa.sta Go.Proofs.Ytnjlginodafnjaa.opn
variable {H : Type} {enc : TypeId × Value → H} {P : Program} {W : World} {b0 fuel : Nat}

theorem strs_of_trod1 {t e : TypeId} (ht : P.underlying t = some (.slice e)) (he : P.underlying e = some .string) (ce : P.cellsOf e = 1) {v : Value} {x : DataW H × List MemPlace}
    (h : DataW.trod enc P W 0 (fun _ => true) true fuel t [v] = some x) : ∃ ss, Strs W v ss ∧ ∀ k (hk : k < ss.length), ss[k].size ≤ maxLen := by
  rcases open_strings ht he ce h with ⟨hcs, _⟩ | ⟨a, len, cap, zs, hcs, _, hl, hm, hz, _, hcell, hsz⟩
  · simp at hcs; subst hcs; exact ⟨[], Sl.nil W, fun k hk => by simp at hk⟩
  · simp at hcs; subst hcs
    simp at hz
    refine ⟨zs.take len, ⟨some a, cap, by rw [List.length_map, List.length_take, hz, Nat.min_eq_left hl], by rw [List.length_map, List.length_take]; omega, hm, fun k u hu => ?_⟩, fun k hk => hsz _ (List.mem_of_mem_take (List.getElem_mem hk))⟩
    have hk : k < len := by
      rcases Nat.lt_or_ge k len with g | g
      · exact g
      · rw [List.getElem?_eq_none (by rw [List.length_map, List.length_take]; omega)] at hu; cases hu
    have hc := hcell k (by omega)
    have hsp := hcell 0 (by omega)
    obtain ⟨ab, ao, sp⟩ := a
    have hs : sp = none := by simpa [Addr.add] using World.cell?_spot hsp
    subst hs
    rw [add_none] at hc
    refine ⟨ab, ao, rfl, ?_⟩
    have hkz : k < (zs.take len).length := by rw [List.length_take]; omega
    rw [List.getElem?_map, List.getElem?_eq_getElem hkz, List.getElem_take] at hu
    rw [hc, ← Option.some.inj hu]
    simp [List.getD, show k < zs.length by omega]
theorem strs_of_trod {t e : TypeId} (ht : P.underlying t = some (.slice e)) (he : P.underlying e = some .string) (ce : P.cellsOf e = 1) {v : Value} {d : DataW H} {p : List MemPlace}
    (hv : Value.okWide P W .any b0 t v) (h : DataW.Trod enc P W 0 (fun _ => true) true t v d p) : ∃ ss, Strs W v ss ∧ ∀ k (hk : k < ss.length), ss[k].size ≤ maxLen := by
  obtain ⟨a, n, c, rfl⟩ := okWide_slice ht hv
  obtain ⟨fuel, hf⟩ := h
  exact strs_of_trod1 ht he ce (by simpa [Value.cells] using hf)

end Go.Proofs.Ytnjlginodafnjaa.stp
