/- How the law's argument of the type []byte is opened. -/
import Derived.Test.YtfcoodhilpbehaaCur
import Derived.Test.YtfcoodhilpbehaaOpen
namespace Go.Proofs.Ytfcoodhilpbehaa.byt
open Go.ChangeShapes Go.WideShapes Go.ChangeAt Go.RowKit Go.Deep Go.Proofs.Ytfcoodhilpbehaa.base
open Go.Proofs.Ytfcoodhilpbehaa.cur Go.Proofs.Ytfcoodhilpbehaa.opn
variable {H : Type} {enc : TypeId × Value → H} {P : Program} {W : World} {b0 fuel : Nat}

theorem bytes_below {W W' : World} {A : Option Addr} {n : Nat} (h : Bytes W W.heap.size A n) (hb : Below W.heap.size W W') : Bytes W' W'.heap.size A n := by
  intro j hj
  obtain ⟨b, o, x, hA, hx, hlt, hc⟩ := h j hj
  exact ⟨b, o, x, hA, hx, Nat.lt_of_lt_of_le hlt hb.size, below_cell hb _ _ hc⟩
theorem bytes_of_trod1 {t e : TypeId} (ht : P.underlying t = some (.slice e)) (he : P.underlying e = some (.int .u8)) (ce : P.cellsOf e = 1) {v : Value} {x : DataW H × List MemPlace}
    (h : DataW.trod enc P W 0 (fun _ => true) true fuel t [v] = some x) : ∃ A n cp, v = .slice A n cp ∧ Bytes W W.heap.size A n := by
  rcases open_ints ht he ce h with ⟨hcs, _⟩ | ⟨a, len, cap, zs, hcs, _, hl, hm, hz, _, hcell, hwf⟩
  · simp at hcs; subst hcs; exact ⟨none, 0, 0, rfl, fun j hj => by omega⟩
  · simp at hcs; subst hcs
    simp at hz
    refine ⟨some a, len, cap, rfl, fun j hj => ?_⟩
    have hc := hcell j (by omega)
    have hsp := hcell 0 (by omega)
    obtain ⟨ab, ao, sp⟩ := a
    have hs : sp = none := by simpa [Addr.add] using World.cell?_spot hsp
    subst hs
    rw [add_none] at hc
    have hjz : j < zs.length := by omega
    have hw := hwf zs[j] (List.getElem_mem hjz)
    have e : zs.getD j 0 = zs[j] := by simp [List.getD, hjz]
    rw [e] at hc
    have hr : 0 ≤ zs[j] ∧ zs[j] < 256 := by
      have h2 : IntKind.u8.min ≤ zs[j] ∧ zs[j] ≤ IntKind.u8.max := by simpa [Lit.wf] using hw
      have h3 : IntKind.u8.min = 0 := by decide
      have h4 : IntKind.u8.max = 255 := by decide
      omega
    exact ⟨ab, ao, zs[j].toNat, rfl, by omega, World.block_lt_of_cell? _ _ hc, by rw [show ((zs[j].toNat : Nat) : Int) = zs[j] by omega]; exact hc⟩
theorem bytes_of_trod {t e : TypeId} (ht : P.underlying t = some (.slice e)) (he : P.underlying e = some (.int .u8)) (ce : P.cellsOf e = 1) {v : Value} {d : DataW H} {p : List MemPlace}
    (hv : Value.okWide P W .any b0 t v) (h : DataW.Trod enc P W 0 (fun _ => true) true t v d p) : ∃ A n cp, v = .slice A n cp ∧ Bytes W W.heap.size A n := by
  obtain ⟨a, n, c, rfl⟩ := okWide_slice ht hv
  obtain ⟨fuel, hf⟩ := h
  exact bytes_of_trod1 ht he ce (by simpa [Value.cells] using hf)
end Go.Proofs.Ytfcoodhilpbehaa.byt
