/- Rows whose outer slice is stored into: a row is put in the place of another one. -/
import Derived.Test.YtimfnhejiiagmaaPile
import Derived.Test.YtimfnhejiiagmaaOpen
namespace Go.Proofs.Ytimfnhejiiagmaa.sto
open Go.RowKit Go.Deep Go.Proofs.Ytimfnhejiiagmaa.base
open Go.Proofs.Ytimfnhejiiagmaa.make (blk_type own_type)
open Go.Proofs.Ytimfnhejiiagmaa.pile (Typ Pile sl_heap)

structure Sto (w wr : World) (B : Nat) (v : Value) (vals : List Value) (xss : List (List Int)) : Prop where
  below : Below w.heap.size w wr
  base : w.heap.size ≤ B
  owns : wr.ownsRow B 34 1 v xss.length vals
  row : ∀ r u, vals[r]? = some u → ∃ h : r < xss.length, Ints wr u xss[r]
  typ : ∀ u ∈ vals, Typ wr u
theorem Sto.of_pile {w wr : World} {B m : Nat} {v : Value} {vals : List Value} {xss : List (List Int)} (h : Pile w wr B m v vals xss) : Sto w wr B v vals xss :=
  ⟨h.below, h.base, h.owns, fun r u hu => by obtain ⟨a, b⟩ := h.row r u hu; exact ⟨a, b.ints⟩, h.typ⟩
theorem typ_below {w w' : World} {u : Value} (h : Typ w u) (hb : Below w.heap.size w w') : Typ w' u := fun p hp => by
  obtain ⟨c, f, hc⟩ := h p hp
  have hl : p.block < w.heap.size := by
    rcases Nat.lt_or_ge p.block w.heap.size with g | g
    · exact g
    · rw [Array.getElem?_eq_none g] at hc; cases hc
  exact ⟨c, f, (hb.block _ hl).trans hc⟩
theorem Sto.keep {w wr w' : World} {B : Nat} {v : Value} {vals : List Value} {xss : List (List Int)} (h : Sto w wr B v vals xss) (hb : Below wr.heap.size wr w') : Sto w w' B v vals xss :=
  ⟨below_tr h.below hb, h.base, app.owns_below h.owns hb, fun r u hu => by obtain ⟨a, b⟩ := h.row r u hu; exact ⟨a, b.below hb⟩, fun u hu => by
    exact typ_below (h.typ u hu) hb⟩
theorem Sto.rows {w wr : World} {B : Nat} {v : Value} {vals : List Value} {xss : List (List Int)} (h : Sto w wr B v vals xss) : IRows wr v xss := by
  have hlen : vals.length = xss.length := by have := h.owns.1; omega
  refine ⟨vals, app.sl_of_owns h.owns, hlen, fun r hr => ?_⟩
  have hu := List.getElem?_eq_getElem (l := vals) (i := r) (by omega)
  obtain ⟨_, hi⟩ := h.row r _ hu
  exact ⟨_, hu, hi⟩
/-- the cell of a row, and what a store into it makes -/
theorem Sto.cell {w wr : World} {B : Nat} {v : Value} {vals : List Value} {xss : List (List Int)} (h : Sto w wr B v vals xss) {r : Nat} (hr : r < xss.length) :
    ∃ b cap u0, v = .slice (some ⟨b, 0, none⟩) xss.length cap ∧ B ≤ b ∧ b < wr.heap.size ∧ wr.cell? ⟨b, r, none⟩ = some u0 ∧ (∀ j, wr.frozen? ⟨b, j, none⟩ = false) ∧
      ∀ (w' : World) (u : Value) (ys : List Int), Below wr.heap.size wr w' → Ints w' u ys → Typ w' u → Sto w (w'.setCell ⟨b, r, none⟩ u) B v (vals.set r u) (xss.set r ys) := by
  have hlen : vals.length = xss.length := by have := h.owns.1; omega
  have H1 := h.owns
  rcases h.owns.2 with ⟨_, z⟩ | ⟨b, cap, cur, rfl, hb, hgg, hn, hm, hs, ht⟩
  · omega
  have hq := List.getElem?_eq_getElem (l := vals) (i := r) (by omega)
  have c1 : wr.cell? ⟨b, r, none⟩ = some vals[r] := by
    have := H1.cells (g := b) rfl r _ hq
    rw [opn.add_none] at this
    simpa using this
  have hB : Blk wr b 34 cur := hgg
  refine ⟨b, cap, _, rfl, hb, lt_of_block hgg, c1, fun j => Joins.unfrozen_of_block hB j, fun w' u ys hbl hi htp => ?_⟩
  have hB' : Blk w' b 34 cur := hB.below hbl
  have hne : ∀ (q : Value), Typ w' q → ∀ p, In q p → (w'.setCell ⟨b, r, none⟩ u).heap[p.block]? = w'.heap[p.block]? := fun q hq p hp => Below.heap_setCell _ _ _ _ (fun e => by
    obtain ⟨c, f, hc⟩ := hq p hp
    have e : p.block = b := e
    rw [e] at hc
    exact absurd (blk_type hc hB') (by decide))
  have hset := Joins.block_setCell (i := r) hB' u
  have hk := h.keep hbl
  refine ⟨Below.setCell hk.below (by have := h.base; show w.heap.size ≤ b; omega) _, h.base, ?_, fun s a ha => ?_, fun a ha p hp => ?_⟩
  · refine ⟨by simp; omega, .inr ⟨b, cap, cur.setIfInBounds r u, by rw [List.length_set], hb, hset, by rw [List.length_set]; exact hn, hm, by simpa using hs, ?_⟩⟩
    rw [List.length_set, Array.toList_setIfInBounds, List.take_set, ht]
  · by_cases e : s = r
    · subst e
      rw [List.getElem?_set_self (by omega)] at ha
      injection ha with ha
      subst ha
      refine ⟨by simpa using hr, ?_⟩
      rw [List.getElem_set_self]
      exact sl_heap hi (hne _ htp)
    · rw [List.getElem?_set_ne (fun e2 => e e2.symm)] at ha
      obtain ⟨a1, a2⟩ := hk.row s a ha
      refine ⟨by simpa using a1, ?_⟩
      rw [List.getElem_set_ne (fun e2 => e e2.symm)]
      exact sl_heap a2 (hne _ (hk.typ a (List.mem_of_getElem? ha)))
  · have hta : Typ w' a := by
      rcases List.mem_or_eq_of_mem_set ha with g | g
      · exact hk.typ a g
      · subst g; exact htp
    obtain ⟨c, f, hc⟩ := hta p hp
    exact ⟨c, f, (hne a hta p hp).trans hc⟩
end Go.Proofs.Ytimfnhejiiagmaa.sto
