/- Rows that lie apart from one another, each in a block from B on and below T; stores into them. -/
import Derived.Test.YtggodllfaggjiabBuilt2
namespace Go.Proofs.Ytggodllfaggjiab.built3
open Go.RowKit Go.Deep Go.Proofs.Ytggodllfaggjiab.base
open Go.Proofs.Ytggodllfaggjiab.built (base_mono apart apart_blk owns_low)
open Go.Proofs.Ytggodllfaggjiab.built2 (Dis add0)

/-- rows each in memory of its own in blocks from B on and below T -/
def Ap (w : World) (B T : Nat) (u : Value) (k : Nat) (D : Nat → List Int) : Prop :=
  ∃ vals, w.ownsRow B 29 1 u k vals ∧ (∀ r q, vals[r]? = some q → w.ownsRow B 3 1 q (D r).length (i64s (D r)) ∧ ∀ b, q.ownBlock = some b → b < T) ∧ Dis vals
theorem Ap.below {w w' : World} {B T k : Nat} {u : Value} {D : Nat → List Int} (h : Ap w B T u k D) (hb : Below w.heap.size w w') : Ap w' B T u k D := by
  obtain ⟨vals, h1, h2, h3⟩ := h
  exact ⟨vals, app.owns_below h1 hb, fun r q hq => ⟨app.owns_below (h2 r q hq).1 hb, (h2 r q hq).2⟩, h3⟩
theorem Ap.low {w w' : World} {B T k : Nat} {u : Value} {D : Nat → List Int} (h : Ap w B T u k D) (hw : Wrote (fun p => p.block < B) w w') : Ap w' B T u k D := by
  obtain ⟨vals, h1, h2, h3⟩ := h
  exact ⟨vals, owns_low h1 hw, fun r q hq => ⟨owns_low (h2 r q hq).1 hw, (h2 r q hq).2⟩, h3⟩
theorem Ap.rows {w : World} {B T k : Nat} {u : Value} {D : Nat → List Int} (h : Ap w B T u k D) : IRows w u ((List.range k).map D) := by
  obtain ⟨vals, h1, h2, h3⟩ := h
  exact built2.Apart.rows ⟨vals, h1, fun r q hq => (h2 r q hq).1, h3⟩
theorem Ap.congr {w : World} {B T k : Nat} {u : Value} {D D' : Nat → List Int} (h : Ap w B T u k D) (e : ∀ r, r < k → D r = D' r) : Ap w B T u k D' := by
  obtain ⟨vals, h1, h2, h3⟩ := h
  refine ⟨vals, h1, fun r q hq => ?_, h3⟩
  have hlen : vals.length = k := by have := h1.1; omega
  have hr : r < k := by
    rcases Nat.lt_or_ge r vals.length with g | g
    · omega
    · rw [List.getElem?_eq_none g] at hq; cases hq
  rw [← e r hr]
  exact h2 r q hq
/-- stores into a block of a Box leave the rows -/
theorem Ap.box {w w' : World} {B T k bb : Nat} {u : Value} {D : Nat → List Int} {cs : Array Value} (h : Ap w B T u k D) (hB : Blk w bb 54 cs) (hw : Wrote (fun p => p.block = bb) w w') : Ap w' B T u k D := by
  have other : ∀ (e l : Nat) (u : Value) (xs : List Value), w.ownsRow B e 1 u l xs → e ≠ 54 → w'.ownsRow B e 1 u l xs := fun e l u xs hu he => by
    refine ⟨hu.1, ?_⟩
    have ne := apart_blk hu hB he
    rcases hu.2 with hn | ⟨g, cap, cur, rfl, hb, hgg, rest⟩
    · exact .inl hn
    · exact .inr ⟨g, cap, cur, rfl, hb, (hw.block g (fun p hp e1 => ne (by simp [Value.ownBlock]; omega))).trans hgg, rest⟩
  obtain ⟨vals, h1, h2, h3⟩ := h
  exact ⟨vals, other _ _ _ _ h1 (by decide), fun r q hq => ⟨other _ _ _ _ (h2 r q hq).1 (by decide), (h2 r q hq).2⟩, h3⟩
/-- one cell of one row, and a store into it -/
theorem Ap.cell {w : World} {B T k : Nat} {u : Value} {D : Nat → List Int} (h : Ap w B T u k D) {r c : Nat} (hr : r < k) (hc : c < (D r).length) :
    ∃ b g cap cap', u = .slice (some ⟨b, 0, none⟩) k cap ∧ B ≤ b ∧ (∃ cs, Blk w g 3 cs) ∧ w.cell? ⟨b, r, none⟩ = some (.slice (some ⟨g, 0, none⟩) (D r).length cap') ∧ B ≤ g ∧ g < T ∧ w.cell? ⟨g, c, none⟩ = some (.int .i64 (D r)[c]) ∧ w.frozen? ⟨g, c, none⟩ = false ∧
      ∀ (n : Int) (D' : Nat → List Int), D' r = (D r).set c n → (∀ s, s ≠ r → D' s = D s) → Ap (w.setCell ⟨g, c, none⟩ (.int .i64 n)) B T u k D' := by
  obtain ⟨vals, h1, h2, h3⟩ := h
  have hlen : vals.length = k := by have := h1.1; omega
  have hq := List.getElem?_eq_getElem (l := vals) (i := r) (by omega)
  have ho := (h2 r _ hq).1
  have hT := (h2 r _ hq).2
  obtain ⟨q, hq'⟩ : ∃ q, vals[r]'(by omega) = q := ⟨_, rfl⟩
  rw [hq'] at hq ho hT
  have H1 := h1
  rcases h1.2 with ⟨_, z⟩ | ⟨b, cap, cur, rfl, hb, hgg, hcap⟩
  · omega
  rcases ho.2 with ⟨_, z⟩ | ⟨g, cap', cur', rfl, hg, hgg', hn, hm, hs, ht⟩
  · omega
  have c1 : w.cell? ⟨b, r, none⟩ = some (.slice (some ⟨g, 0, none⟩) (D r).length cap') := by
    have := H1.cells (g := b) rfl r _ hq
    rw [add0] at this; exact this
  have c2 : w.cell? ⟨g, c, none⟩ = some (.int .i64 (D r)[c]) := by
    have := ho.cells (g := g) rfl c (.int .i64 (D r)[c]) (by rw [get_i64s hc])
    rw [add0] at this; exact this
  have hB : Blk w g 3 cur' := hgg'
  refine ⟨b, g, cap, cap', rfl, hb, ⟨_, hB⟩, c1, hg, hT g rfl, c2, Joins.unfrozen_of_block hB c, fun n D' e1 e2 => ⟨vals, ownsRow_setCell_other H1 (apart_blk H1 hB (by decide)) _, fun s a ha => ⟨?_, (h2 s a ha).2⟩, h3⟩⟩
  by_cases hsr : s = r
  · subst hsr
    rw [hq] at ha
    injection ha with ha
    subst ha
    rw [e1]
    have hset := Joins.block_setCell (i := c) hB (.int .i64 n)
    refine ⟨by simp [i64s], .inr ⟨g, cap', cur'.setIfInBounds c (.int .i64 n), by rw [List.length_set], hg, hset, by rw [List.length_set]; exact hn, hm, by simpa using hs, ?_⟩⟩
    rw [List.length_set, Array.toList_setIfInBounds, List.take_set, ht]
    simp [i64s, List.map_set]
  · rw [e2 s hsr]
    refine ownsRow_setCell_other (h2 s a ha).1 (fun e3 => ?_) _
    exact h3 r s _ a hq ha (fun e => hsr e.symm) g rfl e3
/-- rows made by make.Way -/
theorem Ap.of_way {w wr : World} {bb k : Nat} {x y wh : Int} {v : Value} {vals : List Value} {N : Nat → Nat → Int} (h : make.Way w wr bb x y wh k v vals N) : Ap wr (w.heap.size + 1) wr.heap.size v k (make.quad N) := by
  refine ⟨vals, h.owns, fun r q hq => ?_, fun r s a b ha hb hrs c hc hc2 => ?_⟩
  · obtain ⟨g, rfl, hg, hr⟩ := h.row r q hq
    obtain ⟨cs, h1, h2, h3⟩ := hr
    have hl : cs.toList = i64s (make.quad N r) := by
      apply List.ext_getElem? 
      intro i
      by_cases hi : i < 4
      · have := h3 i hi
        rw [Array.getElem?_toList, this]
        rcases (by omega : i = 0 ∨ i = 1 ∨ i = 2 ∨ i = 3) with rfl | rfl | rfl | rfl <;> rfl
      · rw [List.getElem?_eq_none (by simp; omega), List.getElem?_eq_none (by simp [i64s, make.quad]; omega)]
    refine ⟨⟨rfl, .inr ⟨g, 4, cs, rfl, hg, h1, Nat.le_refl _, by unfold maxLen; omega, h2, ?_⟩⟩, fun b hb => ?_⟩
    · rw [hl]; rfl
    · simp [Value.ownBlock] at hb
      subst hb
      exact lt_of_block h1
  · obtain ⟨g, rfl, _, _⟩ := h.row r a ha
    obtain ⟨g', rfl, _, _⟩ := h.row s b hb
    simp [Value.ownBlock] at hc hc2
    exact h.each r s g g' hrs ha hb (by omega)

end Go.Proofs.Ytggodllfaggjiab.built3
