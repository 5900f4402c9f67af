/- A Trio under way in the model: rows of eight, appended one after another. -/
import Derived.Test.YtomofmmecpdalaaMake
import Derived.Test.YtomofmmecpdalaaGrd
namespace Go.Proofs.Ytomofmmecpdalaa.twy
open Go.RowKit Go.Deep Go.Proofs.Ytomofmmecpdalaa.base
open Go.Proofs.Ytomofmmecpdalaa.make (blk_type own_type)

theorem in_row {g : Nat} {p : Addr} (h : In (.slice (some ⟨g, 0, none⟩) 8 8) p) : p.block = g ∧ p.spot = none ∧ p.off < 8 := by
  obtain ⟨b, o, len, cap, hv, hb, hs, h1, h2⟩ := h
  injection hv with e1 e2 e3
  injection e1 with e1
  injection e1 with e1 e4
  subst e1; subst e4; subst e2
  exact ⟨hb, hs, by omega⟩

def rowsT (N : Nat → Nat → Int) (n : Nat) : List (List Int) := (List.range n).map fun q => (List.range 8).map fun k => N q k
theorem len_rowsT (N : Nat → Nat → Int) (n : Nat) : (rowsT N n).length = n := by simp [rowsT]

/-- what a box under way holds: its own block, that of the result, the slice of the rows, each row in a block of its own -/
structure Way (w wr : World) (bb : Nat) (wh : Int) (k : Nat) (v : Value) (vals : List Value) (N : Nat → Nat → Int) : Prop where
  below : Below w.heap.size w wr
  bge : w.heap.size < bb
  blk : Blk wr bb 27 #[.int .i64 wh, v]
  res : Blk wr w.heap.size 27 #[.int .i64 0, .slice none 0 0]
  owns : wr.ownsRow (w.heap.size + 1) 33 1 v k vals
  row : ∀ r u, vals[r]? = some u → ∃ g, u = .slice (some ⟨g, 0, none⟩) 8 8 ∧ w.heap.size + 1 ≤ g ∧ wr.rowIs g 3 8 (fun j => .int .i64 (N r j))
  each : ∀ (r s : Nat) (g g' : Nat), r ≠ s → vals[r]? = some (.slice (some ⟨g, 0, none⟩) 8 8) → vals[s]? = some (.slice (some ⟨g', 0, none⟩) 8 8) → g ≠ g'

theorem Way.keep {w wr w2 : World} {bb k : Nat} {wh : Int} {v : Value} {vals : List Value} {N : Nat → Nat → Int} (h : Way w wr bb wh k v vals N) (hb : Below wr.heap.size wr w2) : Way w w2 bb wh k v vals N :=
  ⟨below_tr h.below hb, h.bge, h.blk.below hb, h.res.below hb, app.owns_below h.owns hb, fun r u hu => by
    obtain ⟨g, e, hg, hr⟩ := h.row r u hu
    exact ⟨g, e, hg, hr.of_block (hb.block _ hr.lt)⟩, h.each⟩

theorem Way.grow {w W w' : World} {bb k g : Nat} {wh : Int} {v v' : Value} {vals : List Value} {N : Nat → Nat → Int} (h : Way w W bb wh k v vals N)
    (hr : W.rowIs g 3 8 (fun j => .int .i64 (N k j))) (hge : w.heap.size + 1 ≤ g) (hfr : ∀ (r g' : Nat), vals[r]? = some (Value.slice (some ⟨g', 0, none⟩) 8 8) → g' ≠ g)
    (ho : w'.ownsRow (w.heap.size + 1) 33 1 v' (k + 1) (vals ++ [.slice (some ⟨g, 0, none⟩) 8 8])) (hg : W.grownBy w' v.ownBlock) :
    Way w (w'.setCell ⟨bb, 1, none⟩ v') bb wh (k + 1) v' (vals ++ [.slice (some ⟨g, 0, none⟩) 8 8]) N := by
  have hlen : vals.length = k := by have := h.owns.1; omega
  have nb : some bb ≠ v.ownBlock := fun e => by
    obtain ⟨c, hc⟩ := own_type h.owns e.symm
    exact absurd (blk_type hc h.blk) (by decide)
  have nr : some w.heap.size ≠ v.ownBlock := fun e => by
    obtain ⟨c, hc⟩ := own_type h.owns e.symm
    exact absurd (blk_type hc h.res) (by decide)
  have rows : ∀ g' f, W.rowIs g' 3 8 f → (w'.setCell ⟨bb, 1, none⟩ v').rowIs g' 3 8 f := fun g' f hr' => by
    have n1 : some g' ≠ v.ownBlock := fun e => by
      obtain ⟨c, hc⟩ := own_type h.owns e.symm
      obtain ⟨c', hc', _⟩ := hr'
      exact absurd (blk_type hc hc') (by decide)
    have n2 : g' ≠ bb := fun e => by
      obtain ⟨c', hc', _⟩ := hr'
      rw [e] at hc'
      exact absurd (blk_type hc' h.blk) (by decide)
    exact (hr'.of_block (hg.block _ hr'.lt n1)).setOther n2 _
  have hB' : Blk w' bb 27 #[.int .i64 wh, v] := (hg.block _ h.blk.lt nb).trans h.blk
  have hR' : Blk w' w.heap.size 27 #[.int .i64 0, .slice none 0 0] := (hg.block _ h.res.lt nr).trans h.res
  have nv' : v'.ownBlock ≠ some bb := fun e => by
    obtain ⟨c, hc⟩ := own_type ho e
    exact absurd (blk_type hc hB') (by decide)
  refine ⟨?_, h.bge, ?_, ?_, ownsRow_setCell_other ho nv' _, ?_, ?_⟩
  · exact (h.below.grown hg h.below.size (fun j hj => Nat.le_of_succ_le (h.owns.lt j hj).1)).setCell (Nat.le_of_lt h.bge) _
  · have := Joins.block_setCell (i := 1) hB' v'
    unfold Blk
    simpa using this
  · have e : (w'.setCell ⟨bb, 1, none⟩ v').heap[w.heap.size]? = w'.heap[w.heap.size]? := Below.heap_setCell _ _ _ _ (by have := h.bge; simp; omega)
    exact e.trans hR'
  · intro r u hu
    by_cases e : r < vals.length
    · rw [List.getElem?_append_left e] at hu
      obtain ⟨g', e', hg', hr'⟩ := h.row r u hu
      exact ⟨g', e', hg', rows g' _ hr'⟩
    · rw [List.getElem?_append_right (by omega)] at hu
      rcases Nat.eq_zero_or_pos (r - vals.length) with z | z
      · rw [z] at hu; simp at hu
        obtain rfl : r = k := by omega
        exact ⟨g, hu.symm, hge, rows g _ hr⟩
      · rw [List.getElem?_eq_none (by simp; omega)] at hu; cases hu
  · intro r s g1 g2 hne h1 h2
    have old : ∀ r u, (vals ++ [Value.slice (some ⟨g, 0, none⟩) 8 8])[r]? = some u → (r < vals.length ∧ vals[r]? = some u) ∨ (r = vals.length ∧ u = .slice (some ⟨g, 0, none⟩) 8 8) := by
      intro r u hu
      by_cases e : r < vals.length
      · rw [List.getElem?_append_left e] at hu; exact .inl ⟨e, hu⟩
      · rw [List.getElem?_append_right (by omega)] at hu
        rcases Nat.eq_zero_or_pos (r - vals.length) with z | z
        · rw [z] at hu; simp at hu; exact .inr ⟨by omega, hu.symm⟩
        · rw [List.getElem?_eq_none (by simp; omega)] at hu; cases hu
    have inj : ∀ a b : Nat, Value.slice (some ⟨a, 0, none⟩) 8 8 = Value.slice (some ⟨b, 0, none⟩) 8 8 → a = b := fun a b e => by injection e with e; injection e with e; injection e
    rcases old r _ h1 with ⟨_, e1⟩ | ⟨e1, q1⟩ <;> rcases old s _ h2 with ⟨_, e2⟩ | ⟨e2, q2⟩
    · exact h.each r s g1 g2 hne e1 e2
    · have := inj _ _ q2; subst this; exact hfr r g1 e1
    · have := inj _ _ q1; subst this; exact (hfr s g2 e2).symm
    · omega

theorem Way.field {w W w' : World} {bb k : Nat} {wh : Int} {v : Value} {vals : List Value} {N : Nat → Nat → Int} (h : Way w W bb wh k v vals N) (hg : W.grownBy w' v.ownBlock) :
    w'.cell? ⟨bb, 1, none⟩ = some v ∧ w'.frozen? ⟨bb, 1, none⟩ = false := by
  have nb : some bb ≠ v.ownBlock := fun e => by
    obtain ⟨c, hc⟩ := own_type h.owns e.symm
    exact absurd (blk_type hc h.blk) (by decide)
  have hB' : Blk w' bb 27 #[.int .i64 wh, v] := (hg.block _ h.blk.lt nb).trans h.blk
  exact ⟨(tri.two_cells hB').2.1, Joins.unfrozen_of_block hB' 1⟩

theorem Way.done {w W : World} {bb k : Nat} {wh : Int} {v : Value} {vals : List Value} {N : Nat → Nat → Int} (h : Way w W bb wh k v vals N) : OwnRows W (w.heap.size + 1) W.heap.size v (rowsT N k) := by
  have hlen : vals.length = k := by have := h.owns.1; omega
  have hs : Sl W v vals := app.sl_of_owns h.owns
  have vb : ∀ p, In v p → v.ownBlock = some p.block := by
    rintro p ⟨b, o, len, cap, rfl, hb, _⟩
    simp [Value.ownBlock, hb]
  refine ⟨vals, hs, by rw [hlen, len_rowsT], ?_, fun p hp => (h.owns.lt _ (vb p hp)).1, fun p hp => In.lt hs hp, ?_, ?_, ?_, ?_, ?_⟩
  · intro r hr
    rw [len_rowsT] at hr
    have hu := List.getElem?_eq_getElem (l := vals) (i := r) (by omega)
    obtain ⟨g, e, hg, hrow⟩ := h.row r _ hu
    refine ⟨_, hu, ?_⟩
    rw [e]
    have eq : (rowsT N k)[r]'(by rw [len_rowsT]; exact hr) = (List.range 8).map fun j => N r j := by simp [rowsT]
    rw [eq]
    have hrow' : W.rowIs g 3 ((List.range 8).map fun j => N r j).length (fun j => .int .i64 (((List.range 8).map fun j => N r j).getD j 0)) := by
      have := hrow.congr (g := fun j => .int .i64 (((List.range 8).map fun j => N r j).getD j 0)) (fun j hj => by simp [List.getD, hj])
      simpa using this
    have := ints.own_of_row (w := W) (B := 0) (T := W.heap.size) hrow' (Nat.zero_le _) hrow'.lt (by simp [maxLen])
    simpa using this.ints
  · intro u hu p hp
    obtain ⟨r, hr⟩ := List.mem_iff_getElem?.1 hu
    obtain ⟨g, rfl, hg, hrow⟩ := h.row r u hr
    obtain ⟨e, _⟩ := in_row hp
    omega
  · intro u hu p hp
    obtain ⟨r, hr⟩ := List.mem_iff_getElem?.1 hu
    obtain ⟨g, rfl, hg, hrow⟩ := h.row r u hr
    obtain ⟨e, _⟩ := in_row hp
    have := hrow.lt
    omega
  · rintro u hu ⟨pb, po, ps⟩ hp
    obtain ⟨r, hr⟩ := List.mem_iff_getElem?.1 hu
    obtain ⟨g, rfl, hg, hrow⟩ := h.row r u hr
    obtain ⟨e, e2, _⟩ := in_row hp
    simp at e e2
    subst e; subst e2
    exact hrow.frozen po
  · intro u hu p hp hq
    obtain ⟨r, hr⟩ := List.mem_iff_getElem?.1 hu
    obtain ⟨g, rfl, hg, hrow⟩ := h.row r u hr
    obtain ⟨e, _⟩ := in_row hp
    obtain ⟨c, hc⟩ := own_type h.owns (vb p hq)
    obtain ⟨c', hc', _⟩ := hrow
    rw [e] at hc
    exact absurd (blk_type hc hc') (by decide)
  · intro r s a b hne ha hb p hp hq
    obtain ⟨g, rfl, _, _⟩ := h.row r a ha
    obtain ⟨g', rfl, _, _⟩ := h.row s b hb
    have e1 := (in_row hp).1
    have e2 := (in_row hq).1
    exact h.each r s g g' hne ha hb (by omega)

end Go.Proofs.Ytomofmmecpdalaa.twy
