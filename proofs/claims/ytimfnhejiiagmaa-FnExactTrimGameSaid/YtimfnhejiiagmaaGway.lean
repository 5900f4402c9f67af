/- A Game under way in the model: a twin of make.Way. -/
import Derived.Test.YtimfnhejiiagmaaMake
namespace Go.Proofs.Ytimfnhejiiagmaa.gway
open Go.RowKit Go.Deep Go.Proofs.Ytimfnhejiiagmaa.base
open Go.Proofs.Ytimfnhejiiagmaa.make (blk_type own_type quad rowsOf len_rowsOf in_row)
theorem apart {w : World} {B B' e e' z z' n n' : Nat} {v v' : Value} {xs xs' : List Value} (h : w.ownsRow B e z v n xs) (h' : w.ownsRow B' e' z' v' n' xs') (he : e ≠ e') : v.ownBlock = none ∨ v.ownBlock ≠ v'.ownBlock := by
  cases hv : v.ownBlock with
  | none => exact .inl rfl
  | some b =>
    refine .inr (fun e1 => ?_)
    obtain ⟨c, hc⟩ := own_type h hv
    obtain ⟨c', hc'⟩ := own_type h' e1.symm
    exact he (blk_type hc hc')
theorem apart_blk {w : World} {B e z n b t : Nat} {v : Value} {xs : List Value} {cs : Array Value} (h : w.ownsRow B e z v n xs) (h' : Blk w b t cs) (he : e ≠ t) : v.ownBlock ≠ some b := fun e1 => by
  obtain ⟨c, hc⟩ := own_type h e1
  exact he (blk_type hc h')

/-- what a Game under way holds: its own block, the slice of the wins, each row in a block of its own -/
structure Way (w wr : World) (bb : Nat) (x y : Int) (wv : Value) (ws : List Int) (k : Nat) (v : Value) (vals : List Value) (N : Nat → Nat → Int) : Prop where
  below : Below w.heap.size w wr
  bge : w.heap.size ≤ bb
  blk : Blk wr bb 40 #[.int .i64 x, .int .i64 y, wv, v]
  owns : wr.ownsRow (w.heap.size) 34 1 v k vals
  wts : wr.ownsRow w.heap.size 3 1 wv ws.length (i64s ws)
  row : ∀ r u, vals[r]? = some u → ∃ g, u = .slice (some ⟨g, 0, none⟩) 4 4 ∧ w.heap.size ≤ g ∧ wr.rowIs g 3 4 (fun j => .int .i64 ((quad N r).getD j 0))
  each : ∀ (r s : Nat) (g g' : Nat), r ≠ s → vals[r]? = some (.slice (some ⟨g, 0, none⟩) 4 4) → vals[s]? = some (.slice (some ⟨g', 0, none⟩) 4 4) → g ≠ g'

theorem Way.keep {w wr w2 : World} {bb k : Nat} {x y : Int} {wv : Value} {ws : List Int} {v : Value} {vals : List Value} {N : Nat → Nat → Int} (h : Way w wr bb x y wv ws k v vals N) (hb : Below wr.heap.size wr w2) : Way w w2 bb x y wv ws k v vals N :=
  ⟨below_tr h.below hb, h.bge, h.blk.below hb, app.owns_below h.owns hb, app.owns_below h.wts hb, fun r u hu => by
    obtain ⟨g, e, hg, hr⟩ := h.row r u hu
    exact ⟨g, e, hg, hr.of_block (hb.block _ hr.lt)⟩, h.each⟩

theorem Way.grow {w W w' : World} {bb k g : Nat} {x y : Int} {wv : Value} {ws : List Int} {v v' : Value} {vals : List Value} {N : Nat → Nat → Int} (h : Way w W bb x y wv ws k v vals N)
    (hr : W.rowIs g 3 4 (fun j => .int .i64 ((quad N k).getD j 0))) (hge : w.heap.size ≤ g) (hfr : ∀ (r g' : Nat), vals[r]? = some (Value.slice (some ⟨g', 0, none⟩) 4 4) → g' ≠ g)
    (ho : w'.ownsRow (w.heap.size) 34 1 v' (k + 1) (vals ++ [.slice (some ⟨g, 0, none⟩) 4 4])) (hg : W.grownBy w' v.ownBlock) :
    Way w (w'.setCell ⟨bb, 3, none⟩ v') bb x y wv ws (k + 1) v' (vals ++ [.slice (some ⟨g, 0, none⟩) 4 4]) N := by
  have hlen : vals.length = k := by have := h.owns.1; omega
  have nb : some bb ≠ v.ownBlock := fun e => by
    obtain ⟨c, hc⟩ := own_type h.owns e.symm
    exact absurd (blk_type hc h.blk) (by decide)
  have rows : ∀ g' f, W.rowIs g' 3 4 f → (w'.setCell ⟨bb, 3, none⟩ v').rowIs g' 3 4 f := fun g' f hr' => by
    have n1 : some g' ≠ v.ownBlock := fun e => by
      obtain ⟨c, hc⟩ := own_type h.owns e.symm
      obtain ⟨c', hc', _⟩ := hr'
      exact absurd (blk_type hc hc') (by decide)
    have n2 : g' ≠ bb := fun e => by
      obtain ⟨c', hc', _⟩ := hr'
      rw [e] at hc'
      exact absurd (blk_type hc' h.blk) (by decide)
    exact (hr'.of_block (hg.block _ hr'.lt n1)).setOther n2 _
  have hB' : Blk w' bb 40 #[.int .i64 x, .int .i64 y, wv, v] := (hg.block _ h.blk.lt nb).trans h.blk
  have nv' : v'.ownBlock ≠ some bb := fun e => by
    obtain ⟨c, hc⟩ := own_type ho e
    exact absurd (blk_type hc hB') (by decide)
  have hwt := h.wts.kept hg (apart h.wts h.owns (by decide))
  refine ⟨?_, h.bge, ?_, ownsRow_setCell_other ho nv' _, ownsRow_setCell_other hwt (apart_blk hwt hB' (by decide)) _, ?_, ?_⟩
  · exact (h.below.grown hg h.below.size (fun j hj => (h.owns.lt j hj).1)).setCell h.bge _
  · have := Joins.block_setCell (i := 3) hB' v'
    unfold Blk
    simpa using this
  · intro r u hu
    by_cases e : r < vals.length
    · rw [List.getElem?_append_left e] at hu
      obtain ⟨g', e', hg', hr'⟩ := h.row r u hu
      exact ⟨g', e', hg', rows g' _ hr'⟩
    · rw [List.getElem?_append_right (by omega)] at hu
      rcases Nat.eq_zero_or_pos (r - vals.length) with z | z
      · rw [z] at hu; simp at hu
        obtain rfl : r = k := by omega
        exact ⟨g, hu.symm, hge, rows g _ hr⟩
      · rw [List.getElem?_eq_none (by simp; omega)] at hu; cases hu
  · intro r s g1 g2 hne h1 h2
    have old : ∀ r u, (vals ++ [Value.slice (some ⟨g, 0, none⟩) 4 4])[r]? = some u → (r < vals.length ∧ vals[r]? = some u) ∨ (r = vals.length ∧ u = .slice (some ⟨g, 0, none⟩) 4 4) := by
      intro r u hu
      by_cases e : r < vals.length
      · rw [List.getElem?_append_left e] at hu; exact .inl ⟨e, hu⟩
      · rw [List.getElem?_append_right (by omega)] at hu
        rcases Nat.eq_zero_or_pos (r - vals.length) with z | z
        · rw [z] at hu; simp at hu; exact .inr ⟨by omega, hu.symm⟩
        · rw [List.getElem?_eq_none (by simp; omega)] at hu; cases hu
    have inj : ∀ a b : Nat, Value.slice (some ⟨a, 0, none⟩) 4 4 = Value.slice (some ⟨b, 0, none⟩) 4 4 → a = b := fun a b e => by injection e with e; injection e with e; injection e
    rcases old r _ h1 with ⟨_, e1⟩ | ⟨e1, q1⟩ <;> rcases old s _ h2 with ⟨_, e2⟩ | ⟨e2, q2⟩
    · exact h.each r s g1 g2 hne e1 e2
    · have := inj _ _ q2; subst this; exact hfr r g1 e1
    · have := inj _ _ q1; subst this; exact (hfr s g2 e2).symm
    · omega

theorem Way.field {w W w' : World} {bb k : Nat} {x y : Int} {wv : Value} {ws : List Int} {v : Value} {vals : List Value} {N : Nat → Nat → Int} (h : Way w W bb x y wv ws k v vals N) (hg : W.grownBy w' v.ownBlock) :
    w'.cell? ⟨bb, 3, none⟩ = some v ∧ w'.frozen? ⟨bb, 3, none⟩ = false := by
  have nb : some bb ≠ v.ownBlock := fun e => by
    obtain ⟨c, hc⟩ := own_type h.owns e.symm
    exact absurd (blk_type hc h.blk) (by decide)
  have hB' : Blk w' bb 40 #[.int .i64 x, .int .i64 y, wv, v] := (hg.block _ h.blk.lt nb).trans h.blk
  exact ⟨(four_cells hB').2.2.2.1, Joins.unfrozen_of_block hB' 3⟩

theorem Way.done {w W : World} {bb k : Nat} {x y : Int} {wv : Value} {ws : List Int} {v : Value} {vals : List Value} {N : Nat → Nat → Int} (h : Way w W bb x y wv ws k v vals N) : OwnRows W (w.heap.size) W.heap.size v (rowsOf N k) := by
  have hlen : vals.length = k := by have := h.owns.1; omega
  have hs : Sl W v vals := app.sl_of_owns h.owns
  have vb : ∀ p, In v p → v.ownBlock = some p.block := by
    rintro p ⟨b, o, len, cap, rfl, hb, _⟩
    simp [Value.ownBlock, hb]
  refine ⟨vals, hs, by rw [hlen, len_rowsOf], ?_, fun p hp => (h.owns.lt _ (vb p hp)).1, fun p hp => In.lt hs hp, ?_, ?_, ?_, ?_, ?_⟩
  · intro r hr
    rw [len_rowsOf] at hr
    have hu := List.getElem?_eq_getElem (l := vals) (i := r) (by omega)
    obtain ⟨g, e, hg, hrow⟩ := h.row r _ hu
    refine ⟨_, hu, ?_⟩
    rw [e]
    have eq : (rowsOf N k)[r]'(by rw [len_rowsOf]; exact hr) = quad N r := by simp [rowsOf]
    rw [eq]
    have := ints.own_of_row (w := W) (B := 0) (T := W.heap.size) (xs := quad N r) hrow (Nat.zero_le _) hrow.lt (by simp [quad, maxLen])
    exact this.ints
  · intro u hu p hp
    obtain ⟨r, hr⟩ := List.mem_iff_getElem?.1 hu
    obtain ⟨g, rfl, hg, hrow⟩ := h.row r u hr
    obtain ⟨e, _⟩ := in_row hp
    omega
  · intro u hu p hp
    obtain ⟨r, hr⟩ := List.mem_iff_getElem?.1 hu
    obtain ⟨g, rfl, hg, hrow⟩ := h.row r u hr
    obtain ⟨e, _⟩ := in_row hp
    have := hrow.lt
    omega
  · rintro u hu ⟨pb, po, ps⟩ hp
    obtain ⟨r, hr⟩ := List.mem_iff_getElem?.1 hu
    obtain ⟨g, rfl, hg, hrow⟩ := h.row r u hr
    obtain ⟨e, e2, _⟩ := in_row hp
    simp at e e2
    subst e; subst e2
    exact hrow.frozen po
  · intro u hu p hp hq
    obtain ⟨r, hr⟩ := List.mem_iff_getElem?.1 hu
    obtain ⟨g, rfl, hg, hrow⟩ := h.row r u hr
    obtain ⟨e, _⟩ := in_row hp
    obtain ⟨c, hc⟩ := own_type h.owns (vb p hq)
    obtain ⟨c', hc', _⟩ := hrow
    rw [e] at hc
    exact absurd (blk_type hc hc') (by decide)
  · intro r s a b hne ha hb p hp hq
    obtain ⟨g, rfl, _, _⟩ := h.row r a ha
    obtain ⟨g', rfl, _, _⟩ := h.row s b hb
    have e1 := (in_row hp).1
    have e2 := (in_row hq).1
    exact h.each r s g g' hne ha hb (by omega)


/-- a Game with no wins yet -/
theorem Way.start {w wr : World} {bb : Nat} {x y : Int} {wv v : Value} {ws : List Int} {N : Nat → Nat → Int} (hb : Below w.heap.size w wr) (hbb : w.heap.size ≤ bb) (hk : Blk wr bb 40 #[.int .i64 x, .int .i64 y, wv, v]) (ho : wr.ownsRow w.heap.size 34 1 v 0 []) (hw : wr.ownsRow w.heap.size 3 1 wv ws.length (i64s ws)) : Way w wr bb x y wv ws 0 v [] N :=
  ⟨hb, hbb, hk, ho, hw, fun r u hu => by simp at hu, fun r s g g' _ hu => by simp at hu⟩

end Go.Proofs.Ytimfnhejiiagmaa.gway
