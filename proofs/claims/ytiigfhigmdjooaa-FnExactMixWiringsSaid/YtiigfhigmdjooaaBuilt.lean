/- A box under way whose rows are built by append, each in memory of its own. -/
import Derived.Test.YtiigfhigmdjooaaMake
namespace Go.Proofs.Ytiigfhigmdjooaa.built
open Go.RowKit Go.Deep Go.Proofs.Ytiigfhigmdjooaa.base
open Go.Proofs.Ytiigfhigmdjooaa.make (blk_type own_type)

theorem base_mono {w : World} {B B' e z n : Nat} {v : Value} {xs : List Value} (h : w.ownsRow B e z v n xs) (hB : B' ≤ B) : w.ownsRow B' e z v n xs := by
  refine ⟨h.1, ?_⟩
  rcases h.2 with hn | ⟨g, cap, cur, rfl, hb, rest⟩
  · exact .inl hn
  · exact .inr ⟨g, cap, cur, rfl, by omega, rest⟩
theorem apart {w : World} {B B' e e' z z' n n' : Nat} {v v' : Value} {xs xs' : List Value} (h : w.ownsRow B e z v n xs) (h' : w.ownsRow B' e' z' v' n' xs') (he : e ≠ e') : v.ownBlock = none ∨ v.ownBlock ≠ v'.ownBlock := by
  cases hv : v.ownBlock with
  | none => exact .inl rfl
  | some b =>
    refine .inr (fun e1 => ?_)
    obtain ⟨c, hc⟩ := own_type h hv
    obtain ⟨c', hc'⟩ := own_type h' e1.symm
    exact he (blk_type hc hc')
theorem apart_blk {w : World} {B e z n b t : Nat} {v : Value} {xs : List Value} {cs : Array Value} (h : w.ownsRow B e z v n xs) (h' : Blk w b t cs) (he : e ≠ t) : v.ownBlock ≠ some b := fun e1 => by
  obtain ⟨c, hc⟩ := own_type h e1
  exact he (blk_type hc h')

/-- own block bb, block of the result rs, the slice of the rows v, the rows vals so far, each with the data D tells, in blocks below m -/
structure Built (w wr : World) (B bb rs : Nat) (x y wh : Int) (k m : Nat) (v : Value) (vals : List Value) (D : Nat → List Int) : Prop where
  below : Below w.heap.size w wr
  base : w.heap.size ≤ B
  bge : w.heap.size ≤ rs ∧ rs < bb
  blk : Blk wr bb 28 #[.int .i64 x, .int .i64 y, .int .i64 wh, v]
  res : Blk wr rs 28 #[.int .i64 0, .int .i64 0, .int .i64 0, .slice none 0 0]
  owns : wr.ownsRow B 39 1 v k vals
  row : ∀ r u, vals[r]? = some u → wr.ownsRow B 3 1 u (D r).length (i64s (D r)) ∧ ∀ b, u.ownBlock = some b → b < m
  ge : w.heap.size ≤ m
  le : m ≤ wr.heap.size

theorem Built.keep {w wr w2 : World} {B bb rs k m : Nat} {x y wh : Int} {v : Value} {vals : List Value} {D : Nat → List Int} (h : Built w wr B bb rs x y wh k m v vals D) (hb : Below wr.heap.size wr w2) : Built w w2 B bb rs x y wh k m v vals D :=
  ⟨below_tr h.below hb, h.base, h.bge, h.blk.below hb, h.res.below hb, app.owns_below h.owns hb, fun r u hu => ⟨app.owns_below (h.row r u hu).1 hb, (h.row r u hu).2⟩, h.ge, Nat.le_trans h.le hb.size⟩

/-- the next row may begin at the world's end -/
theorem Built.fresh {w wr : World} {B bb rs k m : Nat} {x y wh : Int} {v : Value} {vals : List Value} {D : Nat → List Int} (h : Built w wr B bb rs x y wh k m v vals D) : Built w wr B bb rs x y wh k wr.heap.size v vals D :=
  ⟨h.below, h.base, h.bge, h.blk, h.res, h.owns, fun r u hu => ⟨(h.row r u hu).1, fun b hb => Nat.lt_of_lt_of_le ((h.row r u hu).2 b hb) h.le⟩, h.below.size, Nat.le_refl _⟩

/-- an append to the row under way -/
theorem Built.inner {w W w' : World} {B bb rs k m n : Nat} {x y wh : Int} {v q : Value} {vals xs : List Value} {D : Nat → List Int} (h : Built w W B bb rs x y wh k m v vals D)
    (hq : W.ownsRow m 3 1 q n xs) (hg : W.grownBy w' q.ownBlock) : Built w w' B bb rs x y wh k m v vals D := by
  have n1 := apart_blk hq h.blk (by decide)
  have n2 := apart_blk hq h.res (by decide)
  refine ⟨h.below.grown hg h.below.size (fun j hj => Nat.le_trans h.ge (hq.lt j hj).1), h.base, h.bge, (hg.block _ h.blk.lt (fun e => n1 e.symm)).trans h.blk, (hg.block _ h.res.lt (fun e => n2 e.symm)).trans h.res,
    h.owns.kept hg (apart h.owns hq (by decide)), fun r u hu => ⟨(h.row r u hu).1.kept hg ?_, (h.row r u hu).2⟩, h.ge, Nat.le_trans h.le hg.size⟩
  cases hb : u.ownBlock with
  | none => exact .inl rfl
  | some b =>
    refine .inr (fun e => ?_)
    have a1 := (h.row r u hu).2 b hb
    have a2 := (hq.lt b e.symm).1
    omega

/-- the row is done -/
theorem Built.grow {w W w' : World} {B bb rs k m n : Nat} {x y wh : Int} {v v' u : Value} {vals : List Value} {D : Nat → List Int} (h : Built w W B bb rs x y wh k m v vals D)
    (hu : W.ownsRow n 3 1 u (D k).length (i64s (D k))) (hn : B ≤ n) (ho : w'.ownsRow B 39 1 v' (k + 1) (vals ++ [u])) (hg : W.grownBy w' v.ownBlock) :
    Built w (w'.setCell ⟨bb, 3, none⟩ v') B bb rs x y wh (k + 1) w'.heap.size v' (vals ++ [u]) D := by
  have hlen : vals.length = k := by have := h.owns.1; omega
  have n1 := apart_blk h.owns h.blk (by decide)
  have n2 := apart_blk h.owns h.res (by decide)
  have hB' : Blk w' bb 28 #[.int .i64 x, .int .i64 y, .int .i64 wh, v] := (hg.block _ h.blk.lt (fun e => n1 e.symm)).trans h.blk
  have hR' : Blk w' rs 28 #[.int .i64 0, .int .i64 0, .int .i64 0, .slice none 0 0] := (hg.block _ h.res.lt (fun e => n2 e.symm)).trans h.res
  have n3 := apart_blk ho hB' (by decide)
  have rows : ∀ (q : Value) (xs : List Value) (l : Nat), W.ownsRow B 3 1 q l xs → (w'.setCell ⟨bb, 3, none⟩ v').ownsRow B 3 1 q l xs ∧ ∀ b, q.ownBlock = some b → b < w'.heap.size := fun q xs l hq => by
    have k1 := hq.kept hg (apart hq h.owns (by decide))
    exact ⟨ownsRow_setCell_other k1 (apart_blk k1 hB' (by decide)) _, fun b hb => (k1.lt b hb).2⟩
  refine ⟨?_, h.base, h.bge, ?_, ?_, ownsRow_setCell_other ho n3 _, ?_, Nat.le_trans h.below.size hg.size, by simp [World.setCell]⟩
  · exact (h.below.grown hg h.below.size (fun j hj => Nat.le_trans h.base (h.owns.lt j hj).1)).setCell (by have := h.bge; show w.heap.size ≤ bb; omega) _
  · have := Joins.block_setCell (i := 3) hB' v'
    unfold Blk
    simpa using this
  · have e : (w'.setCell ⟨bb, 3, none⟩ v').heap[rs]? = w'.heap[rs]? := Below.heap_setCell _ _ _ _ (by have := h.bge; simp; omega)
    exact e.trans hR'
  · intro r q hq
    by_cases e : r < vals.length
    · rw [List.getElem?_append_left e] at hq
      exact rows q _ _ (h.row r q hq).1
    · rw [List.getElem?_append_right (by omega)] at hq
      rcases Nat.eq_zero_or_pos (r - vals.length) with z | z
      · rw [z] at hq; simp at hq; subst hq
        obtain rfl : r = k := by omega
        exact rows _ _ _ (base_mono hu hn)
      · rw [List.getElem?_eq_none (by simp; omega)] at hq; cases hq

theorem Built.field {w W w' : World} {B bb rs k m : Nat} {x y wh : Int} {v : Value} {vals : List Value} {D : Nat → List Int} (h : Built w W B bb rs x y wh k m v vals D) (hg : W.grownBy w' v.ownBlock) :
    w'.cell? ⟨bb, 3, none⟩ = some v ∧ w'.frozen? ⟨bb, 3, none⟩ = false := by
  have n1 := apart_blk h.owns h.blk (by decide)
  have hB' : Blk w' bb 28 #[.int .i64 x, .int .i64 y, .int .i64 wh, v] := (hg.block _ h.blk.lt (fun e => n1 e.symm)).trans h.blk
  exact ⟨(four_cells hB').2.2.2.1, Joins.unfrozen_of_block hB' 3⟩

theorem Built.rows {w W : World} {B bb rs k m : Nat} {x y wh : Int} {v : Value} {vals : List Value} {D : Nat → List Int} (h : Built w W B bb rs x y wh k m v vals D) : IRows W v ((List.range k).map D) := by
  have hlen : vals.length = k := by have := h.owns.1; omega
  refine ⟨vals, app.sl_of_owns h.owns, by simp [hlen], fun r hr => ?_⟩
  simp at hr
  have hu := List.getElem?_eq_getElem (l := vals) (i := r) (by omega)
  refine ⟨_, hu, ?_⟩
  have := (app.ints_of_owns (h.row r _ hu).1).ints
  simpa using this

/-- stores into the result's block leave what the rows say -/
theorem Built.kept {w W w' : World} {B bb rs k m : Nat} {x y wh : Int} {v : Value} {vals : List Value} {D : Nat → List Int} (h : Built w W B bb rs x y wh k m v vals D) (hw : Wrote (fun p => p.block = rs) W w') : IRows w' v ((List.range k).map D) := by
  have other : ∀ (e q l : Nat) (u : Value) (xs : List Value), W.ownsRow B e 1 u l xs → e ≠ 28 → w'.ownsRow B e 1 u l xs := fun e q l u xs hu he => by
    refine ⟨hu.1, ?_⟩
    have ne := apart_blk hu h.res he
    rcases hu.2 with hn | ⟨g, cap, cur, rfl, hb, hgg, rest⟩
    · exact .inl hn
    · exact .inr ⟨g, cap, cur, rfl, hb, (hw.block g (fun p hp e1 => ne (by simp [Value.ownBlock]; omega))).trans hgg, rest⟩
  have hlen : vals.length = k := by have := h.owns.1; omega
  refine ⟨vals, app.sl_of_owns (other _ 0 _ _ _ h.owns (by decide)), by simp [hlen], fun r hr => ?_⟩
  simp at hr
  have hu := List.getElem?_eq_getElem (l := vals) (i := r) (by omega)
  refine ⟨_, hu, ?_⟩
  have := (app.ints_of_owns (other _ 0 _ _ _ (h.row r _ hu).1 (by decide))).ints
  simpa using this

/-- rows each in memory of its own in blocks from B on -/
def Apart (w : World) (B : Nat) (u : Value) (k : Nat) (D : Nat → List Int) : Prop :=
  ∃ vals, w.ownsRow B 39 1 u k vals ∧ ∀ r q, vals[r]? = some q → w.ownsRow B 3 1 q (D r).length (i64s (D r))
theorem Apart.below {w w' : World} {B k : Nat} {u : Value} {D : Nat → List Int} (h : Apart w B u k D) (hb : Below w.heap.size w w') : Apart w' B u k D := by
  obtain ⟨vals, h1, h2⟩ := h
  exact ⟨vals, app.owns_below h1 hb, fun r q hq => app.owns_below (h2 r q hq) hb⟩
theorem owns_low {w w' : World} {B e l : Nat} {u : Value} {xs : List Value} (hu : w.ownsRow B e 1 u l xs) (hw : Wrote (fun p => p.block < B) w w') : w'.ownsRow B e 1 u l xs := by
  refine ⟨hu.1, ?_⟩
  rcases hu.2 with hn | ⟨g, cap, cur, rfl, hb, hgg, rest⟩
  · exact .inl hn
  · exact .inr ⟨g, cap, cur, rfl, hb, (hw.block g (fun p hp e1 => by have : p.block < B := hp; omega)).trans hgg, rest⟩
theorem Apart.low {w w' : World} {B k : Nat} {u : Value} {D : Nat → List Int} (h : Apart w B u k D) (hw : Wrote (fun p => p.block < B) w w') : Apart w' B u k D := by
  obtain ⟨vals, h1, h2⟩ := h
  exact ⟨vals, owns_low h1 hw, fun r q hq => owns_low (h2 r q hq) hw⟩
theorem Apart.mono {w : World} {B B' k : Nat} {u : Value} {D : Nat → List Int} (h : Apart w B u k D) (hB : B' ≤ B) : Apart w B' u k D := by
  obtain ⟨vals, h1, h2⟩ := h
  exact ⟨vals, base_mono h1 hB, fun r q hq => base_mono (h2 r q hq) hB⟩
theorem Apart.rows {w : World} {B k : Nat} {u : Value} {D : Nat → List Int} (h : Apart w B u k D) : IRows w u ((List.range k).map D) := by
  obtain ⟨vals, h1, h2⟩ := h
  have hlen : vals.length = k := by have := h1.1; omega
  refine ⟨vals, app.sl_of_owns h1, by simp [hlen], fun r hr => ?_⟩
  simp at hr
  have hu := List.getElem?_eq_getElem (l := vals) (i := r) (by omega)
  refine ⟨_, hu, ?_⟩
  have := (app.ints_of_owns (h2 r _ hu)).ints
  simpa using this
/-- a box done, its result's block written -/
theorem Built.apart {w W w' : World} {B bb rs k m : Nat} {x y wh : Int} {v : Value} {vals : List Value} {D : Nat → List Int} (h : Built w W B bb rs x y wh k m v vals D) (hw : Wrote (fun p => p.block = rs) W w') : Apart w' B v k D := by
  have other : ∀ (e l : Nat) (u : Value) (xs : List Value), W.ownsRow B e 1 u l xs → e ≠ 28 → w'.ownsRow B e 1 u l xs := fun e l u xs hu he => by
    refine ⟨hu.1, ?_⟩
    have ne := apart_blk hu h.res he
    rcases hu.2 with hn | ⟨g, cap, cur, rfl, hb, hgg, rest⟩
    · exact .inl hn
    · exact .inr ⟨g, cap, cur, rfl, hb, (hw.block g (fun p hp e1 => ne (by simp [Value.ownBlock]; omega))).trans hgg, rest⟩
  exact ⟨vals, other _ _ _ _ h.owns (by decide), fun r q hq => other _ _ _ _ (h.row r q hq).1 (by decide)⟩

end Go.Proofs.Ytiigfhigmdjooaa.built
