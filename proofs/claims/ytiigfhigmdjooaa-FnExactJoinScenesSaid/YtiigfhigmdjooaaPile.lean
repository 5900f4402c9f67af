/- Rows gathered by append in memory of the call's own, each row apart: no box about them. -/
import Derived.Test.YtiigfhigmdjooaaMk
namespace Go.Proofs.Ytiigfhigmdjooaa.pile
open Go.RowKit Go.Deep Go.Proofs.Ytiigfhigmdjooaa.base
open Go.Proofs.Ytiigfhigmdjooaa.make (blk_type own_type)

theorem cell_heap {w w' : World} {p : Addr} (h : w'.heap[p.block]? = w.heap[p.block]?) : w'.cell? p = w.cell? p := by
  simp only [World.cell?, h]
theorem frozen_heap {w w' : World} {p : Addr} (h : w'.heap[p.block]? = w.heap[p.block]?) : w'.frozen? p = w.frozen? p := by
  simp only [World.frozen?, h]
theorem in_of {w : World} {v : Value} {vals : List Value} (h : Sl w v vals) {k : Nat} {u : Value} (hu : vals[k]? = some u) : ∃ b o, In v ⟨b, o + k, none⟩ ∧ w.cell? ⟨b, o + k, none⟩ = some u := by
  obtain ⟨A, cap, hv, _, _, hc⟩ := h
  obtain ⟨b, o, hA, hcell⟩ := hc k u hu
  have hk : k < vals.length := by
    rcases Nat.lt_or_ge k vals.length with g | g
    · exact g
    · rw [List.getElem?_eq_none g] at hu; cases hu
  exact ⟨b, o, ⟨b, o, _, cap, by rw [hv, hA], rfl, rfl, by simp, by simp; omega⟩, hcell⟩
theorem sl_heap {w w' : World} {v : Value} {vals : List Value} (h : Sl w v vals) (hb : ∀ p, In v p → w'.heap[p.block]? = w.heap[p.block]?) : Sl w' v vals := by
  obtain ⟨A, cap, hv, h1, h2, hc⟩ := h
  refine ⟨A, cap, hv, h1, h2, fun k u hu => ?_⟩
  obtain ⟨b, o, hA, hcell⟩ := hc k u hu
  have hk : k < vals.length := by
    rcases Nat.lt_or_ge k vals.length with g | g
    · exact g
    · rw [List.getElem?_eq_none g] at hu; cases hu
  refine ⟨b, o, hA, ?_⟩
  rw [cell_heap (hb ⟨b, o + k, none⟩ ⟨b, o, _, cap, by rw [hv, hA], rfl, rfl, by simp, by simp; omega⟩)]
  exact hcell
theorem own_heap {w w' : World} {B T : Nat} {v : Value} {xs : List Int} (h : OwnInts w B T v xs) (hb : ∀ p, In v p → w'.heap[p.block]? = w.heap[p.block]?) : OwnInts w' B T v xs :=
  ⟨sl_heap h.ints hb, h.ge, h.lt, fun p hp => (frozen_heap (hb p hp)).trans (h.free p hp)⟩
/-- the value's memory is a block of integers -/
def Typ (w : World) (u : Value) : Prop := ∀ p, In u p → ∃ c f, w.heap[p.block]? = some (.cells c 3 f)

structure Pile (w wr : World) (B m : Nat) (v : Value) (vals : List Value) (xss : List (List Int)) : Prop where
  below : Below w.heap.size w wr
  base : w.heap.size ≤ B
  owns : wr.ownsRow B 39 1 v xss.length vals
  row : ∀ r u, vals[r]? = some u → ∃ h : r < xss.length, OwnInts wr B m u xss[r]
  typ : ∀ u ∈ vals, Typ wr u
  each : ∀ (r s : Nat) (a b : Value), r ≠ s → vals[r]? = some a → vals[s]? = some b → ∀ p, In a p → ¬ In b p
  ge : B ≤ m
  le : m ≤ wr.heap.size

theorem start {w wr : World} {B : Nat} {v : Value} (hb : Below w.heap.size w wr) (hB : w.heap.size ≤ B) (ho : wr.ownsRow B 39 1 v 0 []) (hm : B ≤ wr.heap.size) : Pile w wr B wr.heap.size v [] [] :=
  ⟨hb, hB, ho, fun r u h => by simp at h, fun u h => by simp at h, fun r s a b _ h => by simp at h, hm, Nat.le_refl _⟩

theorem Pile.mem {w wr : World} {B m : Nat} {v u : Value} {vals : List Value} {xss : List (List Int)} (h : Pile w wr B m v vals xss) (hu : u ∈ vals) : ∃ xs, OwnInts wr B m u xs := by
  obtain ⟨r, hr⟩ := List.mem_iff_getElem?.1 hu
  obtain ⟨_, h2⟩ := h.row r u hr
  exact ⟨_, h2⟩
theorem Pile.keep {w wr w2 : World} {B m : Nat} {v : Value} {vals : List Value} {xss : List (List Int)} (h : Pile w wr B m v vals xss) (hb : Below wr.heap.size wr w2) : Pile w w2 B m v vals xss :=
  ⟨below_tr h.below hb, h.base, app.owns_below h.owns hb, fun r u hu => by obtain ⟨h1, h2⟩ := h.row r u hu; exact ⟨h1, h2.keep hb⟩,
    fun u hu p hp => by
      obtain ⟨xs, h2⟩ := h.mem hu
      obtain ⟨c, f, hc⟩ := h.typ u hu p hp
      exact ⟨c, f, (hb.block _ (Nat.lt_of_lt_of_le (h2.lt p hp) h.le)).trans hc⟩, h.each, h.ge, Nat.le_trans h.le hb.size⟩
/-- the next row may begin at the world's end -/
theorem Pile.fresh {w wr : World} {B m : Nat} {v : Value} {vals : List Value} {xss : List (List Int)} (h : Pile w wr B m v vals xss) : Pile w wr B wr.heap.size v vals xss :=
  ⟨h.below, h.base, h.owns, fun r u hu => by obtain ⟨h1, h2⟩ := h.row r u hu; exact ⟨h1, h2.mono (Nat.le_refl _) h.le⟩, h.typ, h.each, Nat.le_trans h.ge h.le, Nat.le_refl _⟩

/-- an append to a row under way, that lies beyond -/
theorem Pile.inner {w W w' : World} {B m n : Nat} {v q : Value} {vals xs : List Value} {xss : List (List Int)} (h : Pile w W B m v vals xss) (hq : W.ownsRow m 3 1 q n xs) (hg : W.grownBy w' q.ownBlock) : Pile w w' B m v vals xss := by
  have far : ∀ p : Addr, p.block < m → w'.heap[p.block]? = W.heap[p.block]? := fun p hp => hg.block _ (Nat.lt_of_lt_of_le hp h.le) (fun e => by have := (hq.lt _ e.symm).1; omega)
  refine ⟨h.below.grown hg h.below.size (fun j hj => Nat.le_trans (Nat.le_trans h.base h.ge) (hq.lt j hj).1), h.base, h.owns.kept hg ?_, fun r u hu => ?_, fun u hu p hp => ?_, h.each, h.ge, Nat.le_trans h.le hg.size⟩
  · cases hv : v.ownBlock with
    | none => exact .inl rfl
    | some b =>
      refine .inr (fun e1 => ?_)
      obtain ⟨c, hc⟩ := own_type h.owns hv
      obtain ⟨c', hc'⟩ := own_type hq e1.symm
      exact absurd (blk_type hc hc') (by decide)
  · obtain ⟨h1, h2⟩ := h.row r u hu
    exact ⟨h1, own_heap h2 (fun p hp => far p (h2.lt p hp))⟩
  · obtain ⟨xs', h2⟩ := h.mem hu
    obtain ⟨c, f, hc⟩ := h.typ u hu p hp
    exact ⟨c, f, (far p (h2.lt p hp)).trans hc⟩

/-- a row more -/
theorem Pile.grow {w W w' : World} {B m m' T : Nat} {v v' u : Value} {vals : List Value} {xss : List (List Int)} {xs : List Int} (h : Pile w W B m v vals xss) (hu : OwnInts W m' T u xs) (hm : m ≤ m') (hT : T ≤ W.heap.size) (ht : Typ W u)
    (ho : w'.ownsRow B 39 1 v' (xss.length + 1) (vals ++ [u])) (hg : W.grownBy w' v.ownBlock) : Pile w w' B w'.heap.size v' (vals ++ [u]) (xss ++ [xs]) := by
  have hlen : vals.length = xss.length := by have := h.owns.1; omega
  have far : ∀ q, Typ W q → (∀ p, In q p → p.block < W.heap.size) → ∀ p, In q p → w'.heap[p.block]? = W.heap[p.block]? := fun q hq hl p hp => hg.block _ (hl p hp) (fun e => by
    obtain ⟨c, hc⟩ := own_type h.owns e.symm
    obtain ⟨c', f', hc'⟩ := hq p hp
    rw [hc] at hc'
    injection hc' with e'
    injection e' with _ e' _
    exact absurd e' (by decide))
  have fu := far u ht (fun p hp => Nat.lt_of_lt_of_le (hu.lt p hp) hT)
  have fo : ∀ q ∈ vals, ∀ p, In q p → w'.heap[p.block]? = W.heap[p.block]? := fun q hq => far q (h.typ q hq) (fun p hp => by obtain ⟨_, h2⟩ := h.mem hq; exact Nat.lt_of_lt_of_le (h2.lt p hp) h.le)
  have old : ∀ r a, (vals ++ [u])[r]? = some a → (r < vals.length ∧ vals[r]? = some a) ∨ (r = vals.length ∧ a = u) := by
    intro r a ha
    by_cases e : r < vals.length
    · rw [List.getElem?_append_left e] at ha; exact .inl ⟨e, ha⟩
    · rw [List.getElem?_append_right (by omega)] at ha
      rcases Nat.eq_zero_or_pos (r - vals.length) with g | g
      · rw [g] at ha; simp at ha; exact .inr ⟨by omega, ha.symm⟩
      · rw [List.getElem?_eq_none (by simp; omega)] at ha; cases ha
  refine ⟨h.below.grown hg h.below.size (fun j hj => Nat.le_trans h.base (h.owns.lt j hj).1), h.base, by simpa using ho, ?_, ?_, ?_, Nat.le_trans h.ge (Nat.le_trans h.le hg.size), Nat.le_refl _⟩
  · intro r q hq
    rcases old r q hq with ⟨_, e⟩ | ⟨rfl, rfl⟩
    · obtain ⟨h1, h2⟩ := h.row r q e
      refine ⟨by simp; omega, ?_⟩
      rw [List.getElem_append_left h1]
      exact (own_heap h2 (fo q (List.mem_of_getElem? e))).mono (Nat.le_refl _) (Nat.le_trans h.le hg.size)
    · refine ⟨by simp; omega, ?_⟩
      rw [List.getElem_append_right (by omega)]
      simp only [hlen, Nat.sub_self, List.getElem_cons_zero]
      exact (own_heap hu fu).mono (Nat.le_trans h.ge hm) (Nat.le_trans hT hg.size)
  · intro q hq p hp
    rcases List.mem_append.1 hq with hq | hq
    · obtain ⟨c, f, hc⟩ := h.typ q hq p hp
      exact ⟨c, f, (fo q hq p hp).trans hc⟩
    · simp at hq; subst hq
      obtain ⟨c, f, hc⟩ := ht p hp
      exact ⟨c, f, (fu p hp).trans hc⟩
  · intro r s a b hne ha hb p hp hq
    rcases old r a ha with ⟨_, e1⟩ | ⟨e1, rfl⟩ <;> rcases old s b hb with ⟨_, e2⟩ | ⟨e2, rfl⟩
    · exact h.each r s a b hne e1 e2 p hp hq
    · obtain ⟨_, h2⟩ := h.row r a e1
      have := h2.lt p hp; have := hu.ge p hq; omega
    · obtain ⟨_, h2⟩ := h.row s b e2
      have := h2.lt p hq; have := hu.ge p hp; omega
    · omega

theorem Pile.rows {w wr : World} {B m : Nat} {v : Value} {vals : List Value} {xss : List (List Int)} (h : Pile w wr B m v vals xss) : OwnRows wr B wr.heap.size v xss := by
  have hlen : vals.length = xss.length := by have := h.owns.1; omega
  have hs : Sl wr v vals := app.sl_of_owns h.owns
  have vb : ∀ p, In v p → v.ownBlock = some p.block := by
    rintro p ⟨b, o, len, cap, rfl, hb, _⟩
    simp [Value.ownBlock, hb]
  refine ⟨vals, hs, hlen, ?_, fun p hp => (h.owns.lt _ (vb p hp)).1, fun p hp => In.lt hs hp, ?_, ?_, ?_, ?_, h.each⟩
  · intro r hr
    have hu := List.getElem?_eq_getElem (l := vals) (i := r) (by omega)
    obtain ⟨_, h2⟩ := h.row r _ hu
    exact ⟨_, hu, h2.ints⟩
  · intro u hu p hp; obtain ⟨_, h2⟩ := h.mem hu; exact h2.ge p hp
  · intro u hu p hp; obtain ⟨_, h2⟩ := h.mem hu; exact Nat.lt_of_lt_of_le (h2.lt p hp) h.le
  · intro u hu p hp; obtain ⟨_, h2⟩ := h.mem hu; exact h2.free p hp
  · intro u hu p hp hq
    obtain ⟨c, hc⟩ := own_type h.owns (vb p hq)
    obtain ⟨c', f', hc'⟩ := h.typ u hu p hp
    rw [hc] at hc'
    injection hc' with e'
    injection e' with _ e' _
    exact absurd e' (by decide)

/-- a row made by append is of its type -/
theorem typ_owns {w : World} {m n : Nat} {q : Value} {xs : List Value} (h : w.ownsRow m 3 1 q n xs) : Typ w q := by
  intro p hp
  obtain ⟨b, o, len, cap, rfl, hb, _⟩ := hp
  obtain ⟨c, hc⟩ := own_type h (b := b) (by simp [Value.ownBlock])
  exact ⟨c, _, hb ▸ hc⟩
theorem typ_row {w : World} {g n : Nat} {f : Nat → Value} (h : w.rowIs g 3 n f) (len cap : Nat) : Typ w (.slice (some ⟨g, 0, none⟩) len cap) := by
  rintro p ⟨b, o, l, c, hv, hb, _⟩
  injection hv with e1 _ _
  injection e1 with e1
  injection e1 with e1 _ _
  obtain ⟨cs, hc, _⟩ := h
  exact ⟨cs, _, by rw [hb, ← e1]; exact hc⟩

end Go.Proofs.Ytiigfhigmdjooaa.pile
