/- Two lists of the call's own that grow side by side; slices.Sort and slices.Compact of one of them. -/
import Derived.Test.YtimfnhejiiagmaaTgm
import Derived.Test.YtimfnhejiiagmaaApl
import Derived.Test.YtimfnhejiiagmaaApp
import Derived.Test.YtimfnhejiiagmaaShelg
import Derived.Sort.OwnSortedInts
namespace Go.Proofs.Ytimfnhejiiagmaa.tgo
open Go.RowKit Go.Deep Go.Proofs.Ytimfnhejiiagmaa.base
open Go.Sort

/-- two lists in memory of their own, from block B on -/
structure Two (B : Nat) (wb w : World) (v u : Value) (L M : List Int) : Prop where
  below : Below B wb w
  one : w.ownsRow B 3 1 v L.length (i64s L)
  two : w.ownsRow B 3 1 u M.length (i64s M)
  dis : ∀ q, v.ownBlock = some q → u.ownBlock ≠ some q
theorem Two.keep {B : Nat} {wb w w' : World} {v u : Value} {L M : List Int} (h : Two B wb w v u L M) (hb : Below w.heap.size w w') (hB : B ≤ w.heap.size) : Two B wb w' v u L M :=
  ⟨h.below.trans (hb.mono hB), app.owns_below h.one hb, app.owns_below h.two hb, h.dis⟩
theorem Two.left {B : Nat} {wb w w' : World} {v u v' : Value} {L L' M : List Int} (h : Two B wb w v u L M) (ho : w'.ownsRow B 3 1 v' L'.length (i64s L')) (hg : w.grownBy w' v.ownBlock) (hB : B ≤ w.heap.size) (hl : v'.ownBlock = v.ownBlock ∨ v'.ownBlock = some w.heap.size) : Two B wb w' v' u L' M := by
  refine ⟨h.below.grown hg hB (fun q hq => (h.one.lt q hq).1), ho, h.two.kept hg ?_, fun q hq => ?_⟩
  · cases hb : u.ownBlock with
    | none => exact .inl rfl
    | some b => exact .inr (fun e => h.dis b e.symm hb)
  · rcases hl with k | k
    · exact h.dis q (by rw [← k]; exact hq)
    · rw [k] at hq
      injection hq with hq
      intro e
      have := (h.two.lt q e).2
      omega
theorem Two.swap {B : Nat} {wb w : World} {v u : Value} {L M : List Int} (h : Two B wb w v u L M) : Two B wb w u v M L := ⟨h.below, h.two, h.one, fun q hq e => h.dis q e hq⟩
theorem Two.right {B : Nat} {wb w w' : World} {v u u' : Value} {L M M' : List Int} (h : Two B wb w v u L M) (ho : w'.ownsRow B 3 1 u' M'.length (i64s M')) (hg : w.grownBy w' u.ownBlock) (hB : B ≤ w.heap.size) (hl : u'.ownBlock = u.ownBlock ∨ u'.ownBlock = some w.heap.size) : Two B wb w' v u' L M' :=
  (h.swap.left ho hg hB hl).swap


theorem sorts (B : Nat) (v : Value) (L : List Int) (w : World) (h : w.ownsRow B 3 1 v L.length (i64s L)) (hn : 0 < L.length) (hs : L.length < 100) :
    Calls Try.prog 84 #[v] w fun e w' => e = .returned (.tuple #[]) ∧ w'.ownsRow B 3 1 v (L.mergeSort fun x y => decide (x ≤ y)).length (i64s (L.mergeSort fun x y => decide (x ≤ y))) ∧ w.grownBy w' v.ownBlock := by
  rcases h.2 with ⟨_, h0⟩ | ⟨g, cap, cur, rfl, hg, hb, hnc, hm, hsz, htk⟩
  · omega
  rw [Nat.mul_one] at htk
  have hH := holds_of_blockI hb htk
  refine (Try.slices_Sort_int g 0 cap L w hH (lt_of_block hb) (by omega)).mono ?_
  rintro e w' ⟨rfl, n, os, rfl⟩
  refine ⟨rfl, ?_, ?_⟩
  · have := ownsRow_sortedI (n := n) (os := os) (ss := L) (ts := L.mergeSort fun x y => decide (x ≤ y)) (List.length_mergeSort _) hg hb hnc hm hsz
    rw [List.length_mergeSort]
    exact this
  · have := grownBy_sortedI (w := w) (g := g) (n := n) (os := os) (L.mergeSort fun x y => decide (x ≤ y)).toArray
    simpa [Value.ownBlock] using this


theorem compacts (B : Nat) (v : Value) (L : List Int) (w : World) (h : w.ownsRow B 3 1 v L.length (i64s L)) (hn : 0 < L.length) (hs : L.length < 100) :
    Calls Try.prog 85 #[v] w fun e w' => ∃ v', e = .returned v' ∧ Ints w' v' (Lib.compact L) ∧ (∀ p, In v' p → v.ownBlock = some p.block) ∧ w.grownBy w' v.ownBlock := by
  rcases h.2 with ⟨_, h0⟩ | ⟨g, cap, cur, rfl, hg, hb, hnc, hm, hsz, htk⟩
  · omega
  rw [Nat.mul_one] at htk
  have hH := holds_of_blockI hb htk
  have hcl := Lib.compact_length_le L
  refine (Try.slices_Compact_int g 0 cap L w hH (by omega) hnc).mono ?_
  rintro e w' ⟨rfl, q, rfl⟩
  have hlen : (Lib.compact L ++ List.replicate (L.length - (Lib.compact L).length) 0).length = L.length := by simp; omega
  have hown := ownsRow_sortedI (n := q) (os := #[]) (ss := L) (ts := Lib.compact L ++ List.replicate (L.length - (Lib.compact L).length) 0) hlen hg hb hnc hm hsz
  have hgr := grownBy_sortedI (w := w) (g := g) (n := q) (os := #[]) (Lib.compact L ++ List.replicate (L.length - (Lib.compact L).length) 0).toArray
  rw [grow_empty] at hown hgr
  refine ⟨_, rfl, ⟨some ⟨g, 0, none⟩, cap, by rw [len_i64s], by rw [len_i64s]; omega, hm, fun k x hx => ⟨g, 0, rfl, ?_⟩⟩, ?_, ?_⟩
  · have hk : k < (Lib.compact L).length := by
      rcases List.getElem?_eq_some_iff.1 hx with ⟨hk, _⟩
      rw [len_i64s] at hk
      exact hk
    rw [get_i64s hk] at hx
    injection hx with hx
    have := hown.cellAt k (by omega)
    rw [Nat.zero_add, this, ← hx]
    simp [List.getElem?_append_left, hk]
  · rintro p ⟨b, o, len, cap', hv, hb', _⟩
    injection hv with e1 _ _
    injection e1 with e1
    injection e1 with e1 _ _
    subst e1
    simp [Value.ownBlock, hb']
  · simpa [Value.ownBlock] using hgr
/-- a list that lies in other blocks stays -/
theorem ints_grown {w w' : World} {v : Value} {xs : List Int} {ob : Option Nat} (h : Ints w v xs) (hin : ∀ p, In v p → ob ≠ some p.block) (hg : w.grownBy w' ob) : Ints w' v xs := by
  obtain ⟨A, cap, hv, h1, h2, hc⟩ := h
  refine ⟨A, cap, hv, h1, h2, fun k u hu => ?_⟩
  obtain ⟨b, o, hA, hcell⟩ := hc k u hu
  refine ⟨b, o, hA, ?_⟩
  have hk : k < (i64s xs).length := (List.getElem?_eq_some_iff.1 hu).1
  have hi : In v ⟨b, o + k, none⟩ := ⟨b, o, (i64s xs).length, cap, by rw [hv, hA], rfl, rfl, by show o ≤ o + k; omega, by show o + k < _; omega⟩
  have hb := hg.block b (World.block_lt_of_cell? _ _ hcell) (fun e => hin _ hi e.symm)
  rw [← hcell]
  simp only [World.cell?, hb]
/-- behind the first slices.Compact -/
structure One (B : Nat) (wb w : World) (f u : Value) (L M : List Int) : Prop where
  below : Below B wb w
  ints : Ints w f L
  two : w.ownsRow B 3 1 u M.length (i64s M)
  off : ∀ p, In f p → u.ownBlock ≠ some p.block
/-- behind both -/
structure Both (B : Nat) (wb w : World) (f s : Value) (L M : List Int) : Prop where
  below : Below B wb w
  one : Ints w f L
  two : Ints w s M
theorem comp1 {B : Nat} {wb w : World} {v u : Value} {L M : List Int} (h : Two B wb w v u L M) (hB : B ≤ w.heap.size) (hn : 0 < L.length) (hs : L.length < 100) :
    Calls Try.prog 85 #[v] w fun e w' => ∃ f, e = .returned f ∧ One B wb w' f u (Lib.compact L) M := by
  refine (compacts B v L w h.one hn hs).mono ?_
  rintro e w' ⟨f, rfl, hi, hin, hg⟩
  refine ⟨f, rfl, h.below.grown hg hB (fun q hq => (h.one.lt q hq).1), hi, h.two.kept hg ?_, fun p hp => h.dis _ (hin p hp)⟩
  cases hb : u.ownBlock with
  | none => exact .inl rfl
  | some b => exact .inr (fun e => h.dis b e.symm hb)
theorem comp2 {B : Nat} {wb w : World} {f u : Value} {L M : List Int} (h : One B wb w f u L M) (hB : B ≤ w.heap.size) (hn : 0 < M.length) (hs : M.length < 100) :
    Calls Try.prog 85 #[u] w fun e w' => ∃ s, e = .returned s ∧ Both B wb w' f s L (Lib.compact M) := by
  refine (compacts B u M w h.two hn hs).mono ?_
  rintro e w' ⟨s, rfl, hi, hin, hg⟩
  exact ⟨s, rfl, h.below.grown hg hB (fun q hq => (h.two.lt q hq).1), ints_grown h.ints h.off hg, hi⟩

theorem keepS {w1 w' : World} {b : Nat} {t : TypeId} {a0 a1 a2 a3 : Value} (k : Blk w1 b t #[a0, a1, a2, a3]) (hb : Below w1.heap.size w1 w') : w'.cell? ⟨b, 0, none⟩ = some a0 ∧ w'.cell? ⟨b, 1, none⟩ = some a1 ∧ w'.cell? ⟨b, 2, none⟩ = some a2 ∧ w'.cell? ⟨b, 3, none⟩ = some a3 := by
  obtain ⟨c0, c1, c2, c3, _⟩ := four_cells (k.below hb)
  exact ⟨c0, c1, c2, c3⟩
theorem setS {w' : World} {b b' : Nat} {a0 a1 a2 a3 : Value} (hne : b' ≠ b) (o : Nat) (x : Value) (h : w'.cell? ⟨b, 0, none⟩ = some a0 ∧ w'.cell? ⟨b, 1, none⟩ = some a1 ∧ w'.cell? ⟨b, 2, none⟩ = some a2 ∧ w'.cell? ⟨b, 3, none⟩ = some a3) :
    (w'.setCell ⟨b', o, none⟩ x).cell? ⟨b, 0, none⟩ = some a0 ∧ (w'.setCell ⟨b', o, none⟩ x).cell? ⟨b, 1, none⟩ = some a1 ∧ (w'.setCell ⟨b', o, none⟩ x).cell? ⟨b, 2, none⟩ = some a2 ∧ (w'.setCell ⟨b', o, none⟩ x).cell? ⟨b, 3, none⟩ = some a3 := by
  have hw := (Wrote.refl (fun p : Addr => p.block = b') w').setCell (p := (⟨b', o, none⟩ : Addr)) rfl x
  refine ⟨?_, ?_, ?_, ?_⟩ <;> rw [hw.cell _ (fun e => hne e.symm)]
  · exact h.1
  · exact h.2.1
  · exact h.2.2.1
  · exact h.2.2.2
end Go.Proofs.Ytimfnhejiiagmaa.tgo
