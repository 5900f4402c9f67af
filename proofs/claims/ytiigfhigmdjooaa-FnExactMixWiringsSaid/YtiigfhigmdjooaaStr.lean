/- A struct of three cells that is stored whole; lists and rows that are built in one block. It speaks of no program. -/
import Derived.Test.YtiigfhigmdjooaaThree
namespace Go.Proofs.Ytiigfhigmdjooaa.st3
open Go.RowKit Go.Deep Go.Proofs.Ytiigfhigmdjooaa.base

def set3 (W : World) (g : Nat) (a b c : Value) : World := ((W.setCell ⟨g, 0, none⟩ a).setCell ⟨g, 1, none⟩ b).setCell ⟨g, 2, none⟩ c
theorem set3_wrote (W : World) (g : Nat) (a b c : Value) : Wrote (fun p => p.block = g) W (set3 W g a b c) := by
  unfold set3
  exact Wrote.setCell (S := fun p => p.block = g) (Wrote.setCell (S := fun p => p.block = g) (Wrote.setCell (S := fun p => p.block = g) (Wrote.refl _ _) rfl _) rfl _) rfl _
theorem set3_same {W : World} {g : Nat} {t : TypeId} {x0 x1 x2 : Value} (a b c : Value) (h : Blk W g t #[x0, x1, x2]) : Blk (set3 W g a b c) g t #[a, b, c] := by
  have h1 := Joins.block_setCell (i := 0) h a
  have h2 := Joins.block_setCell (i := 1) h1 b
  have h3 := Joins.block_setCell (i := 2) h2 c
  unfold Blk set3
  simpa using h3
theorem set3_below {W : World} {g B : Nat} (a b c : Value) (hB : B ≤ g) {w : World} (h : Below B w W) : Below B w (set3 W g a b c) := by
  unfold set3
  repeat (first | exact h | refine Below.setCell ?_ hB _)

/-- a list in a block of its own -/
theorem ints_blk {w : World} {g n : Nat} {t : TypeId} {xs : List Int} (hn : xs.length = n) (h : Blk w g t (i64s xs).toArray) (hm : n ≤ maxLen) : OwnInts w g (g + 1) (.slice (some ⟨g, 0, none⟩) n n) xs := by
  subst hn
  refine ⟨⟨_, _, by rw [len_i64s], by rw [len_i64s]; exact Nat.le_refl _, hm, fun k u hu => ⟨_, _, rfl, ?_⟩⟩, ?_, ?_, ?_⟩
  · rw [Joins.cell_of_block h, Nat.zero_add]
    simpa using hu
  · rintro p ⟨b, o, len, cap, he, hb, _⟩; injection he with e1; injection e1 with e2; injection e2 with e3; omega
  · rintro p ⟨b, o, len, cap, he, hb, _⟩; injection he with e1; injection e1 with e2; injection e2 with e3; omega
  · rintro ⟨pb, po, ps⟩ ⟨b, o, len, cap, he, hb, hs, _⟩
    injection he with e1; injection e1 with e2; injection e2 with e3
    simp only at hb hs
    subst hb; subst hs; subst e3
    exact Joins.unfrozen_of_block h po
/-- two rows whose slices lie in a block -/
theorem rows_blk2 {w : World} {g : Nat} {t : TypeId} {u0 u1 : Value} {r0 r1 : List Int} (h : Blk w g t #[u0, u1]) (h0 : Ints w u0 r0) (h1 : Ints w u1 r1) : IRows w (.slice (some ⟨g, 0, none⟩) 2 2) [r0, r1] := by
  refine ⟨[u0, u1], ⟨_, _, rfl, Nat.le_refl _, by unfold maxLen; decide, fun k u hu => ⟨_, _, rfl, ?_⟩⟩, rfl, fun r hr => ?_⟩
  · rw [Joins.cell_of_block h, Nat.zero_add]
    simpa using hu
  · match r, hr with
    | 0, _ => exact ⟨u0, rfl, h0⟩
    | 1, _ => exact ⟨u1, rfl, h1⟩
/-- a part of a list -/
theorem ints_part {w : World} {b o n cap : Nat} {xs : List Int} (hl : xs.length = n) (hc : n ≤ cap) (hm : cap ≤ maxLen) (h : ∀ k, k < n → w.cell? ⟨b, o + k, none⟩ = some (.int .i64 (xs.getD k 0))) : Ints w (.slice (some ⟨b, o, none⟩) n cap) xs := by
  subst hl
  refine ⟨_, _, by rw [len_i64s], by rw [len_i64s]; exact hc, hm, fun k u hu => ⟨_, _, rfl, ?_⟩⟩
  have hk : k < xs.length := by
    rcases Nat.lt_or_ge k xs.length with h' | h'
    · exact h'
    · rw [List.getElem?_eq_none (by rw [len_i64s]; exact h')] at hu; cases hu
  rw [get_i64s hk] at hu
  rw [h k hk, ← hu]
  simp [List.getD, hk]

/-- rows that no store below B touches -/
def Lo (w : World) (B : Nat) (r : Value) (xss : List (List Int)) : Prop := ∀ w', Wrote (fun p => p.block < B) w w' → IRows w' r xss
theorem Lo.rows {w : World} {B : Nat} {r : Value} {xss : List (List Int)} (h : Lo w B r xss) : IRows w r xss := h w (Wrote.refl _ _)
theorem Lo.low {w w' : World} {B : Nat} {r : Value} {xss : List (List Int)} (h : Lo w B r xss) (hw : Wrote (fun p => p.block < B) w w') : Lo w' B r xss := fun w2 h2 => h w2 (hw.trans h2)
theorem Lo.mono {w : World} {B B' : Nat} {r : Value} {xss : List (List Int)} (h : Lo w B r xss) (hB : B' ≤ B) : Lo w B' r xss := fun w' hw => h w' (hw.mono (fun _ hp => Nat.lt_of_lt_of_le hp hB))
theorem Lo.nil (w : World) (B : Nat) : Lo w B (.slice none 0 0) [] := fun _ _ => (OwnRows.nil _ 0 0).rows

end Go.Proofs.Ytiigfhigmdjooaa.st3
