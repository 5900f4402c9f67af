/- Slices that the call appends to: of integers and of rows; what they read as. -/
import Derived.Test.YtiigfhigmdjooaaRws
import Derived.OwnWalk
namespace Go.Proofs.Ytiigfhigmdjooaa.app
open Go.RowKit Go.Deep Go.Proofs.Ytiigfhigmdjooaa.base
open Go.Proofs.Ytiigfhigmdjooaa.ints (infoInt infoInts)

theorem mk0 (c : Nat) (hc : c ≤ 1048576) (w : World) : (Instr.makeSlice 39 (.int .i64 0) (.int .i64 (c : Int))).run Try.prog w = .ok (.slice (some ⟨w.heap.size, 0, none⟩) 0 c) (w.alloc (.cells (madeCells #[.int .i64 0] c) 3)) := by
  obtain ⟨i0, hi, hz0, hz1, hz2⟩ := info_parts infoInt
  have := run_make (P := Try.prog) w 39 3 i0 (.int .i64 0) Try.underlying39 hi hz0 .i64 .i64 0 c (Int.le_refl _) (by omega) (by rw [hz2]; omega) (by omega)
  simp only [Int.toNat_zero, Int.toNat_natCast, hz1, Nat.mul_one] at this
  exact this
theorem mk0s (c : Nat) (hc : c ≤ 1048576) (w : World) : (Instr.makeSlice 22 (.int .i64 0) (.int .i64 (c : Int))).run Try.prog w = .ok (.slice (some ⟨w.heap.size, 0, none⟩) 0 c) (w.alloc (.cells (madeCells #[.slice none 0 0] c) 39)) := by
  obtain ⟨i0, hi, hz0, hz1, hz2⟩ := info_parts infoInts
  have := run_make (P := Try.prog) w 22 39 i0 (.slice none 0 0) Try.underlying22 hi hz0 .i64 .i64 0 c (Int.le_refl _) (by omega) (by rw [hz2]; omega) (by omega)
  simp only [Int.toNat_zero, Int.toNat_natCast, hz1, Nat.mul_one] at this
  exact this

theorem empty (w : World) (A : Option Addr) (c : Nat) (hc : c ≤ maxLen) : Ints w (.slice A 0 c) [] := ⟨A, c, rfl, Nat.zero_le _, hc, fun k u h => by simp [i64s] at h⟩
theorem empties (w : World) (A : Option Addr) (c : Nat) (hc : c ≤ maxLen) : IRows w (.slice A 0 c) [] := ⟨[], ⟨A, c, rfl, Nat.zero_le _, hc, fun k u h => by simp at h⟩, rfl, fun r h => by simp at h⟩

theorem sl_of_owns {w : World} {B e n : Nat} {v : Value} {vals : List Value} (h : w.ownsRow B e 1 v n vals) : Sl w v vals := by
  obtain ⟨h1, h2⟩ := h
  rw [Nat.mul_one] at h1
  rcases h2 with ⟨rfl, rfl⟩ | ⟨g, cap, cur, rfl, hg, hh, hn, hm, hs, ht⟩
  · have : vals = [] := List.eq_nil_of_length_eq_zero h1
    subst this; exact Sl.nil w
  · refine ⟨some ⟨g, 0, none⟩, cap, by rw [h1], by omega, hm, fun k u hu => ⟨g, 0, rfl, ?_⟩⟩
    rw [Nat.zero_add, Joins.cell_of_block hh]
    rw [← ht, List.getElem?_take] at hu
    split at hu
    · simpa using hu
    · cases hu
theorem ints_of_owns {w : World} {B n : Nat} {v : Value} {xs : List Int} (h : w.ownsRow B 3 1 v n (i64s xs)) : OwnInts w B w.heap.size v xs := by
  have hi : Ints w v xs := sl_of_owns h
  refine ⟨hi, ?_, fun p hp => In.lt hi hp, ?_⟩
  · rintro p ⟨b, o, len, cap, rfl, hb, _⟩
    have := h.lt b (by simp [Value.ownBlock])
    omega
  · rintro ⟨pb, po, ps⟩ ⟨b, o, len, cap, rfl, hb, hs, _⟩
    simp at hb hs
    subst hb; subst hs
    rcases h.2 with ⟨h0, _⟩ | ⟨g, cap, cur, hv, hg, hh, _⟩
    · cases h0
    · injection hv with e1 _ _
      injection e1 with e1
      injection e1 with e1 _ _
      subst e1
      exact Joins.unfrozen_of_block hh po
theorem one_at (w : World) (v : Value) (t : TypeId) : ∀ (j : Nat) (u : Value), [v][j]? = some u → (w.alloc (.cells #[v] t)).cell? ((⟨w.heap.size, 0, none⟩ : Addr).add j) = some u := by
  intro j u hj
  match j, hj with
  | 0, hj =>
    simp at hj; subst hj
    simp [Addr.add]
theorem i64s_snoc (xs : List Int) (n : Int) : i64s xs ++ [.int .i64 n] = i64s (xs ++ [n]) := by simp [i64s]
theorem owns_below {w w' : World} {B e z n : Nat} {v : Value} {xs : List Value} (h : w.ownsRow B e z v n xs) (hb : Below w.heap.size w w') : w'.ownsRow B e z v n xs :=
  h.kept (row := none) ⟨hb.os, hb.tape, hb.output, hb.size, fun k hk _ => hb.block k hk⟩ (by cases hq : v.ownBlock <;> simp)
end Go.Proofs.Ytiigfhigmdjooaa.app
