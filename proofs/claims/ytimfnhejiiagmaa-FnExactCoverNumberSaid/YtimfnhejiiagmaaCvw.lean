/- CoverNumber of the model. -/
import Derived.Test.YtimfnhejiiagmaaCvl
namespace Go.Proofs.Ytimfnhejiiagmaa.cvw
open Go.RowKit Go.Deep Go.Proofs.Ytimfnhejiiagmaa.base
open Go.Proofs.Ytimfnhejiiagmaa.task (okTask wide taskB taskB_yes taskB_no)
open Go.Proofs.Ytimfnhejiiagmaa.grid (nn at_ inB)
open Go.Proofs.Ytimfnhejiiagmaa.cvm Go.Proofs.Ytimfnhejiiagmaa.mem Go.Proofs.Ytimfnhejiiagmaa.cvs Go.Proofs.Ytimfnhejiiagmaa.cvk Go.Proofs.Ytimfnhejiiagmaa.cvl

open Classical in
/-- all cells of row i before k that have the bit, added to m -/
noncomputable def rowW (T : List (List Int)) (bt : Int) (Y m i : Nat) : Nat → Nat
  | 0 => m
  | k + 1 => rowW T bt Y m i k + (if nn T i k = bt then 2 ^ (i * Y + k) else 0)
noncomputable def allW (T : List (List Int)) (bt : Int) (Y : Nat) : Nat → Nat
  | 0 => 0
  | i + 1 => rowW T bt Y (allW T bt Y i) i Y
theorem rowW_yes {T : List (List Int)} {bt : Int} {Y m i k : Nat} (h : nn T i k = bt) : rowW T bt Y m i (k + 1) = rowW T bt Y m i k + 2 ^ (i * Y + k) := by show _ + _ = _; rw [if_pos h]
theorem rowW_no {T : List (List Int)} {bt : Int} {Y m i k : Nat} (h : ¬ nn T i k = bt) : rowW T bt Y m i (k + 1) = rowW T bt Y m i k := by show _ + _ = _; rw [if_neg h, Nat.add_zero]
theorem rowW_lt {T : List (List Int)} {bt : Int} {Y m i : Nat} (hm : m < 2 ^ (i * Y)) : ∀ k, rowW T bt Y m i k < 2 ^ (i * Y + k)
  | 0 => hm
  | k + 1 => by
    have ih := rowW_lt (T := T) (bt := bt) hm k
    rw [show i * Y + (k + 1) = (i * Y + k) + 1 by omega, Nat.pow_succ]
    by_cases h : nn T i k = bt
    · rw [rowW_yes h]; omega
    · rw [rowW_no h]; omega
theorem allW_lt {T : List (List Int)} {bt : Int} {Y : Nat} : ∀ i, allW T bt Y i < 2 ^ (i * Y)
  | 0 => by rw [Nat.zero_mul]; show 0 < 1; decide
  | i + 1 => by rw [Nat.succ_mul]; exact rowW_lt (allW_lt i) Y
theorem rowW_bit {T : List (List Int)} {bt : Int} {Y m i p : Nat} (hm : m < 2 ^ (i * Y)) : ∀ k, (rowW T bt Y m i k).testBit p = true ↔ (m.testBit p = true ∨ ∃ j, j < k ∧ p = i * Y + j ∧ nn T i j = bt)
  | 0 => ⟨fun h => .inl h, fun h => by rcases h with h | ⟨j, hj, _⟩; exact h; exact absurd hj (Nat.not_lt_zero _)⟩
  | k + 1 => by
    have ih := rowW_bit (T := T) (bt := bt) (p := p) hm k
    have hl := rowW_lt (T := T) (bt := bt) hm k
    by_cases h : nn T i k = bt
    · rw [rowW_yes h, show rowW T bt Y m i k + 2 ^ (i * Y + k) = 2 ^ (i * Y + k) * 1 + rowW T bt Y m i k by omega, Nat.testBit_two_pow_mul_add _ hl]
      by_cases hp : p < i * Y + k
      · rw [if_pos hp, ih]
        constructor
        · rintro (q | ⟨j, h1, h2, h3⟩)
          · exact .inl q
          · exact .inr ⟨j, by omega, h2, h3⟩
        · rintro (q | ⟨j, h1, h2, h3⟩)
          · exact .inl q
          · exact .inr ⟨j, by omega, h2, h3⟩
      · rw [if_neg hp]
        by_cases e : p = i * Y + k
        · subst e
          rw [Nat.sub_self]
          exact ⟨fun _ => .inr ⟨k, by omega, rfl, h⟩, fun _ => by decide⟩
        · have h1 : (1 : Nat).testBit (p - (i * Y + k)) = false := by
            rw [Nat.testBit_lt_two_pow (show 1 < 2 ^ (p - (i * Y + k)) from Nat.lt_of_lt_of_le (by decide : 1 < 2 ^ 1) (Nat.pow_le_pow_right (by omega) (by omega)))]
          rw [h1]
          refine ⟨fun q => absurd q (by simp), ?_⟩
          rintro (q | ⟨j, h2, h3, _⟩)
          · rw [Nat.testBit_lt_two_pow (Nat.lt_of_lt_of_le hm (Nat.pow_le_pow_right (by omega) (by omega)))] at q
            exact absurd q (by simp)
          · omega
    · rw [rowW_no h, ih]
      constructor
      · rintro (q | ⟨j, h1, h2, h3⟩)
        · exact .inl q
        · exact .inr ⟨j, by omega, h2, h3⟩
      · rintro (q | ⟨j, h1, h2, h3⟩)
        · exact .inl q
        · refine .inr ⟨j, ?_, h2, h3⟩
          by_cases e : j = k
          · subst e; exact absurd h3 h
          · omega
theorem allW_bit {T : List (List Int)} {bt : Int} {Y p : Nat} : ∀ n, (allW T bt Y n).testBit p = true ↔ ∃ i j, i < n ∧ j < Y ∧ p = i * Y + j ∧ nn T i j = bt
  | 0 => ⟨fun h => by simp [allW] at h, fun ⟨i, j, hi, _⟩ => absurd hi (Nat.not_lt_zero _)⟩
  | n + 1 => by
    show (rowW T bt Y (allW T bt Y n) n Y).testBit p = true ↔ _
    rw [rowW_bit (allW_lt n), allW_bit n]
    constructor
    · rintro (⟨i, j, h1, h2, h3, h4⟩ | ⟨j, h2, h3, h4⟩)
      · exact ⟨i, j, by omega, h2, h3, h4⟩
      · exact ⟨n, j, by omega, h2, h3, h4⟩
    · rintro ⟨i, j, h1, h2, h3, h4⟩
      by_cases e : i = n
      · subst e; exact .inr ⟨j, h2, h3, h4⟩
      · exact .inl ⟨i, j, by omega, h2, h3, h4⟩
end Go.Proofs.Ytimfnhejiiagmaa.cvw
