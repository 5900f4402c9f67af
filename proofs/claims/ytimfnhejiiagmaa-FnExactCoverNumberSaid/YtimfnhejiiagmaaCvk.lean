/- The masks of the model: for each code of rows the mask of all columns that are the bit in all of them. -/
import Derived.Test.YtimfnhejiiagmaaCvs
import Derived.Test.YtimfnhejiiagmaaPln
import Derived.Test.YtimfnhejiiagmaaMem
namespace Go.Proofs.Ytimfnhejiiagmaa.cvk
open Go.RowKit Go.Deep Go.Proofs.Ytimfnhejiiagmaa.base
open Go.Proofs.Ytimfnhejiiagmaa.task (okTask wide)
open Go.Proofs.Ytimfnhejiiagmaa.grid (nn at_ inB plain first)
open Go.Proofs.Ytimfnhejiiagmaa.cvm Go.Proofs.Ytimfnhejiiagmaa.mem

theorem mem_iff {c X : Nat} {x : Int} : x ∈ mem c X ↔ ∃ i : Nat, i < X ∧ c / 2 ^ i % 2 = 1 ∧ x = (i : Int) := by
  unfold mem
  rw [List.mem_map]
  constructor
  · rintro ⟨i, hi, rfl⟩
    rw [List.mem_filter, List.mem_range] at hi
    exact ⟨i, hi.1, by simpa using hi.2, rfl⟩
  · rintro ⟨i, h1, h2, rfl⟩
    exact ⟨i, List.mem_filter.2 ⟨List.mem_range.2 h1, by simpa using h2⟩, rfl⟩
theorem tb (c i : Nat) : c.testBit i = true ↔ c / 2 ^ i % 2 = 1 := by rw [Nat.testBit_eq_decide_div_mod_eq]; simp
theorem mem_in {c X : Nat} (h1 : 1 ≤ c) (h2 : c < 2 ^ X) : inB X (mem c X) := by
  refine ⟨?_, fun a ha => ?_⟩
  · apply Classical.byContradiction
    intro h0
    have hn : mem c X = [] := List.eq_nil_of_length_eq_zero (by omega)
    have : c = 0 := by
      apply Nat.eq_of_testBit_eq
      intro i
      rw [Nat.zero_testBit]
      cases hb : c.testBit i with
      | false => rfl
      | true =>
        exfalso
        by_cases hi : i < X
        · have h5 : ((i : Nat) : Int) ∈ mem c X := mem_iff.2 ⟨i, hi, (tb c i).1 hb, rfl⟩
          rw [hn] at h5; simp at h5
        · rw [Nat.testBit_lt_two_pow (Nat.lt_of_lt_of_le h2 (Nat.pow_le_pow_right (by omega) (by omega)))] at hb
          exact absurd hb (by simp)
    omega
  · obtain ⟨i, hi, _, e⟩ := mem_iff.1 (List.getElem_mem ha)
    rw [e]; omega
theorem at_mem {xs : List Int} {i : Nat} (h : ((i : Nat) : Int) ∈ xs) : ∃ a, a < xs.length ∧ at_ xs a = i := by
  obtain ⟨a, ha, e⟩ := List.mem_iff_getElem.1 h
  exact ⟨a, ha, by unfold at_; rw [List.getD_eq_getElem?_getD, List.getElem?_eq_getElem ha, e]; simp⟩
def good (T : List (List Int)) (bt : Int) (c X j : Nat) : Prop := ∀ i, i < X → c / 2 ^ i % 2 = 1 → nn T i j = bt
theorem num_good {T : List (List Int)} {bt : Int} {c X j : Nat} (hb : bt = 0 ∨ bt = 1) (h1 : 1 ≤ c) (h2 : c < 2 ^ X) : pln.num T (mem c X) [((j : Nat) : Int)] = bt ↔ good T bt c X j := by
  have hin := mem_in h1 h2
  have ej : at_ [((j : Nat) : Int)] 0 = j := by simp [at_]
  constructor
  · intro h
    by_cases hp : plain T (mem c X) [((j : Nat) : Int)]
    · rw [pln.num_yes hp] at h
      intro i hi hbit
      obtain ⟨a, ha, e⟩ := at_mem (mem_iff.2 ⟨i, hi, hbit, rfl⟩)
      have h5 := hp a 0 ha (by simp)
      rw [e, ej] at h5
      rw [h5]; exact h
    · rw [pln.num_no hp] at h; omega
  · intro h
    have all : ∀ a, a < (mem c X).length → nn T (at_ (mem c X) a) j = bt := fun a ha => by
      obtain ⟨i, hi, hbit, e⟩ := mem_iff.1 (List.getElem_mem ha)
      have e2 : at_ (mem c X) a = i := by unfold at_; rw [List.getD_eq_getElem?_getD, List.getElem?_eq_getElem ha, e]; simp
      rw [e2]; exact h i hi hbit
    have hf : first T (mem c X) [((j : Nat) : Int)] = bt := by unfold first; rw [ej]; exact all 0 hin.1
    have hp : plain T (mem c X) [((j : Nat) : Int)] := fun a b ha hb => by
      have : b = 0 := by simp at hb; omega
      subst this
      rw [ej, hf]; exact all a ha
    rw [pln.num_yes hp, hf]
open Classical in
noncomputable def colM (T : List (List Int)) (bt : Int) (c X : Nat) : Nat → Nat
  | 0 => 0
  | j + 1 => colM T bt c X j + (if good T bt c X j then 2 ^ j else 0)
theorem colM_yes {T : List (List Int)} {bt : Int} {c X j : Nat} (h : good T bt c X j) : colM T bt c X (j + 1) = colM T bt c X j + 2 ^ j := by show _ + _ = _; rw [if_pos h]
theorem colM_no {T : List (List Int)} {bt : Int} {c X j : Nat} (h : ¬ good T bt c X j) : colM T bt c X (j + 1) = colM T bt c X j := by show _ + _ = _; rw [if_neg h, Nat.add_zero]
theorem colM_lt {T : List (List Int)} {bt : Int} {c X : Nat} : ∀ k, colM T bt c X k < 2 ^ k
  | 0 => by show 0 < 1; decide
  | k + 1 => by
    have := colM_lt (T := T) (bt := bt) (c := c) (X := X) k
    rw [Nat.pow_succ]
    by_cases h : good T bt c X k
    · rw [colM_yes h]; omega
    · rw [colM_no h]; omega
theorem colM_bit {T : List (List Int)} {bt : Int} {c X j : Nat} : ∀ k, (colM T bt c X k).testBit j = true ↔ j < k ∧ good T bt c X j
  | 0 => by simp [colM]
  | k + 1 => by
    have ih := colM_bit (T := T) (bt := bt) (c := c) (X := X) (j := j) k
    have hl := colM_lt (T := T) (bt := bt) (c := c) (X := X) k
    by_cases h : good T bt c X k
    · rw [colM_yes h, show colM T bt c X k + 2 ^ k = 2 ^ k * 1 + colM T bt c X k by omega, Nat.testBit_two_pow_mul_add _ hl]
      by_cases hj : j < k
      · rw [if_pos hj, ih]; exact ⟨fun q => ⟨by omega, q.2⟩, fun q => ⟨hj, q.2⟩⟩
      · rw [if_neg hj]
        by_cases e : j = k
        · subst e; simp [h]
        · have : (1 : Nat).testBit (j - k) = false := by
            rw [Nat.testBit_lt_two_pow (show 1 < 2 ^ (j - k) from Nat.lt_of_lt_of_le (by decide : 1 < 2 ^ 1) (Nat.pow_le_pow_right (by omega) (by omega)))]
          rw [this]
          exact ⟨fun q => absurd q (by simp), fun q => by omega⟩
    · rw [colM_no h, ih]
      exact ⟨fun q => ⟨by omega, q.2⟩, fun q => ⟨by
        by_cases e : j = k
        · subst e; exact absurd q.2 h
        · omega, q.2⟩⟩
def rowP (c cols Y : Nat) : Nat → Nat
  | 0 => 0
  | i + 1 => rowP c cols Y i + (c / 2 ^ i % 2) * cols * 2 ^ (i * Y)
theorem rowP_lt {c cols Y : Nat} (h : cols < 2 ^ Y) : ∀ i, rowP c cols Y i < 2 ^ (i * Y)
  | 0 => by rw [Nat.zero_mul]; show 0 < 1; decide
  | i + 1 => by
    have ih := rowP_lt (c := c) h i
    show rowP c cols Y i + (c / 2 ^ i % 2) * cols * 2 ^ (i * Y) < 2 ^ ((i + 1) * Y)
    rw [Nat.succ_mul, Nat.pow_add, Nat.mul_comm (2 ^ (i * Y)) (2 ^ Y)]
    have h2 : (c / 2 ^ i % 2) * cols + 1 ≤ 2 ^ Y := by
      obtain e | e : c / 2 ^ i % 2 = 0 ∨ c / 2 ^ i % 2 = 1 := by omega
      · rw [e]; omega
      · rw [e]; omega
    have h3 := Nat.mul_le_mul_right (2 ^ (i * Y)) h2
    rw [Nat.succ_mul] at h3
    omega
theorem rowP_bit {c cols Y p : Nat} (h : cols < 2 ^ Y) : ∀ i, (rowP c cols Y i).testBit p = true ↔ ∃ i' j, i' < i ∧ j < Y ∧ p = i' * Y + j ∧ c / 2 ^ i' % 2 = 1 ∧ cols.testBit j = true
  | 0 => ⟨fun q => by simp [rowP] at q, fun ⟨a, _, ha, _⟩ => absurd ha (Nat.not_lt_zero _)⟩
  | i + 1 => by
    have ih := rowP_bit (c := c) (p := p) h i
    have hl := rowP_lt (c := c) h i
    show (rowP c cols Y i + (c / 2 ^ i % 2) * cols * 2 ^ (i * Y)).testBit p = true ↔ _
    rw [show rowP c cols Y i + (c / 2 ^ i % 2) * cols * 2 ^ (i * Y) = 2 ^ (i * Y) * ((c / 2 ^ i % 2) * cols) + rowP c cols Y i by rw [Nat.mul_comm (2 ^ (i * Y))]; omega, Nat.testBit_two_pow_mul_add _ hl]
    by_cases hp : p < i * Y
    · rw [if_pos hp, ih]
      constructor
      · rintro ⟨a, j, h1, h2, h3, h4, h5⟩
        exact ⟨a, j, by omega, h2, h3, h4, h5⟩
      · rintro ⟨a, j, h1, h2, h3, h4, h5⟩
        refine ⟨a, j, ?_, h2, h3, h4, h5⟩
        by_cases e : a = i
        · subst e; omega
        · omega
    · rw [if_neg hp]
      have lowr : ∀ a j, a < i → j < Y → p ≠ a * Y + j := fun a j h1 h2 e => by
        have : (a + 1) * Y ≤ i * Y := Nat.mul_le_mul_right Y h1
        rw [Nat.succ_mul] at this
        omega
      obtain e | e : c / 2 ^ i % 2 = 0 ∨ c / 2 ^ i % 2 = 1 := by omega
      · rw [e, Nat.zero_mul]
        refine ⟨fun q => by simp at q, ?_⟩
        rintro ⟨a, j, h1, h2, h3, h4, h5⟩
        by_cases ea : a = i
        · subst ea; omega
        · exact absurd h3 (lowr a j (by omega) h2)
      · rw [e, Nat.one_mul]
        constructor
        · intro q
          refine ⟨i, p - i * Y, by omega, ?_, by omega, e, q⟩
          apply Classical.byContradiction
          intro hY
          rw [Nat.testBit_lt_two_pow (Nat.lt_of_lt_of_le h (Nat.pow_le_pow_right (by omega) (by omega)))] at q
          exact absurd q (by simp)
        · rintro ⟨a, j, h1, h2, h3, h4, h5⟩
          by_cases ea : a = i
          · subst ea; rw [h3, Nat.add_sub_cancel_left]; exact h5
          · exact absurd h3 (lowr a j (by omega) h2)
/-- the masks of the codes 1 to c -/
noncomputable def recC (T : List (List Int)) (bt : Int) (X Y : Nat) : Nat → List Nat
  | 0 => []
  | c + 1 => recC T bt X Y c ++ (if 0 < colM T bt (c + 1) X Y then [rowP (c + 1) (colM T bt (c + 1) X Y) Y X] else [])
theorem recC_yes {T : List (List Int)} {bt : Int} {X Y c : Nat} (h : 0 < colM T bt (c + 1) X Y) : recC T bt X Y (c + 1) = recC T bt X Y c ++ [rowP (c + 1) (colM T bt (c + 1) X Y) Y X] := by show _ ++ _ = _; rw [if_pos h]
theorem recC_no {T : List (List Int)} {bt : Int} {X Y c : Nat} (h : ¬ 0 < colM T bt (c + 1) X Y) : recC T bt X Y (c + 1) = recC T bt X Y c := by show _ ++ _ = _; rw [if_neg h, List.append_nil]
theorem recC_len {T : List (List Int)} {bt : Int} {X Y : Nat} : ∀ c, (recC T bt X Y c).length ≤ c
  | 0 => Nat.le_refl _
  | c + 1 => by
    have := recC_len (T := T) (bt := bt) (X := X) (Y := Y) c
    by_cases h : 0 < colM T bt (c + 1) X Y
    · rw [recC_yes h, List.length_append]; simp; omega
    · rw [recC_no h]; omega
end Go.Proofs.Ytimfnhejiiagmaa.cvk
