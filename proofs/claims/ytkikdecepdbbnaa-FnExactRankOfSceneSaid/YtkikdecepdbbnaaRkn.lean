/- Elimination, event by event: that it ends with as many rows as the basis has. It speaks of no program. -/
import Derived.Test.YtkikdecepdbbnaaRki
namespace Go.Proofs.Ytkikdecepdbbnaa.rkn
open Go.RowKit Go.Deep Go.Proofs.Ytkikdecepdbbnaa.base
open Go.Proofs.Ytkikdecepdbbnaa.scm
open Go.Proofs.Ytkikdecepdbbnaa.rkm

/-- n rows as a list -/
def lst (F : Nat → Nat) (n : Nat) : List Nat := (List.range n).map F
theorem mem_lst {F : Nat → Nat} {n a : Nat} : a ∈ lst F n ↔ ∃ j, j < n ∧ F j = a := by simp [lst]
def swp (F : Nat → Nat) (k r j : Nat) : Nat := if j = r then F k else if j = k then F r else F j
/-- the rows behind r below t with the digit e have row r added -/
def clr (F : Nat → Nat) (r e t j : Nat) : Nat := if r < j ∧ j < t ∧ (F j).testBit e = true then F j ^^^ F r else F j
/-- as the rows stand ahead of event e, r of them done -/
structure St (R : List Nat) (F : Nat → Nat) (n r e : Nat) : Prop where
  le : r ≤ n
  lt : ∀ j, j < n → F j < 4096
  into : ∀ j, j < n → F j ∈ sp R
  back : ∀ a ∈ R, a ∈ sp (lst F n)
  piv : ∀ i, i < r → ∃ p, (F i).testBit p = true ∧ ∀ j, i < j → j < n → (F j).testBit p = false
  low : ∀ j, r ≤ j → j < n → ∀ q, q < e → (F j).testBit q = false
theorem St.start {R : List Nat} {F : Nat → Nat} {n : Nat} (hF : lst F n = R) (hl : ∀ j, j < n → F j < 4096) : St R F n 0 0 :=
  ⟨Nat.zero_le _, hl, fun j hj => by rw [← hF]; exact mem_sp _ (mem_lst.2 ⟨j, hj, rfl⟩), fun a ha => by rw [hF]; exact mem_sp _ ha, fun i hi => by omega, fun j _ _ q hq => by omega⟩
/-- no row has the digit -/
theorem St.skip {R : List Nat} {F : Nat → Nat} {n r e : Nat} (h : St R F n r e) (hn : ∀ j, r ≤ j → j < n → (F j).testBit e = false) : St R F n r (e + 1) :=
  ⟨h.le, h.lt, h.into, h.back, h.piv, fun j h1 h2 q hq => by
    by_cases e1 : q = e
    · subst e1; exact hn j h1 h2
    · exact h.low j h1 h2 q (by omega)⟩
theorem swp_mem {F : Nat → Nat} {n k r : Nat} (hk : k < n) (hr : r < n) {j : Nat} (hj : j < n) : ∃ i, i < n ∧ swp F k r j = F i := by
  unfold swp
  split
  · exact ⟨k, hk, rfl⟩
  · split
    · exact ⟨r, hr, rfl⟩
    · exact ⟨j, hj, rfl⟩
theorem swp_back {F : Nat → Nat} {n k r : Nat} (hk : k < n) (hr : r < n) {j : Nat} (hj : j < n) : ∃ i, i < n ∧ swp F k r i = F j := by
  by_cases h1 : j = k
  · exact ⟨r, hr, by unfold swp; rw [if_pos rfl, h1]⟩
  · by_cases h2 : j = r
    · refine ⟨k, hk, ?_⟩
      unfold swp
      rw [if_neg (fun e => h1 (by omega)), if_pos rfl, h2]
    · exact ⟨j, hj, by unfold swp; rw [if_neg h2, if_neg h1]⟩
theorem clr_bit {F : Nat → Nat} {r e t j p : Nat} (h1 : (F j).testBit p = false) (h2 : (F r).testBit p = false) : (clr F r e t j).testBit p = false := by
  unfold clr
  split
  · rw [Nat.testBit_xor, h1, h2]; rfl
  · exact h1
theorem clr_at {F : Nat → Nat} {r e t j : Nat} (h : j ≤ r) : clr F r e t j = F j := by unfold clr; rw [if_neg (fun hh => by omega)]
/-- row k, the first one with the digit, is put to its place, and added to the others -/
theorem St.step {R : List Nat} {F : Nat → Nat} {n r e k : Nat} (h : St R F n r e) (hk1 : r ≤ k) (hk2 : k < n) (hb : (F k).testBit e = true) : St R (clr (swp F k r) r e n) n (r + 1) (e + 1) := by
  have hrn : r < n := by omega
  have hrow : swp F k r r = F k := by unfold swp; rw [if_pos rfl]
  have hlow : ∀ j, r ≤ j → j < n → ∀ q, q < e → (swp F k r j).testBit q = false := fun j h1 h2 q hq => by
    unfold swp
    split
    · exact h.low k hk1 hk2 q hq
    · split
      · exact h.low r (Nat.le_refl _) hrn q hq
      · exact h.low j h1 h2 q hq
  have hlt : ∀ j, j < n → swp F k r j < 4096 := fun j hj => by obtain ⟨i, hi, e1⟩ := swp_mem (F := F) hk2 hrn hj; rw [e1]; exact h.lt i hi
  have hinto : ∀ j, j < n → swp F k r j ∈ sp R := fun j hj => by obtain ⟨i, hi, e1⟩ := swp_mem (F := F) hk2 hrn hj; rw [e1]; exact h.into i hi
  have hmem : ∀ j, j < n → clr (swp F k r) r e n j ∈ sp (lst (clr (swp F k r) r e n) n) := fun j hj => mem_sp _ (mem_lst.2 ⟨j, hj, rfl⟩)
  have hr0 : clr (swp F k r) r e n r = swp F k r r := clr_at (Nat.le_refl _)
  have hsb : ∀ j, j < n → swp F k r j ∈ sp (lst (clr (swp F k r) r e n) n) := fun j hj => by
    by_cases hc : r < j ∧ j < n ∧ (swp F k r j).testBit e = true
    · have e1 : clr (swp F k r) r e n j = swp F k r j ^^^ swp F k r r := if_pos hc
      have h1 := hmem j hj
      have h2 := hmem r hrn
      rw [e1] at h1
      rw [hr0] at h2
      have := xor_sp _ h1 h2
      rwa [Nat.xor_assoc, Nat.xor_self, Nat.xor_zero] at this
    · have e1 : clr (swp F k r) r e n j = swp F k r j := if_neg hc
      have h1 := hmem j hj
      rwa [e1] at h1
  refine ⟨by omega, fun j hj => ?_, fun j hj => ?_, fun a ha => ?_, fun i hi => ?_, fun j h1 h2 q hq => ?_⟩
  · unfold clr
    split
    · exact Nat.xor_lt_two_pow (n := 12) (hlt j hj) (hlt r hrn)
    · exact hlt j hj
  · unfold clr
    split
    · exact xor_sp R (hinto j hj) (hinto r hrn)
    · exact hinto j hj
  · have := h.back a ha
    refine sub_sp _ _ (fun b hb' => ?_) a this
    obtain ⟨j, hj, rfl⟩ := mem_lst.1 hb'
    obtain ⟨i, hi, e1⟩ := swp_back (F := F) hk2 hrn hj
    rw [← e1]
    exact hsb i hi
  · by_cases hi2 : i < r
    · obtain ⟨p, hp, hz⟩ := h.piv i hi2
      refine ⟨p, ?_, fun j h1 h2 => ?_⟩
      · rw [clr_at (by omega)]
        unfold swp
        rw [if_neg (by omega), if_neg (by omega)]
        exact hp
      · have hs : ∀ j, i < j → j < n → (swp F k r j).testBit p = false := fun j h1 h2 => by
          unfold swp
          split
          · exact hz k (by omega) hk2
          · split
            · exact hz r (by omega) hrn
            · exact hz j h1 h2
        exact clr_bit (hs j h1 h2) (hs r (by omega) hrn)
    · have hi3 : i = r := by omega
      subst hi3
      refine ⟨e, by rw [hr0, hrow]; exact hb, fun j h1 h2 => ?_⟩
      unfold clr
      by_cases hc : i < j ∧ j < n ∧ (swp F k i j).testBit e = true
      · rw [if_pos hc, Nat.testBit_xor, hc.2.2, hrow, hb]; rfl
      · rw [if_neg hc]
        cases hq : (swp F k i j).testBit e with
        | false => rfl
        | true => exact absurd ⟨h1, h2, hq⟩ hc
  · by_cases e1 : q = e
    · subst e1
      unfold clr
      by_cases hc : r < j ∧ j < n ∧ (swp F k r j).testBit q = true
      · rw [if_pos hc, Nat.testBit_xor, hc.2.2, hrow, hb]; rfl
      · rw [if_neg hc]
        cases hq : (swp F k r j).testBit q with
        | false => rfl
        | true => exact absurd ⟨by omega, h2, hq⟩ hc
    · exact clr_bit (hlow j (by omega) h2 q (by omega)) (hlow r (Nat.le_refl _) hrn q (by omega))
theorem tri_lst {F : Nat → Nat} {n : Nat} : ∀ (m b : Nat), b + m ≤ n → (∀ i, b ≤ i → i < b + m → ∃ p, (F i).testBit p = true ∧ ∀ j, i < j → j < n → (F j).testBit p = false) → Tri ((List.range m).map (fun i => F (b + i)))
  | 0, _, _, _ => trivial
  | m + 1, b, hm, h => by
    rw [List.range_succ_eq_map, List.map_cons, List.map_map]
    have ih := tri_lst m (b + 1) (by omega) (fun i h1 h2 => h i (by omega) (by omega))
    have e : (List.range m).map ((fun i => F (b + i)) ∘ Nat.succ) = (List.range m).map (fun i => F (b + 1 + i)) := List.map_congr_left (fun i _ => by show F (b + (i + 1)) = _; congr 1; omega)
    rw [e]
    obtain ⟨p, hp, hz⟩ := h b (Nat.le_refl _) (by omega)
    exact ⟨⟨p, hp, fun c hc => by obtain ⟨i, hi, rfl⟩ := List.mem_map.1 hc; simp at hi; exact hz _ (by omega) (by omega)⟩, ih⟩
/-- at the end -/
theorem St.rank {R B : List Nat} {F : Nat → Nat} {n r x : Nat} (h : St R F n r x) (hx : ∀ a ∈ R, ∀ q, x ≤ q → a.testBit q = false) (hB : Tri B) (h1 : ∀ a ∈ B, a ∈ sp R) (h2 : ∀ a ∈ R, a ∈ sp B) : r = B.length := by
  have hT : Tri ((List.range r).map (fun i => F (0 + i))) := tri_lst r 0 (by have := h.le; omega) (fun i _ hi => h.piv i (by omega))
  have hz : ∀ j, r ≤ j → j < n → F j = 0 := fun j hj1 hj2 => Nat.eq_of_testBit_eq (fun q => by
    rw [Nat.zero_testBit]
    by_cases g : q < x
    · exact h.low j hj1 hj2 q g
    · exact bit_sp R (fun a ha => hx a ha q (by omega)) _ (h.into j hj2))
  have hi : ∀ a ∈ lst F n, a ∈ sp ((List.range r).map (fun i => F (0 + i))) := fun a ha => by
    obtain ⟨j, hj, rfl⟩ := mem_lst.1 ha
    by_cases g : j < r
    · exact mem_sp _ (List.mem_map.2 ⟨j, by simpa using g, by rw [Nat.zero_add]⟩)
    · rw [hz j (by omega) hj]; exact zero_sp _
  have hl := same_rank hT hB (fun a ha => by
    obtain ⟨i, hi, rfl⟩ := List.mem_map.1 ha
    simp at hi
    rw [Nat.zero_add]
    exact h.into i (by have := h.le; omega)) (fun a ha => sub_sp _ _ hi a (h.back a ha)) h1 h2
  simpa using hl

end Go.Proofs.Ytkikdecepdbbnaa.rkn
