import Derived.Lib.AtoiTie
import Derived.Lib.ItoaMem
import Derived.Lib.ItoaLen
import Derived.WalkKit
namespace Go.Proofs.YtlbigpkajfdkjaaDoor.parse
open Go.Lib

theorem decFrom_app (a b : List UInt8) : ∀ acc, decFrom acc (a ++ b) = (decFrom acc a).bind fun n => decFrom n b := by
  induction a with
  | nil => intro acc; rfl
  | cons c r ih =>
    intro acc
    simp only [List.cons_append, decFrom]
    cases digitVal c with
    | none => rfl
    | some d => exact ih _

theorem digitVal_dec {d : Nat} (h : d < 10) : digitVal (UInt8.ofNat (48 + d)) = some d := by
  have : (UInt8.ofNat (48 + d)).toNat = 48 + d := by simp; omega
  unfold digitVal
  rw [this, if_pos (by omega)]
  congr 1
  omega

theorem decFrom_dec (u : Nat) : decFrom 0 (decDigits u) = some u := by
  induction u using Nat.strongRecOn with
  | _ u ih =>
    rw [decDigits]
    split
    · rename_i h
      simp only [decFrom, digitVal_dec h]
      simp
    · rename_i h
      rw [decFrom_app, ih (u / 10) (by omega)]
      simp only [Option.bind_some, decFrom, digitVal_dec (Nat.mod_lt u (by decide : 0 < 10))]
      congr 1
      omega

theorem dec_ne (u : Nat) : decDigits u ≠ [] := by
  intro h
  have := decDigits_length u
  rw [h] at this
  have := nDigits_pos u
  simp at *
  omega

theorem decNat_dec (u : Nat) : decNat (decDigits u) = some u := by
  unfold decNat
  rw [if_neg (by simpa using dec_ne u)]
  exact decFrom_dec u

theorem dec_head (u : Nat) : ∃ b r, decDigits u = b :: r ∧ 48 ≤ b.toNat ∧ b.toNat ≤ 57 := by
  induction u using Nat.strongRecOn with
  | _ u ih =>
    rw [decDigits]
    split
    · rename_i h
      exact ⟨_, [], rfl, by simp; omega, by simp; omega⟩
    · rename_i h
      obtain ⟨b, r, e, h1, h2⟩ := ih (u / 10) (by omega)
      exact ⟨b, r ++ [UInt8.ofNat (48 + u % 10)], by rw [e]; rfl, h1, h2⟩

theorem nDigits_le {u : Nat} (h : u ≤ 999999) : nDigits u ≤ 6 := by
  rcases Nat.lt_or_ge 6 (nDigits u) with h6 | h6
  · exfalso
    have key : ∀ k u, nDigits u = k + 1 → 10 ^ k ≤ u ∨ k = 0 := by
      intro k
      induction k with
      | zero => intro u _; exact .inr rfl
      | succ k ih =>
        intro u hu
        left
        by_cases h10 : u < 10
        · rw [nDigits_small h10] at hu; omega
        · rw [nDigits_big h10] at hu
          rcases ih (u / 10) (by omega) with h | h
          · rw [Nat.pow_succ]; omega
          · subst h; simp; omega
    rcases key (nDigits u - 1) u (by omega) with h1 | h1
    · have : 10 ^ 6 ≤ 10 ^ (nDigits u - 1) := Nat.pow_le_pow_right (by decide) (by omega)
      have e : (10 : Nat) ^ 6 = 1000000 := by decide
      omega
    · omega
  · exact h6

/-- the numeral of a small number -/
def fits (s : List UInt8) (n : Int) : Prop := (-999999 ≤ n ∧ n ≤ 999999) ∧ itoa n = s

def body (s : List UInt8) : List UInt8 := if 1 < s.length ∧ s.headD 0 = 45 then s.drop 1 else s
def signed (s : List UInt8) (m : Nat) : Int := if (body s).length < s.length then -(m : Int) else m
/-- what the model reads -/
def specP (s : List UInt8) : Option Int :=
  if 1 ≤ (body s).length ∧ (body s).length ≤ 6 then
    match decFrom 0 (body s) with
    | some m => if itoa (signed s m) = s then some (signed s m) else none
    | none => none
  else none
/-- what the program reads -/
def implP (s : List UInt8) : Option Int :=
  match atoiAll s with
  | .ok v => if (-999999 ≤ v ∧ v ≤ 999999) ∧ itoa v = s then some v else none
  | _ => none

theorem six : (10 : Nat) ^ 6 = 1000000 := by decide

theorem spec_sound {s : List UInt8} {n : Int} (h : specP s = some n) : fits s n := by
  unfold specP at h
  split at h
  · rename_i hl
    split at h
    · rename_i m hm
      split at h
      · rename_i he
        injection h with h
        subst h
        refine ⟨?_, he⟩
        have h1 := decFrom_lt _ 0 m hm
        have h2 : 10 ^ (body s).length ≤ 10 ^ 6 := Nat.pow_le_pow_right (by decide) hl.2
        have := six
        unfold signed
        split <;> omega
      · cases h
    · cases h
  · cases h

theorem spec_complete {s : List UInt8} {n : Int} (h : fits s n) : specP s = some n := by
  obtain ⟨hr, rfl⟩ := h
  by_cases hn : n < 0
  · obtain ⟨u, rfl⟩ : ∃ u : Nat, n = -(u : Int) := ⟨n.natAbs, by omega⟩
    have e := itoa_neg u (by omega)
    have hb : body (itoa (-(u : Int))) = decDigits u := by
      rw [e]
      unfold body
      rw [if_pos ⟨by have := dec_ne u; simp [List.length_pos_iff, this], rfl⟩]
      rfl
    have hs : signed (itoa (-(u : Int))) u = -(u : Int) := by
      unfold signed
      rw [hb, e, if_pos (by simp)]
    unfold specP
    rw [hb, decFrom_dec, decDigits_length, if_pos ⟨nDigits_pos u, nDigits_le (by omega)⟩]
    simp only [hs, if_true]
  · obtain ⟨u, rfl⟩ : ∃ u : Nat, n = (u : Int) := ⟨n.toNat, by omega⟩
    have e := itoa_nonneg u
    obtain ⟨b, r, eb, h1, h2⟩ := dec_head u
    have hb : body (itoa (u : Int)) = decDigits u := by
      rw [e]
      unfold body
      rw [if_neg]
      rintro ⟨_, hc⟩
      rw [eb] at hc
      simp only [List.headD_cons] at hc
      subst hc
      revert h1
      decide
    have hs : signed (itoa (u : Int)) u = (u : Int) := by
      unfold signed
      rw [hb, e, if_neg (by omega)]
    unfold specP
    rw [hb, decFrom_dec, decDigits_length, if_pos ⟨nDigits_pos u, nDigits_le (by omega)⟩]
    simp only [hs, if_true]

theorem impl_sound {s : List UInt8} {n : Int} (h : implP s = some n) : fits s n := by
  unfold implP at h
  split at h
  · split at h
    · rename_i hc
      injection h with h
      subst h
      exact hc
    · cases h
  · cases h

theorem atoi_itoa {n : Int} (h : -999999 ≤ n ∧ n ≤ 999999) : atoiAll (itoa n) = .ok n := by
  have hl : (itoa n).length ≤ 18 := by
    by_cases hn : n < 0
    · obtain ⟨u, rfl⟩ : ∃ u : Nat, n = -(u : Int) := ⟨n.natAbs, by omega⟩
      rw [itoa_neg u (by omega), List.length_cons, decDigits_length]
      have := nDigits_le (u := u) (by omega)
      omega
    · obtain ⟨u, rfl⟩ : ∃ u : Nat, n = (u : Int) := ⟨n.toNat, by omega⟩
      rw [itoa_nonneg, decDigits_length]
      have := nDigits_le (u := u) (by omega)
      omega
  rw [atoiAll_short _ hl]
  by_cases hn : n < 0
  · obtain ⟨u, rfl⟩ : ∃ u : Nat, n = -(u : Int) := ⟨n.natAbs, by omega⟩
    rw [itoa_neg u (by omega)]
    simp [atoi, decNat_dec, NumEnd.ofOption]
  · obtain ⟨u, rfl⟩ : ∃ u : Nat, n = (u : Int) := ⟨n.toNat, by omega⟩
    rw [itoa_nonneg]
    obtain ⟨b, r, eb, h1, h2⟩ := dec_head u
    have hd := decNat_dec u
    rw [eb] at hd ⊢
    have n45 : (b == 45) = false := by
      rw [beq_eq_false_iff_ne]; rintro rfl; revert h1; decide
    have n43 : (b == 43) = false := by
      rw [beq_eq_false_iff_ne]; rintro rfl; revert h1; decide
    simp [atoi, n45, n43, hd, NumEnd.ofOption]

theorem impl_complete {s : List UInt8} {n : Int} (h : fits s n) : implP s = some n := by
  obtain ⟨hr, rfl⟩ := h
  unfold implP
  rw [atoi_itoa hr]
  simp only [if_pos (And.intro hr trivial)]

theorem same (s : List UInt8) : implP s = specP s := by
  cases h : implP s with
  | some n => exact (spec_complete (impl_sound h)).symm
  | none =>
    cases g : specP s with
    | none => rfl
    | some n => rw [impl_complete (spec_sound g)] at h; cases h

/-! ### pieces for the walk -/
theorem step_yes {L : List UInt8} {k m : Nat} {b : UInt8} (h : decFrom 0 (L.take k) = some m) (hb : L[k]? = some b) (h1 : 48 ≤ b.toNat) (h2 : b.toNat ≤ 57) : decFrom 0 (L.take (k + 1)) = some (10 * m + (b.toNat - 48)) := by
  rw [decFrom_take L k 0 m b (b.toNat - 48) h hb (by unfold digitVal; rw [if_pos ⟨h1, h2⟩])]
  congr 1
  omega
theorem step_no {L : List UInt8} {k m : Nat} {b : UInt8} (h : decFrom 0 (L.take k) = some m) (hb : L[k]? = some b) (h1 : b.toNat < 48 ∨ 57 < b.toNat) : decFrom 0 L = none := by
  have hk : k < L.length := by
    rcases Nat.lt_or_ge k L.length with h | h
    · exact h
    · rw [List.getElem?_eq_none h] at hb; cases hb
  have e : L = L.take k ++ b :: L.drop (k + 1) := by
    rw [List.getElem?_eq_getElem hk] at hb
    injection hb with hb
    rw [← hb, List.getElem_cons_drop, List.take_append_drop]
  rw [e, decFrom_app, h]
  simp only [Option.bind_some, decFrom]
  have : digitVal b = none := by unfold digitVal; rw [if_neg (by omega)]
  rw [this]

theorem body_neg {s : List UInt8} (h1 : 1 < s.length) (h2 : s.headD 0 = 45) : body s = s.drop 1 := if_pos ⟨h1, h2⟩
theorem body_pos {s : List UInt8} (h : ¬ (1 < s.length ∧ s.headD 0 = 45)) : body s = s := if_neg h
theorem specP_len {s B : List UInt8} (hB : body s = B) (h : ¬ (1 ≤ B.length ∧ B.length ≤ 6)) : specP s = none := by
  unfold specP; rw [hB, if_neg h]
theorem specP_dec {s B : List UInt8} (hB : body s = B) (h : decFrom 0 B = none) : specP s = none := by
  unfold specP; rw [hB, h]; simp
theorem specP_ok {s B : List UInt8} {m : Nat} {v : Int} (hB : body s = B) (h1 : 1 ≤ B.length) (h2 : B.length ≤ 6) (h : decFrom 0 B = some m) (hv : (if B.length < s.length then -(m : Int) else m) = v) (he : itoa v = s) : specP s = some v := by
  unfold specP signed; rw [hB, if_pos ⟨h1, h2⟩, h]; simp only [hv]; rw [if_pos he]
theorem specP_no {s B : List UInt8} {m : Nat} {v : Int} (hB : body s = B) (h1 : 1 ≤ B.length) (h2 : B.length ≤ 6) (h : decFrom 0 B = some m) (hv : (if B.length < s.length then -(m : Int) else m) = v) (he : ¬ itoa v = s) : specP s = none := by
  unfold specP signed; rw [hB, if_pos ⟨h1, h2⟩, h]; simp only [hv]; rw [if_neg he]
theorem at_all (s : ByteArray) (k : Nat) (h : k < s.size) : s.data.toList[k]? = some s[k] := by
  rw [List.getElem?_eq_getElem (by rw [Array.length_toList]; exact h)]
  rfl
theorem data_extract1 (s : ByteArray) : (s.extract 1 s.size).data.toList = s.data.toList.drop 1 := by
  rw [ByteArray.data_extract, Array.toList_extract]
  simp only [List.extract_eq_take_drop]
  rw [List.take_of_length_le]
  rw [List.length_drop, Array.length_toList]
  exact Nat.le_refl _
theorem at_extract (s : ByteArray) (k : Nat) (h : k < (s.extract 1 s.size).size) : (s.data.toList.drop 1)[k]? = some (s.extract 1 s.size)[k] := by
  rw [← data_extract1]
  exact at_all _ k h
theorem len_data (s : ByteArray) : s.data.toList.length = s.size := by rw [Array.length_toList]; rfl
theorem headD_zero (l : List UInt8) (h : 0 < l.length) : l.headD 0 = l[0] := by
  cases l with
  | nil => simp at h
  | cons b r => rfl
theorem head_data (s : ByteArray) (h : 0 < s.size) : s.data.toList.headD 0 = s[0] := by
  rw [headD_zero _ (by rw [len_data]; exact h)]
  rfl
theorem int_ne {b : UInt8} (h : ¬ b = 45) : ((b.toNat : Int) == 45) = false := by
  rw [beq_eq_false_iff_ne]
  intro e
  apply h
  have : b.toNat = 45 := by omega
  exact UInt8.toNat_inj.1 (by rw [this]; rfl)
theorem ba_eq {l : List UInt8} {s : ByteArray} : (⟨l.toArray⟩ : ByteArray) = s ↔ l = s.data.toList := by
  constructor
  · intro h; rw [← h]
  · intro h; rw [h]
theorem toList_data (s : ByteArray) : s.toList = s.data.toList := ByteArray.toList_eq s
theorem beq_yes {l : List UInt8} {s : ByteArray} (h : l = s.data.toList) : (l == s.toList) = true := by
  rw [toList_data, h]; exact beq_self_eq_true _
theorem beq_no {l : List UInt8} {s : ByteArray} (h : ¬ l = s.data.toList) : (l == s.toList) = false := by
  rw [toList_data, beq_eq_false_iff_ne]; exact h
theorem beq_yes' {l : List UInt8} {s : ByteArray} (h : l = s.data.toList) : ((⟨l.toArray⟩ : ByteArray).toList == s.toList) = true := by
  rw [toList_data, toList_data, ← h]; exact beq_self_eq_true _
theorem beq_no' {l : List UInt8} {s : ByteArray} (h : ¬ l = s.data.toList) : ((⟨l.toArray⟩ : ByteArray).toList == s.toList) = false := by
  rw [toList_data, toList_data, beq_eq_false_iff_ne]; exact h
theorem pow_le {k : Nat} (h : k ≤ 6) : 10 ^ k ≤ 1000000 := Nat.le_trans (Nat.pow_le_pow_right (by decide) h) (by decide)
end Go.Proofs.YtlbigpkajfdkjaaDoor.parse
