/- The lowest digit of a number by a and its opposite number; what is left out of a mask. -/
import Derived.Test.YtimfnhejiiagmaaCvm
import Derived.Laws.BitsLemmas
namespace Go.Proofs.Ytimfnhejiiagmaa.cvb
open Go.RowKit Go.Deep Go.Proofs.Ytimfnhejiiagmaa.base
open Go.Proofs.Ytimfnhejiiagmaa.cvm

theorem low_split {a N : Nat} (ha : a ≠ 0) (h : a < 2 ^ N) : ∃ q, a = 2 ^ low a N * (2 * q + 1) := by
  obtain ⟨h1, h2⟩ := low_is a N
  have hl := h2 (low_lt ha h)
  generalize low a N = l at *
  have hm : a % 2 ^ l = 0 := by
    apply Nat.eq_of_testBit_eq
    intro i
    rw [Nat.testBit_mod_two_pow, Nat.zero_testBit]
    by_cases hi : i < l
    · rw [h1 i hi]; simp
    · simp [hi]
  have hd : a / 2 ^ l % 2 = 1 := by
    have := hl
    rw [Nat.testBit_eq_decide_div_mod_eq] at this
    simpa using this
  refine ⟨a / 2 ^ l / 2, ?_⟩
  have e1 := Nat.div_add_mod a (2 ^ l)
  have e2 := Nat.div_add_mod (a / 2 ^ l) 2
  rw [hm] at e1
  rw [hd] at e2
  rw [e2]
  omega
theorem and_neg {a N M : Nat} (ha : a ≠ 0) (h : a < 2 ^ N) (hM : N ≤ M) : a &&& (2 ^ M - a) = 2 ^ low a N := by
  obtain ⟨q, hq⟩ := low_split ha h
  have hlt : a < 2 ^ M := Nat.lt_of_lt_of_le h (Nat.pow_le_pow_right (by omega) hM)
  have hll := low_lt ha h
  generalize low a N = l at *
  have hp : 0 < 2 ^ l := Nat.pow_pos (by omega)
  have ea : a - 1 = 2 ^ l * (2 * q) + (2 ^ l - 1) := by
    rw [hq, Nat.mul_add, Nat.mul_one]; omega
  have es : 2 ^ M - a = 2 ^ M - ((a - 1) + 1) := by congr 1; omega
  apply Nat.eq_of_testBit_eq
  intro i
  rw [Nat.testBit_and, es, Nat.testBit_two_pow_sub_succ (by omega), ea, Nat.testBit_two_pow_mul_add _ (by omega), Nat.testBit_two_pow, hq, Nat.testBit_two_pow_mul]
  by_cases hi : i < l
  · simp [hi, show ¬ l ≤ i by omega, show l ≠ i by omega]
  · rw [if_neg hi]
    obtain ⟨j, rfl⟩ : ∃ j, i = l + j := ⟨i - l, by omega⟩
    rw [Nat.add_sub_cancel_left]
    cases j with
    | zero =>
      simp
      omega
    | succ j =>
      have e1 : (2 * q + 1).testBit (j + 1) = q.testBit j := by rw [Nat.testBit_succ]; congr 1; omega
      have e2 : (2 * q).testBit (j + 1) = q.testBit j := by rw [Nat.testBit_succ]; congr 1; omega
      rw [e1, e2]
      cases q.testBit j <;> simp
theorem neg_of (k : IntKind) (hk : k.bits = 64) {a : Nat} {x : Int} (hx : (x % 2 ^ 64).toNat = 2 ^ 64 - a) (hw : ∀ n : Int, 0 ≤ n → n < 2 ^ 32 → k.wrap n = n) (ha : a ≠ 0) (h : a < 2 ^ 16) : bits .and k (a : Int) x = ((2 ^ low a 16 : Nat) : Int) := by
  have hl := low_lt ha h
  have h2 : 2 ^ low a 16 < 2 ^ 16 := Nat.pow_lt_pow_right (by omega) hl
  have hn := and_neg ha h (show 16 ≤ 64 by omega)
  have e : (BitVec.ofInt k.bits (a : Int) &&& BitVec.ofInt k.bits x).toNat = 2 ^ low a 16 := by
    rw [BitVec.toNat_and, BitVec.toNat_ofInt, BitVec.toNat_ofInt, hk]
    have e1 : ((a : Int) % ((2 ^ 64 : Nat) : Int)).toNat = a := by omega
    have e2 : (x % ((2 ^ 64 : Nat) : Int)).toNat = 2 ^ 64 - a := by
      have : ((2 ^ 64 : Nat) : Int) = 2 ^ 64 := by decide
      rw [this]; exact hx
    rw [e1, e2, hn]
  show k.wrap (((BitVec.ofInt k.bits (a : Int) &&& BitVec.ofInt k.bits x).toNat : Nat) : Int) = _
  rw [e]
  exact hw _ (Int.natCast_nonneg _) (by omega)
theorem neg_u {a : Nat} (ha : a ≠ 0) (h : a < 2 ^ 16) : bits .and .u64 (a : Int) (IntKind.u64.wrap (-(a : Int))) = ((2 ^ low a 16 : Nat) : Int) := by
  refine neg_of .u64 rfl ?_ (fun n h0 h1 => by rw [IntKind.wrap_u64]; omega) ha h
  rw [IntKind.wrap_u64]
  omega
theorem neg_i {a : Nat} (ha : a ≠ 0) (h : a < 2 ^ 16) : bits .and .i64 (a : Int) (-(a : Int)) = ((2 ^ low a 16 : Nat) : Int) := by
  refine neg_of .i64 rfl ?_ (fun n h0 h1 => IntWalk.i64_in _ (by omega)) ha h
  omega
theorem and_low {a : Nat} (l : Nat) : a &&& 2 ^ l = if a.testBit l then 2 ^ l else 0 := by
  apply Nat.eq_of_testBit_eq
  intro i
  rw [Nat.testBit_and, Nat.testBit_two_pow]
  by_cases e : l = i
  · subst e
    by_cases h : a.testBit l <;> simp [h]
  · by_cases h : a.testBit l <;> simp [h, e]
end Go.Proofs.Ytimfnhejiiagmaa.cvb
