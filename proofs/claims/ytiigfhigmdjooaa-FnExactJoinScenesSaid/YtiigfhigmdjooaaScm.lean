/- The mathematics of Scenes: rising lists, valid Scenes, contexts that keep an assignment, signs, sums of events as binary numbers. It speaks of no program. -/
import Derived.Test.YtiigfhigmdjooaaBase
import Derived.Test.YtiigfhigmdjooaaPlay
import Derived.Laws.Bits64
namespace Go.Proofs.Ytiigfhigmdjooaa.scm
open Go.RowKit Go.Deep Go.Proofs.Ytiigfhigmdjooaa.base
open Go.Proofs.Ytiigfhigmdjooaa.play (within withinB withinB_yes withinB_no)

def rising (lo hi : Int) (xs : List Int) : Prop := ∀ k (h : k < xs.length), lo ≤ xs[k] ∧ xs[k] ≤ hi ∧ ∀ (h0 : 0 < k), xs[k - 1]'(by omega) < xs[k]
open Classical in
noncomputable def risingB (lo hi : Int) (xs : List Int) : Bool := if rising lo hi xs then true else false
theorem risingB_yes {lo hi : Int} {xs : List Int} (h : rising lo hi xs) : risingB lo hi xs = true := if_pos h
theorem risingB_no {lo hi : Int} {xs : List Int} (h : ¬ rising lo hi xs) : risingB lo hi xs = false := if_neg h
/-- a context of n events -/
def ctx (n : Int) (xs : List Int) : Prop := 0 < xs.length ∧ rising 0 (n - 1) xs
open Classical in
noncomputable def ctxB (n : Int) (xs : List Int) : Bool := if ctx n xs then true else false
theorem ctxB_yes {n : Int} {xs : List Int} (h : ctx n xs) : ctxB n xs = true := if_pos h
theorem ctxB_no {n : Int} {xs : List Int} (h : ¬ ctx n xs) : ctxB n xs = false := if_neg h

structure okScene (x : Int) (xss : List (List Int)) (ws : List Int) : Prop where
  ev0 : 0 ≤ x
  ev1 : x ≤ 12
  len : xss.length ≤ 10
  sums : within xss.length 0 1 ws
  ctx : ∀ r (h : r < xss.length), ctx x xss[r]
open Classical in
noncomputable def sceneB (x : Int) (xss : List (List Int)) (ws : List Int) : Bool := if okScene x xss ws then true else false
theorem sceneB_yes {x : Int} {xss : List (List Int)} {ws : List Int} (h : okScene x xss ws) : sceneB x xss ws = true := if_pos h
theorem sceneB_no {x : Int} {xss : List (List Int)} {ws : List Int} (h : ¬ okScene x xss ws) : sceneB x xss ws = false := if_neg h

/-- a rising list of numbers below n has no more than n -/
theorem rising_ge {hi : Int} {xs : List Int} (h : rising 0 hi xs) : ∀ k (hk : k < xs.length), (k : Int) ≤ xs[k] := by
  intro k
  induction k with
  | zero => intro hk; exact (h 0 hk).1
  | succ k ih =>
    intro hk
    have h1 := ih (by omega)
    have h2 := (h (k + 1) hk).2.2 (by omega)
    simp only [Nat.add_sub_cancel] at h2
    omega
theorem rising_len {n : Int} {xs : List Int} (h : rising 0 (n - 1) xs) (h0 : 0 ≤ n) : (xs.length : Int) ≤ n := by
  by_cases hz : xs.length = 0
  · omega
  · have h1 := rising_ge h (xs.length - 1) (by omega)
    have h2 := (h (xs.length - 1) (by omega)).2.1
    omega
theorem rising_at {lo hi : Int} {xs : List Int} (h : rising lo hi xs) {k : Nat} (hk : k < xs.length) : lo ≤ xs[k] ∧ xs[k] ≤ hi := ⟨(h k hk).1, (h k hk).2.1⟩
theorem rising_lt {lo hi : Int} {xs : List Int} (h : rising lo hi xs) : ∀ j k (hk : k < xs.length) (hj : j < k), xs[j]'(by omega) < xs[k] := by
  intro j k
  induction k with
  | zero => intro _ hj; omega
  | succ k ih =>
    intro hk hj
    have h2 := (h (k + 1) hk).2.2 (by omega)
    simp only [Nat.add_sub_cancel] at h2
    by_cases e : j = k
    · subst e; exact h2
    · have := ih (by omega) (by omega); omega
theorem okScene.ctx_len {x : Int} {xss : List (List Int)} {ws : List Int} (h : okScene x xss ws) {r : Nat} (hr : r < xss.length) : xss[r].length ≤ 12 := by
  have := rising_len (h.ctx r hr).2 h.ev0; have := h.ev1; omega

/-! ### the places for which a test is true -/
def pass (f : Nat → Bool) : Nat → List Int
  | 0 => []
  | n + 1 => if f n then pass f n ++ [(n : Int)] else pass f n
theorem pass_yes {f : Nat → Bool} {n : Nat} (h : f n = true) : pass f (n + 1) = pass f n ++ [(n : Int)] := by simp [pass, h]
theorem pass_no {f : Nat → Bool} {n : Nat} (h : f n = false) : pass f (n + 1) = pass f n := by simp [pass, h]
theorem len_pass (f : Nat → Bool) : ∀ n, (pass f n).length ≤ n
  | 0 => Nat.le_refl _
  | n + 1 => by have := len_pass f n; simp only [pass]; split <;> simp <;> omega
theorem pass_full (f : Nat → Bool) : ∀ n, (pass f n).length = n ↔ ∀ k, k < n → f k = true
  | 0 => by simp [pass]
  | n + 1 => by
    have ih := pass_full f n
    have hl := len_pass f n
    constructor
    · intro h k hk
      cases e : f n with
      | true =>
        rw [pass_yes e] at h; simp at h
        by_cases e2 : k = n
        · subst e2; exact e
        · exact ih.1 h k (by omega)
      | false => rw [pass_no e] at h; omega
    · intro h
      rw [pass_yes (h n (by omega))]
      simp
      exact ih.2 (fun k hk => h k (by omega))
theorem pass_congr {f g : Nat → Bool} : ∀ n, (∀ k, k < n → f k = g k) → pass f n = pass g n
  | 0, _ => rfl
  | n + 1, h => by simp only [pass, h n (by omega), pass_congr n (fun k hk => h k (by omega))]

/-! ### how many events of a context have the number 1 -/
def bitAt (a : List Int) (e : Int) : Int := a.getD e.toNat 0
def ones (a : List Int) : List Int → Int
  | [] => 0
  | e :: c => bitAt a e + ones a c
theorem ones_snoc (a : List Int) (e : Int) : ∀ c, ones a (c ++ [e]) = ones a c + bitAt a e
  | [] => by simp [ones]
  | d :: c => by simp only [List.cons_append, ones, ones_snoc a e c]; omega
theorem take_snoc {c : List Int} {k : Nat} (h : k < c.length) : c.take (k + 1) = c.take k ++ [c[k]] := by rw [List.take_succ_eq_append_getElem h]
theorem ones_succ (a : List Int) {c : List Int} {k : Nat} (h : k < c.length) : ones a (c.take (k + 1)) = ones a (c.take k) + bitAt a c[k] := by rw [take_snoc h, ones_snoc]
theorem bitAt_in {n : Int} {a : List Int} (h : within n 0 1 a) {e : Int} (h0 : 0 ≤ e) (h1 : e ≤ n - 1) : ∃ hk : e.toNat < a.length, bitAt a e = a[e.toNat] := by
  have hk : e.toNat < a.length := by have := h.1; omega
  exact ⟨hk, by simp [bitAt, List.getD, hk]⟩
theorem bitAt_01 {n : Int} {a : List Int} (h : within n 0 1 a) {e : Int} (h0 : 0 ≤ e) (h1 : e ≤ n - 1) : bitAt a e = 0 ∨ bitAt a e = 1 := by
  obtain ⟨hk, e1⟩ := bitAt_in h h0 h1
  have := h.2 _ hk
  omega
theorem ones_bound {n : Int} {a : List Int} (h : within n 0 1 a) {c : List Int} (hc : rising 0 (n - 1) c) : ∀ k, k ≤ c.length → 0 ≤ ones a (c.take k) ∧ ones a (c.take k) ≤ k
  | 0, _ => by simp [ones]
  | k + 1, hk => by
    have ih := ones_bound h hc k (by omega)
    have hr := rising_at hc (k := k) (by omega)
    have hb := bitAt_01 h hr.1 hr.2
    rw [ones_succ a (by omega : k < c.length)]
    omega
def keptAt (xss : List (List Int)) (ws a : List Int) (r : Nat) : Bool := decide (ones a (xss.getD r []) % 2 = ws.getD r 0)
def kept (xss : List (List Int)) (ws a : List Int) : List Int := pass (keptAt xss ws a) xss.length
def pickedAt (xss : List (List Int)) (a : List Int) (r : Nat) : Bool := decide (ones a (xss.getD r []) = 1)

/-! ### signs -/
/-- the sign of a sum -/
def sg (m : Int) : Int := if m % 2 = 0 then 1 else -1
theorem sg_step {m b : Int} (hb : b = 0 ∨ b = 1) : sg (m + b) = sg m * (if b = 1 then -1 else 1) := by
  unfold sg
  rcases hb with rfl | rfl
  · simp
  · by_cases h : m % 2 = 0
    · rw [if_pos h, if_neg (by omega)]; simp
    · rw [if_neg h, if_pos (by omega)]; simp
theorem sg_01 (m : Int) : sg m = 1 ∨ sg m = -1 := by unfold sg; split <;> simp
theorem sg_eq {m b : Int} (hb : b = 0 ∨ b = 1) : (sg m == 1 + b * (-2)) = decide (m % 2 = b) := by
  unfold sg
  rcases hb with rfl | rfl
  · by_cases h : m % 2 = 0
    · rw [if_pos h]; simp [h]
    · rw [if_neg h]; simp [h]
  · by_cases h : m % 2 = 0
    · rw [if_pos h]; simp [h]
    · rw [if_neg h]; have : m % 2 = 1 := by omega
      simp [this]
/-- the sign of an event, 0 for one that there isn't -/
def sign (a : List Int) (j : Nat) : Int := if j < a.length then (if a.getD j 0 = 1 then -1 else 1) else 0
theorem sign_bit {n : Int} {a : List Int} (h : within n 0 1 a) {e : Int} (h0 : 0 ≤ e) (h1 : e ≤ n - 1) : sign a e.toNat = if bitAt a e = 1 then -1 else 1 := by
  obtain ⟨hk, e1⟩ := bitAt_in h h0 h1
  unfold sign
  rw [if_pos hk]
  rfl

/-! ### binary digits -/
theorem wrap_i64 {n : Int} (h0 : 0 ≤ n) (h1 : n < 9223372036854775808) : IntKind.i64.wrap n = n := by
  simp [IntKind.wrap, IntKind.bits, IntKind.signed]; omega
theorem nat64 (a : Nat) (ha : a < 9223372036854775808) : (BitVec.ofInt 64 (a : Int)).toNat = a := by
  rw [BitVec.ofInt_natCast, BitVec.toNat_ofNat]; exact Nat.mod_eq_of_lt (by omega)
theorem xor_i64 (a b : Nat) (ha : a < 4611686018427387904) (hb : b < 4611686018427387904) : bits .xor .i64 (a : Int) (b : Int) = ((a ^^^ b : Nat) : Int) := by
  have hx : a ^^^ b < 2 ^ 62 := Nat.xor_lt_two_pow (by omega) (by omega)
  show IntKind.i64.wrap ((BitVec.ofInt 64 (a : Int) ^^^ BitVec.ofInt 64 (b : Int)).toNat : Int) = _
  rw [BitVec.toNat_xor, nat64 a (by omega), nat64 b (by omega), wrap_i64 (by omega) (by omega)]
theorem or_i64 (a b : Nat) (ha : a < 4611686018427387904) (hb : b < 4611686018427387904) : bits .or .i64 (a : Int) (b : Int) = ((a ||| b : Nat) : Int) := by
  have hx : a ||| b < 2 ^ 62 := Nat.or_lt_two_pow (by omega) (by omega)
  show IntKind.i64.wrap ((BitVec.ofInt 64 (a : Int) ||| BitVec.ofInt 64 (b : Int)).toNat : Int) = _
  rw [BitVec.toNat_or, nat64 a (by omega), nat64 b (by omega), wrap_i64 (by omega) (by omega)]
theorem and_i64 (a b : Nat) (ha : a < 4611686018427387904) (hb : b < 4611686018427387904) : bits .and .i64 (a : Int) (b : Int) = ((a &&& b : Nat) : Int) := by
  have hx : a &&& b < 2 ^ 62 := Nat.and_lt_two_pow _ (by omega)
  show IntKind.i64.wrap ((BitVec.ofInt 64 (a : Int) &&& BitVec.ofInt 64 (b : Int)).toNat : Int) = _
  rw [BitVec.toNat_and, nat64 a (by omega), nat64 b (by omega), wrap_i64 (by omega) (by omega)]
/-- the events of a context added to a number without carry -/
def mask (m : Nat) : List Int → Nat
  | [] => m
  | e :: c => mask (m ^^^ 2 ^ e.toNat) c
theorem mask_snoc (e : Int) : ∀ (c : List Int) (m : Nat), mask m (c ++ [e]) = mask m c ^^^ 2 ^ e.toNat
  | [], m => rfl
  | d :: c, m => by simp only [List.cons_append, mask, mask_snoc e c]
theorem mask_succ {c : List Int} {k : Nat} (h : k < c.length) (m : Nat) : mask m (c.take (k + 1)) = mask m (c.take k) ^^^ 2 ^ (c[k]).toNat := by rw [take_snoc h, mask_snoc]
theorem mask_xor : ∀ (c : List Int) (m : Nat), mask m c = m ^^^ mask 0 c
  | [], m => by simp [mask]
  | d :: c, m => by simp only [mask]; rw [mask_xor c (m ^^^ 2 ^ d.toNat), mask_xor c (0 ^^^ 2 ^ d.toNat)]; simp [Nat.xor_assoc]
theorem mask_lt {n : Int} {c : List Int} (hc : rising 0 (n - 1) c) (hn : n ≤ 12) {m : Nat} (hm : m < 4096) : ∀ k, k ≤ c.length → mask m (c.take k) < 4096
  | 0, _ => by simpa [mask] using hm
  | k + 1, hk => by
    have ih := mask_lt hc hn hm k (by omega)
    have hr := rising_at hc (k := k) (by omega)
    rw [mask_succ (by omega : k < c.length)]
    have h2 : 2 ^ (c[k]).toNat < 2 ^ 12 := Nat.pow_lt_pow_right (by omega) (by omega)
    exact Nat.xor_lt_two_pow (n := 12) ih h2
/-- for the events of a context, 'or' is as good -/
theorem mask_or {n : Int} {c : List Int} (hc : rising 0 (n - 1) c) {k : Nat} (hk : k < c.length) : mask 0 (c.take k) ||| 2 ^ (c[k]).toNat = mask 0 (c.take (k + 1)) := by
  have hlt : ∀ j, j ≤ k → mask 0 (c.take j) < 2 ^ (c[k]).toNat := by
    intro j
    induction j with
    | zero => intro _; simp [mask]; exact Nat.two_pow_pos _
    | succ j ih =>
      intro hj
      rw [mask_succ (by omega : j < c.length)]
      have h1 := rising_lt hc j k hk (by omega)
      have h2 := (rising_at hc (k := j) (by omega)).1
      exact Nat.xor_lt_two_pow (ih (by omega)) (Nat.pow_lt_pow_right (by omega) (by omega))
  rw [mask_succ hk]
  have h1 := hlt k (Nat.le_refl _)
  rw [Nat.or_comm, Nat.xor_comm]
  apply Nat.eq_of_testBit_eq
  intro i
  rw [Nat.testBit_or, Nat.testBit_xor]
  by_cases e : i < (c[k]).toNat
  · rw [Nat.testBit_two_pow_of_ne (by omega)]; simp
  · rw [Nat.testBit_lt_two_pow (Nat.lt_of_lt_of_le h1 (Nat.pow_le_pow_right (by omega) (by omega)))]; simp

end Go.Proofs.Ytiigfhigmdjooaa.scm
