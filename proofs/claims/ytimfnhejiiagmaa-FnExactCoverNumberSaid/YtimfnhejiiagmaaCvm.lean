/- The arithmetic of covers: the search that takes the lowest place that is missing finds a cover with few members exactly if there is one; covers by other names have as few. -/
import Derived.Test.YtimfnhejiiagmaaBase
namespace Go.Proofs.Ytimfnhejiiagmaa.cvm

/-- what of a is not in c -/
def andNot (a c : Nat) : Nat := a ^^^ (a &&& c)
theorem andNot_bit (a c p : Nat) : (andNot a c).testBit p = (a.testBit p && !c.testBit p) := by
  unfold andNot
  rw [Nat.testBit_xor, Nat.testBit_and]
  cases a.testBit p <;> cases c.testBit p <;> rfl
/-- the lowest place below n at which a has a digit 1, n if there is none -/
def low (a : Nat) : Nat → Nat
  | 0 => 0
  | n + 1 => if low a n < n then low a n else if a.testBit n then n else n + 1
theorem low_le (a : Nat) : ∀ n, low a n ≤ n
  | 0 => Nat.le_refl _
  | n + 1 => by have := low_le a n; unfold low; split; omega; split <;> omega
theorem low_is (a : Nat) : ∀ n, (∀ p, p < low a n → a.testBit p = false) ∧ (low a n < n → a.testBit (low a n) = true)
  | 0 => ⟨fun p h => absurd h (Nat.not_lt_zero _), fun h => absurd h (Nat.not_lt_zero _)⟩
  | n + 1 => by
    obtain ⟨h1, h2⟩ := low_is a n
    have hl := low_le a n
    unfold low
    by_cases h : low a n < n
    · rw [if_pos h]; exact ⟨h1, fun _ => h2 h⟩
    · rw [if_neg h]
      have e : low a n = n := by omega
      by_cases hb : a.testBit n
      · rw [if_pos hb]; exact ⟨fun p hp => h1 p (by omega), fun _ => hb⟩
      · rw [if_neg hb]
        refine ⟨fun p hp => ?_, fun hh => by omega⟩
        by_cases ep : p = n
        · subst ep; simpa using hb
        · exact h1 p (by omega)

/-- at most k of the members have all digits of a -/
def Cov (cs : List Nat) (a k : Nat) : Prop := ∃ F : List Nat, F.length ≤ k ∧ (∀ f ∈ F, f ∈ cs) ∧ ∀ p, a.testBit p = true → ∃ f ∈ F, f.testBit p = true
theorem cov_none (cs : List Nat) (k : Nat) : Cov cs 0 k := ⟨[], Nat.zero_le _, fun f h => by simp at h, fun p h => by simp at h⟩
theorem cov_zero {cs : List Nat} {a : Nat} (h : Cov cs a 0) : a = 0 := by
  obtain ⟨F, h1, _, h3⟩ := h
  have : F = [] := List.length_eq_zero_iff.1 (by omega)
  subst this
  apply Nat.eq_of_testBit_eq
  intro p
  cases hb : a.testBit p with
  | false => simp
  | true => obtain ⟨f, hf, _⟩ := h3 p hb; simp at hf
theorem cov_step {cs : List Nat} {a k p0 : Nat} (hp : a.testBit p0 = true) : Cov cs a (k + 1) ↔ ∃ c ∈ cs, c.testBit p0 = true ∧ Cov cs (andNot a c) k := by
  constructor
  · rintro ⟨F, h1, h2, h3⟩
    obtain ⟨c, hc, hb⟩ := h3 p0 hp
    refine ⟨c, h2 c hc, hb, F.erase c, ?_, fun f hf => h2 f (List.mem_of_mem_erase hf), fun p hq => ?_⟩
    · rw [List.length_erase_of_mem hc]; omega
    · rw [andNot_bit] at hq
      simp only [Bool.and_eq_true, Bool.not_eq_true'] at hq
      obtain ⟨f, hf, hfb⟩ := h3 p hq.1
      refine ⟨f, ?_, hfb⟩
      have hne : f ≠ c := fun e => by rw [e, hq.2] at hfb; exact absurd hfb (by simp)
      exact (List.mem_erase_of_ne hne).2 hf
  · rintro ⟨c, hc, hb, F, h1, h2, h3⟩
    refine ⟨c :: F, by simp; omega, fun f hf => ?_, fun p hq => ?_⟩
    · rcases List.mem_cons.1 hf with e | e
      · rw [e]; exact hc
      · exact h2 f e
    · by_cases hcp : c.testBit p = true
      · exact ⟨c, by simp, hcp⟩
      · obtain ⟨f, hf, hfb⟩ := h3 p (by rw [andNot_bit, hq]; simpa using hcp)
        exact ⟨f, List.mem_cons_of_mem _ hf, hfb⟩
/-- the search, over masks of N digits -/
def can (cs : List Nat) (N : Nat) : Nat → Nat → Bool
  | 0, a => a == 0
  | k + 1, a => if a = 0 then true else cs.any fun c => c.testBit (low a N) && can cs N k (andNot a c)
theorem low_lt {a N : Nat} (ha : a ≠ 0) (hN : a < 2 ^ N) : low a N < N := by
  apply Classical.byContradiction
  intro h
  have hl := low_le a N
  apply ha
  apply Nat.eq_of_testBit_eq
  intro p
  rw [Nat.zero_testBit]
  by_cases hp : p < N
  · exact (low_is a N).1 p (by omega)
  · exact Nat.testBit_lt_two_pow (Nat.lt_of_lt_of_le hN (Nat.pow_le_pow_right (by omega) (by omega)))
theorem andNot_lt {a c N : Nat} (h : a < 2 ^ N) : andNot a c < 2 ^ N := by
  apply Nat.lt_pow_two_of_testBit
  intro i hi
  rw [andNot_bit, Nat.testBit_lt_two_pow (Nat.lt_of_lt_of_le h (Nat.pow_le_pow_right (by omega) hi))]
  rfl
theorem can_iff (cs : List Nat) (N : Nat) : ∀ k a, a < 2 ^ N → (can cs N k a = true ↔ Cov cs a k)
  | 0, a, _ => by
    unfold can
    rw [beq_iff_eq]
    exact ⟨fun h => by rw [h]; exact cov_none _ _, cov_zero⟩
  | k + 1, a, ha => by
    unfold can
    by_cases h : a = 0
    · rw [if_pos h, h]; exact ⟨fun _ => cov_none _ _, fun _ => rfl⟩
    · rw [if_neg h, cov_step ((low_is a N).2 (low_lt h ha)), List.any_eq_true]
      constructor
      · rintro ⟨c, hc, hb⟩
        simp only [Bool.and_eq_true] at hb
        exact ⟨c, hc, hb.1, (can_iff cs N k _ (andNot_lt ha)).1 hb.2⟩
      · rintro ⟨c, hc, hb, hk⟩
        exact ⟨c, hc, by rw [hb, (can_iff cs N k _ (andNot_lt ha)).2 hk]; rfl⟩
/-- a family whose members lie, by other names of the places, in members of another one -/
theorem cov_map {P M : List Nat} {a b k : Nat} (R : Nat → Nat → Prop) (h : ∀ f ∈ P, ∃ g ∈ M, ∀ p q, R p q → f.testBit p = true → g.testBit q = true) (hb : ∀ q, b.testBit q = true → ∃ p, R p q ∧ a.testBit p = true) (hc : Cov P a k) : Cov M b k := by
  obtain ⟨F, h1, h2, h3⟩ := hc
  have key : ∀ F : List Nat, (∀ f ∈ F, f ∈ P) → ∃ G : List Nat, G.length = F.length ∧ (∀ g ∈ G, g ∈ M) ∧ ∀ f ∈ F, ∃ g ∈ G, ∀ p q, R p q → f.testBit p = true → g.testBit q = true := by
    intro F
    induction F with
    | nil => intro _; exact ⟨[], rfl, fun g hg => by simp at hg, fun f hf => by simp at hf⟩
    | cons f F ih =>
      intro hF
      obtain ⟨G, g1, g2, g3⟩ := ih (fun x hx => hF x (List.mem_cons_of_mem _ hx))
      obtain ⟨g, hg, hfg⟩ := h f (hF f (by simp))
      refine ⟨g :: G, by simp [g1], fun x hx => ?_, fun x hx => ?_⟩
      · rcases List.mem_cons.1 hx with e | e
        · rw [e]; exact hg
        · exact g2 x e
      · rcases List.mem_cons.1 hx with e | e
        · subst e; exact ⟨g, by simp, hfg⟩
        · obtain ⟨y, hy, hxy⟩ := g3 x e
          exact ⟨y, List.mem_cons_of_mem _ hy, hxy⟩
  obtain ⟨G, g1, g2, g3⟩ := key F h2
  refine ⟨G, by omega, g2, fun q hq => ?_⟩
  obtain ⟨p, hr, hp⟩ := hb q hq
  obtain ⟨f, hf, hfp⟩ := h3 p hp
  obtain ⟨g, hg, hfg⟩ := g3 f hf
  exact ⟨g, hg, hfg p q hr hfp⟩
/-- the least number, as it is sought -/
theorem least_unique {A B : Nat → Bool} (h : ∀ k, A k = B k) {c d : Nat} (hc : A c = true) (hc' : ∀ j, j < c → A j = false) (hd : B d = true) (hd' : ∀ j, j < d → B j = false) : c = d := by
  rcases Nat.lt_trichotomy c d with l | l | l
  · have := hd' c l; rw [← h, hc] at this; exact absurd this (by simp)
  · exact l
  · have := hc' d l; rw [h, hd] at this; exact absurd this (by simp)
end Go.Proofs.Ytimfnhejiiagmaa.cvm
