/- The masks of rectangles and the list of all of them, as the program gathers them. -/
import Derived.Test.YtimfnhejiiagmaaCan
import Derived.Test.YtimfnhejiiagmaaGrid
import Derived.Test.YtimfnhejiiagmaaCvo
namespace Go.Proofs.Ytimfnhejiiagmaa.cvn
open Go.RowKit Go.Deep Go.Proofs.Ytimfnhejiiagmaa.base
open Go.Proofs.Ytimfnhejiiagmaa.plays (bit)
open Go.Proofs.Ytimfnhejiiagmaa.grid (nn at_)
open Go.Proofs.Ytimfnhejiiagmaa.cvm Go.Proofs.Ytimfnhejiiagmaa.cvb Go.Proofs.Ytimfnhejiiagmaa.canc Go.Proofs.Ytimfnhejiiagmaa.chc Go.Proofs.Ytimfnhejiiagmaa.cvo

def rowM (m i : Nat) (js : List Int) : Nat → Nat
  | 0 => m
  | k + 1 => rowM m i js k ||| 2 ^ (i * 4 + at_ js k)
def allM (is js : List Int) : Nat → Nat
  | 0 => 0
  | a + 1 => rowM (allM is js a) (at_ is a) js js.length
theorem rowM_bit {m i : Nat} {js : List Int} {p : Nat} : ∀ k, (rowM m i js k).testBit p = true ↔ (m.testBit p = true ∨ ∃ b, b < k ∧ p = i * 4 + at_ js b)
  | 0 => ⟨fun h => .inl h, fun h => by rcases h with h | ⟨b, hb, _⟩; exact h; exact absurd hb (Nat.not_lt_zero _)⟩
  | k + 1 => by
    show (rowM m i js k ||| 2 ^ (i * 4 + at_ js k)).testBit p = true ↔ _
    rw [Nat.testBit_or, Bool.or_eq_true, rowM_bit k, Nat.testBit_two_pow, decide_eq_true_iff]
    constructor
    · rintro ((h | ⟨b, hb, e⟩) | h)
      · exact .inl h
      · exact .inr ⟨b, by omega, e⟩
      · exact .inr ⟨k, by omega, h.symm⟩
    · rintro (h | ⟨b, hb, e⟩)
      · exact .inl (.inl h)
      · by_cases hk : b = k
        · subst hk; exact .inr e.symm
        · exact .inl (.inr ⟨b, by omega, e⟩)
theorem allM_bit {is js : List Int} {p : Nat} : ∀ n, (allM is js n).testBit p = true ↔ ∃ a b, a < n ∧ b < js.length ∧ p = at_ is a * 4 + at_ js b
  | 0 => ⟨fun h => by simp [allM] at h, fun ⟨a, b, ha, _⟩ => absurd ha (Nat.not_lt_zero _)⟩
  | n + 1 => by
    show (rowM (allM is js n) (at_ is n) js js.length).testBit p = true ↔ _
    rw [rowM_bit, allM_bit n]
    constructor
    · rintro (⟨a, b, ha, hb, e⟩ | ⟨b, hb, e⟩)
      · exact ⟨a, b, by omega, hb, e⟩
      · exact ⟨n, b, by omega, hb, e⟩
    · rintro ⟨a, b, ha, hb, e⟩
      by_cases hk : a = n
      · subst hk; exact .inr ⟨b, hb, e⟩
      · exact .inl ⟨a, b, by omega, hb, e⟩
theorem rowM_lt {m i : Nat} {js : List Int} (hm : m < 2 ^ 16) (hi : i < 4) : ∀ k, (∀ b, b < k → at_ js b < 4) → rowM m i js k < 2 ^ 16
  | 0, _ => hm
  | k + 1, h => Nat.or_lt_two_pow (rowM_lt hm hi k (fun b hb => h b (by omega))) (Nat.pow_lt_pow_right (by omega) (by have := h k (by omega); omega))
theorem allM_lt {is js : List Int} (hj : ∀ b, b < js.length → at_ js b < 4) : ∀ n, (∀ a, a < n → at_ is a < 4) → allM is js n < 2 ^ 16
  | 0, _ => by show 0 < 2 ^ 16; decide
  | n + 1, h => rowM_lt (allM_lt hj n (fun a ha => h a (by omega))) (h n (by omega)) _ hj
theorem or_u {a c : Nat} (ha : a < 2 ^ 16) (hc : c < 2 ^ 16) : bits .or .u64 (a : Int) (c : Int) = ((a ||| c : Nat) : Int) := (bits_nat .u64 16 (by decide) w16 a c ha hc).2

/-- a rectangle's numbers are all the bit -/
def okR (T : List (List Int)) (bt : Int) (is js : List Int) : Prop := ∀ a b, a < is.length → b < js.length → nn T (at_ is a) (at_ js b) = bt
open Classical in
noncomputable def rowC (T : List (List Int)) (bt : Int) (d : Nat) (es : List Int) : Nat → List Nat
  | 0 => []
  | k + 1 => rowC T bt d es k ++ (if okR T bt (pls d 4) (pls (at_ es k) 4) then [allM (pls d 4) (pls (at_ es k) 4) (pls d 4).length] else [])
noncomputable def allC (T : List (List Int)) (bt : Int) (ds es : List Int) : Nat → List Nat
  | 0 => []
  | a + 1 => allC T bt ds es a ++ rowC T bt (at_ ds a) es es.length
theorem rowC_yes {T : List (List Int)} {bt : Int} {d : Nat} {es : List Int} {k : Nat} (h : okR T bt (pls d 4) (pls (at_ es k) 4)) : rowC T bt d es (k + 1) = rowC T bt d es k ++ [allM (pls d 4) (pls (at_ es k) 4) (pls d 4).length] := by
  show _ ++ _ = _; rw [if_pos h]
theorem rowC_no {T : List (List Int)} {bt : Int} {d : Nat} {es : List Int} {k : Nat} (h : ¬ okR T bt (pls d 4) (pls (at_ es k) 4)) : rowC T bt d es (k + 1) = rowC T bt d es k := by
  show _ ++ _ = _; rw [if_neg h, List.append_nil]
theorem rowC_len {T : List (List Int)} {bt : Int} {d : Nat} {es : List Int} : ∀ k, (rowC T bt d es k).length ≤ k
  | 0 => Nat.le_refl _
  | k + 1 => by
    have := rowC_len (T := T) (bt := bt) (d := d) (es := es) k
    by_cases h : okR T bt (pls d 4) (pls (at_ es k) 4)
    · rw [rowC_yes h, List.length_append]; simp; omega
    · rw [rowC_no h]; omega
theorem allC_len {T : List (List Int)} {bt : Int} {ds es : List Int} (he : es.length ≤ 15) : ∀ a, (allC T bt ds es a).length ≤ a * 15
  | 0 => Nat.le_refl _
  | a + 1 => by
    have h1 := allC_len (T := T) (bt := bt) (ds := ds) he a
    have h2 := rowC_len (T := T) (bt := bt) (d := at_ ds a) (es := es) es.length
    show (allC T bt ds es a ++ rowC T bt (at_ ds a) es es.length).length ≤ _
    rw [List.length_append]; omega
theorem pls_all {d : Nat} : ∀ k a, k ≤ 4 → a < (pls d k).length → ∃ i : Nat, i < k ∧ (pls d k)[a]? = some ((i : Nat) : Int) ∧ bit 4 d i = 1 := by
  intro k a hk ha
  unfold pls at ha ⊢
  rw [List.length_map] at ha
  have hm := List.getElem_mem ha
  generalize hx : (List.filter (fun i => decide (bit 4 d i = 1)) (List.range k))[a] = x at hm
  rw [List.mem_filter, List.mem_range] at hm
  refine ⟨x, hm.1, ?_, by simpa using hm.2⟩
  rw [List.getElem?_map, List.getElem?_eq_getElem ha, hx]; rfl
theorem pls_at {d a : Nat} (ha : a < (pls d 4).length) : (pls d 4)[a] = ((at_ (pls d 4) a : Nat) : Int) ∧ at_ (pls d 4) a < 4 ∧ bit 4 d (at_ (pls d 4) a) = 1 := by
  obtain ⟨i, hi, he, hb⟩ := pls_all 4 a (Nat.le_refl _) ha
  have e : (pls d 4)[a] = (i : Int) := by rw [List.getElem?_eq_getElem ha] at he; exact Option.some.inj he
  have e2 : at_ (pls d 4) a = i := by unfold at_; rw [List.getD_eq_getElem?_getD, he]; simp
  rw [e2]; exact ⟨e, hi, hb⟩
theorem chs_at {d a : Nat} (ha : a < (chs d d).length) : (chs d d)[a] = ((at_ (chs d d) a : Nat) : Int) ∧ 1 ≤ at_ (chs d d) a ∧ at_ (chs d d) a ≤ d ∧ andNot (at_ (chs d d) a) d = 0 := by
  have hm : (chs d d)[a] ∈ chs d d := List.getElem_mem ha
  have hm2 := hm
  unfold chs at hm2
  rw [List.mem_map] at hm2
  obtain ⟨c, hc, he⟩ := hm2
  rw [List.mem_filter, List.mem_map] at hc
  obtain ⟨⟨j, hj, hjc⟩, hz⟩ := hc
  rw [List.mem_range] at hj
  have he : ((c : Nat) : Int) = (chs d d)[a] := he
  have e2 : at_ (chs d d) a = c := by unfold at_; rw [List.getD_eq_getElem?_getD, List.getElem?_eq_getElem ha, ← he]; simp
  rw [e2]
  exact ⟨he.symm, by omega, by omega, by simpa using hz⟩
theorem in_first : ∀ s : Fin 5, ∀ c : Fin 16, andNot c.val (fp s.val) = 0 → ∀ i : Fin 4, bit 4 c.val i.val = 1 → i.val < s.val := by decide +kernel
theorem fp_le (s : Nat) (h : 1 ≤ s) (h4 : s ≤ 4) : fp s ≤ 15 := by
  obtain rfl | rfl | rfl | rfl : s = 1 ∨ s = 2 ∨ s = 3 ∨ s = 4 := by omega
  all_goals decide
/-- the places of a choice lie below the size -/
theorem place_lt {s a b : Nat} (h1 : 1 ≤ s) (h4 : s ≤ 4) (ha : a < (chs (fp s) (fp s)).length) (hb : b < (pls (at_ (chs (fp s) (fp s)) a) 4).length) : at_ (pls (at_ (chs (fp s) (fp s)) a) 4) b < s := by
  obtain ⟨_, _, c3, c4⟩ := chs_at ha
  obtain ⟨_, p2, p3⟩ := pls_at hb
  have := fp_le s h1 h4
  exact in_first ⟨s, by omega⟩ ⟨at_ (chs (fp s) (fp s)) a, by omega⟩ c4 ⟨_, p2⟩ p3
end Go.Proofs.Ytimfnhejiiagmaa.cvn
