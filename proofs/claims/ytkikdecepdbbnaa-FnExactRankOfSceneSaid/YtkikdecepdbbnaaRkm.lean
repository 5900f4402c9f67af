/- The rank of numbers under addition without carry: spans, triangular lists, reduction. It speaks of no program. -/
import Derived.Test.YtkikdecepdbbnaaScr
namespace Go.Proofs.Ytkikdecepdbbnaa.rkm
open Go.RowKit Go.Deep Go.Proofs.Ytkikdecepdbbnaa.base
open Go.Proofs.Ytkikdecepdbbnaa.scm

/-- all sums of some of them -/
def sp : List Nat → List Nat
  | [] => [0]
  | a :: T => sp T ++ (sp T).map (fun x => x ^^^ a)
theorem len_sp : ∀ T, (sp T).length = 2 ^ T.length
  | [] => rfl
  | a :: T => by simp only [sp, List.length_append, List.length_map, len_sp T, List.length_cons, Nat.pow_succ]; omega
theorem mem_cons {a x : Nat} {T : List Nat} : x ∈ sp (a :: T) ↔ x ∈ sp T ∨ ∃ y ∈ sp T, y ^^^ a = x := by simp only [sp, List.mem_append, List.mem_map]
theorem zero_sp : ∀ T, 0 ∈ sp T
  | [] => by simp [sp]
  | a :: T => mem_cons.2 (.inl (zero_sp T))
theorem xor_sp : ∀ (T : List Nat) {x y : Nat}, x ∈ sp T → y ∈ sp T → x ^^^ y ∈ sp T
  | [], x, y, hx, hy => by simp [sp] at hx hy; subst hx; subst hy; simp [sp]
  | a :: T, x, y, hx, hy => by
    rcases mem_cons.1 hx with h1 | ⟨x', h1, rfl⟩ <;> rcases mem_cons.1 hy with h2 | ⟨y', h2, rfl⟩
    · exact mem_cons.2 (.inl (xor_sp T h1 h2))
    · exact mem_cons.2 (.inr ⟨x ^^^ y', xor_sp T h1 h2, by rw [Nat.xor_assoc]⟩)
    · exact mem_cons.2 (.inr ⟨x' ^^^ y, xor_sp T h1 h2, by rw [Nat.xor_assoc, Nat.xor_assoc, Nat.xor_comm y a]⟩)
    · have e : (x' ^^^ a) ^^^ (y' ^^^ a) = x' ^^^ y' := by
        rw [Nat.xor_assoc, Nat.xor_comm y' a, ← Nat.xor_assoc a a y', Nat.xor_self, Nat.zero_xor]
      rw [e]; exact mem_cons.2 (.inl (xor_sp T h1 h2))
theorem sub_sp : ∀ (T U : List Nat), (∀ a ∈ T, a ∈ sp U) → ∀ x ∈ sp T, x ∈ sp U
  | [], U, _, x, hx => by simp [sp] at hx; subst hx; exact zero_sp U
  | a :: T, U, h, x, hx => by
    have ih := sub_sp T U (fun b hb => h b (List.mem_cons_of_mem _ hb))
    rcases mem_cons.1 hx with h1 | ⟨x', h1, rfl⟩
    · exact ih x h1
    · exact xor_sp U (ih x' h1) (h a List.mem_cons_self)
theorem mem_sp : ∀ (T : List Nat) {a : Nat}, a ∈ T → a ∈ sp T
  | b :: T, a, h => by
    rcases List.mem_cons.1 h with rfl | h
    · exact mem_cons.2 (.inr ⟨0, zero_sp T, Nat.zero_xor _⟩)
    · exact mem_cons.2 (.inl (mem_sp T h))
theorem bit_sp {p : Nat} : ∀ (T : List Nat), (∀ b ∈ T, b.testBit p = false) → ∀ x ∈ sp T, x.testBit p = false
  | [], _, x, hx => by simp [sp] at hx; subst hx; simp
  | a :: T, h, x, hx => by
    have ih := bit_sp T (fun b hb => h b (List.mem_cons_of_mem _ hb))
    rcases mem_cons.1 hx with h1 | ⟨x', h1, rfl⟩
    · exact ih x h1
    · rw [Nat.testBit_xor, ih x' h1, h a List.mem_cons_self]; rfl
/-- each has a digit that those behind it haven't -/
def Tri : List Nat → Prop
  | [] => True
  | a :: T => (∃ p, a.testBit p = true ∧ ∀ b ∈ T, b.testBit p = false) ∧ Tri T
theorem xor_inj {x y a : Nat} (h : x ^^^ a = y ^^^ a) : x = y := by
  have := congrArg (fun z => z ^^^ a) h
  simpa [Nat.xor_assoc] using this
theorem nodup_map {a : Nat} : ∀ (L : List Nat), L.Nodup → (L.map (fun x => x ^^^ a)).Nodup
  | [], _ => by simp
  | x :: L, h => by
    have h1 := List.nodup_cons.1 h
    simp only [List.map_cons]
    refine List.nodup_cons.2 ⟨fun hm => ?_, nodup_map L h1.2⟩
    obtain ⟨y, hy, e⟩ := List.mem_map.1 hm
    exact h1.1 (xor_inj e ▸ hy)
theorem nodup_app {L M : List Nat} (hL : L.Nodup) (hM : M.Nodup) (hd : ∀ x ∈ L, ¬ x ∈ M) : (L ++ M).Nodup := by
  induction L with
  | nil => simpa using hM
  | cons x L ih =>
    have h1 := List.nodup_cons.1 hL
    refine List.nodup_cons.2 ⟨fun hm => ?_, ih h1.2 (fun y hy => hd y (List.mem_cons_of_mem _ hy))⟩
    rcases List.mem_append.1 hm with hm | hm
    · exact h1.1 hm
    · exact hd x List.mem_cons_self hm
theorem nodup_sp : ∀ T, Tri T → (sp T).Nodup
  | [], _ => by simp [sp]
  | a :: T, h => by
    obtain ⟨⟨p, hp, hb⟩, ht⟩ := h
    have ih := nodup_sp T ht
    refine nodup_app ih (nodup_map _ ih) (fun x hx hm => ?_)
    obtain ⟨y, hy, rfl⟩ := List.mem_map.1 hm
    have h1 := bit_sp T hb _ hx
    rw [Nat.testBit_xor, bit_sp T hb y hy, hp] at h1
    cases h1
theorem len_sub : ∀ (L M : List Nat), L.Nodup → (∀ x ∈ L, x ∈ M) → L.length ≤ M.length
  | [], _, _, _ => by simp
  | x :: L, M, h, hs => by
    have h1 := List.nodup_cons.1 h
    have ih := len_sub L (M.erase x) h1.2 (fun y hy => (List.mem_erase_of_ne (fun e => h1.1 (by subst e; exact hy))).2 (hs y (List.mem_cons_of_mem _ hy)))
    have hx := hs x List.mem_cons_self
    have hl := List.length_erase_of_mem hx
    have : 0 < M.length := List.length_pos_of_mem hx
    simp only [List.length_cons]
    omega
theorem le_rank {T U : List Nat} (hT : Tri T) (h : ∀ a ∈ T, a ∈ sp U) : T.length ≤ U.length := by
  have h1 := len_sub _ _ (nodup_sp T hT) (sub_sp T U h)
  rw [len_sp, len_sp] at h1
  exact (Nat.pow_le_pow_iff_right (by omega)).1 h1
theorem same_rank {T U R : List Nat} (hT : Tri T) (hU : Tri U) (h1 : ∀ a ∈ T, a ∈ sp R) (h2 : ∀ a ∈ R, a ∈ sp T) (h3 : ∀ a ∈ U, a ∈ sp R) (h4 : ∀ a ∈ R, a ∈ sp U) : T.length = U.length :=
  Nat.le_antisymm (le_rank hT (fun a ha => sub_sp R U h4 a (h1 a ha))) (le_rank hU (fun a ha => sub_sp R T h2 a (h3 a ha)))

/-! ### reduction -/
theorem top_bit {b : Nat} (h : b ≠ 0) : b.testBit b.log2 = true := by
  have h1 := Nat.log2_self_le h
  have h2 := Nat.lt_log2_self (n := b)
  rw [Nat.testBit_eq_decide_div_mod_eq]
  have h3 : b / 2 ^ b.log2 = 1 := by
    rw [Nat.pow_succ] at h2
    exact Nat.div_eq_of_lt_le (by omega) (by omega)
  rw [h3]; rfl
theorem top_hi {b j : Nat} (h : b.log2 < j) : b.testBit j = false := by
  have h2 := Nat.lt_log2_self (n := b)
  exact Nat.testBit_lt_two_pow (Nat.lt_of_lt_of_le h2 (Nat.pow_le_pow_right (by omega) (by omega)))
theorem lt_bits {x y i : Nat} (hx : x.testBit i = false) (hy : y.testBit i = true) (h : ∀ j, i < j → x.testBit j = y.testBit j) : x < y := by
  have hq : x / 2 ^ (i + 1) = y / 2 ^ (i + 1) := Nat.eq_of_testBit_eq (fun j => by rw [Nat.testBit_div_two_pow, Nat.testBit_div_two_pow]; exact h _ (by omega))
  rw [Nat.testBit_eq_decide_div_mod_eq] at hx hy
  have dx : x / 2 ^ i % 2 ≠ 1 := by simpa using hx
  have dy : y / 2 ^ i % 2 = 1 := by simpa using hy
  rw [Nat.pow_succ, ← Nat.div_div_eq_div_mul, ← Nat.div_div_eq_div_mul] at hq
  rcases Nat.lt_or_ge x y with g | g
  · exact g
  · have := Nat.div_le_div_right (c := 2 ^ i) g
    omega
def stp (r b : Nat) : Nat := if r.testBit b.log2 = true then r ^^^ b else r
theorem min_stp {r b : Nat} (h : b ≠ 0) : (if r ≤ r ^^^ b then r else r ^^^ b) = stp r b := by
  unfold stp
  have ht := top_bit h
  cases e : r.testBit b.log2 with
  | true =>
    have hlt : r ^^^ b < r := lt_bits (i := b.log2) (by rw [Nat.testBit_xor, e, ht]; rfl) e (fun j hj => by rw [Nat.testBit_xor, top_hi hj]; simp)
    rw [if_neg (by omega), if_pos rfl]
  | false =>
    have hlt : r < r ^^^ b := lt_bits (i := b.log2) e (by rw [Nat.testBit_xor, e, ht]; rfl) (fun j hj => by rw [Nat.testBit_xor, top_hi hj]; simp)
    rw [if_pos (by omega), if_neg (by simp)]
theorem stp_bit {r b : Nat} (h : b ≠ 0) : (stp r b).testBit b.log2 = false := by
  unfold stp
  cases e : r.testBit b.log2 with
  | true => rw [if_pos rfl, Nat.testBit_xor, e, top_bit h]; rfl
  | false => rw [if_neg (by simp)]; exact e
def red : List Nat → Nat → Nat
  | [], r => r
  | b :: T, r => red T (stp r b)
theorem red_snoc (b : Nat) : ∀ (T : List Nat) (r : Nat), red (T ++ [b]) r = stp (red T r) b
  | [], r => rfl
  | c :: T, r => by simp only [List.cons_append, red, red_snoc b T]
theorem red_succ {T : List Nat} {j : Nat} (h : j < T.length) (r : Nat) : red (T.take (j + 1)) r = stp (red (T.take j) r) T[j] := by
  rw [List.take_succ_eq_append_getElem h, red_snoc]
/-- none is 0, and those behind have not its greatest digit -/
def TriL : List Nat → Prop
  | [] => True
  | a :: T => a ≠ 0 ∧ (∀ b ∈ T, b.testBit a.log2 = false) ∧ TriL T
theorem TriL.tri : ∀ {T : List Nat}, TriL T → Tri T
  | [], _ => trivial
  | _ :: _, h => ⟨⟨_, top_bit h.1, h.2.1⟩, h.2.2.tri⟩
theorem TriL.ne : ∀ {T : List Nat}, TriL T → ∀ b ∈ T, b ≠ 0
  | _ :: _, h, b, hb => by
    rcases List.mem_cons.1 hb with rfl | hb
    · exact h.1
    · exact h.2.2.ne b hb
theorem TriL.snoc {r : Nat} : ∀ {T : List Nat}, TriL T → r ≠ 0 → (∀ b ∈ T, r.testBit b.log2 = false) → TriL (T ++ [r])
  | [], _, h0, _ => ⟨h0, fun _ hb => by simp at hb, trivial⟩
  | a :: T, h, h0, hb => ⟨h.1, fun b hm => by
      rcases List.mem_append.1 hm with hm | hm
      · exact h.2.1 b hm
      · simp at hm; subst hm; exact hb a List.mem_cons_self, h.2.2.snoc h0 (fun b hm => hb b (List.mem_cons_of_mem _ hm))⟩
theorem red_keep {p : Nat} : ∀ (T : List Nat) (r : Nat), (∀ c ∈ T, c.testBit p = false) → r.testBit p = false → (red T r).testBit p = false
  | [], _, _, hr => hr
  | b :: T, r, h, hr => red_keep T _ (fun c hc => h c (List.mem_cons_of_mem _ hc)) (by
    unfold stp
    split
    · rw [Nat.testBit_xor, hr, h b List.mem_cons_self]; rfl
    · exact hr)
theorem red_bits : ∀ (T : List Nat) (r : Nat), TriL T → ∀ b ∈ T, (red T r).testBit b.log2 = false
  | a :: T, r, h, b, hb => by
    rcases List.mem_cons.1 hb with rfl | hb
    · exact red_keep T _ h.2.1 (stp_bit h.1)
    · exact red_bits T _ h.2.2 b hb
theorem red_span : ∀ (T : List Nat) (r : Nat), r ^^^ red T r ∈ sp T
  | [], r => by simp [red, sp]
  | b :: T, r => by
    have ih := red_span T (stp r b)
    have h1 : stp r b ^^^ red T (stp r b) ∈ sp (b :: T) := mem_cons.2 (.inl ih)
    have h2 : r ^^^ stp r b ∈ sp (b :: T) := by
      unfold stp
      split
      · rw [← Nat.xor_assoc, Nat.xor_self, Nat.zero_xor]; exact mem_sp _ List.mem_cons_self
      · rw [Nat.xor_self]; exact zero_sp _
    have h3 := xor_sp (b :: T) h2 h1
    rw [Nat.xor_assoc, ← Nat.xor_assoc (stp r b), Nat.xor_self, Nat.zero_xor] at h3
    exact h3
theorem red_lt {m : Nat} : ∀ (T : List Nat) (r : Nat), (∀ b ∈ T, b < 2 ^ m) → r < 2 ^ m → red T r < 2 ^ m
  | [], _, _, hr => hr
  | b :: T, r, h, hr => red_lt T _ (fun c hc => h c (List.mem_cons_of_mem _ hc)) (by
    unfold stp
    split
    · exact Nat.xor_lt_two_pow hr (h b List.mem_cons_self)
    · exact hr)
theorem app_left {T U : List Nat} : ∀ x ∈ sp T, x ∈ sp (T ++ U) := sub_sp T _ (fun a ha => mem_sp _ (List.mem_append.2 (.inl ha)))

/-! ### the basis of a Scene's contexts -/
def mk (xss : List (List Int)) (k : Nat) : Nat := mask 0 (xss.getD k [])
def mks (xss : List (List Int)) (k : Nat) : List Nat := (List.range k).map (mk xss)
theorem mks_succ (xss : List (List Int)) (k : Nat) : mks xss (k + 1) = mks xss k ++ [mk xss k] := by simp [mks, List.range_succ]
def basis (xss : List (List Int)) : Nat → List Nat
  | 0 => []
  | k + 1 => if red (basis xss k) (mk xss k) = 0 then basis xss k else basis xss k ++ [red (basis xss k) (mk xss k)]
theorem basis_zero {xss : List (List Int)} {k : Nat} (h : red (basis xss k) (mk xss k) = 0) : basis xss (k + 1) = basis xss k := if_pos h
theorem basis_more {xss : List (List Int)} {k : Nat} (h : ¬ red (basis xss k) (mk xss k) = 0) : basis xss (k + 1) = basis xss k ++ [red (basis xss k) (mk xss k)] := if_neg h
theorem basis_ok (xss : List (List Int)) : ∀ k, TriL (basis xss k) ∧ (∀ a ∈ basis xss k, a ∈ sp (mks xss k)) ∧ (∀ a ∈ mks xss k, a ∈ sp (basis xss k)) ∧ (basis xss k).length ≤ k
  | 0 => ⟨trivial, fun _ h => by simp [basis] at h, fun _ h => by simp [mks] at h, Nat.le_refl _⟩
  | k + 1 => by
    obtain ⟨h1, h2, h3, h4⟩ := basis_ok xss k
    have hs := red_span (basis xss k) (mk xss k)
    rw [mks_succ]
    by_cases hz : red (basis xss k) (mk xss k) = 0
    · rw [basis_zero hz]
      rw [hz, Nat.xor_zero] at hs
      refine ⟨h1, fun a ha => app_left a (h2 a ha), fun a ha => ?_, by omega⟩
      rcases List.mem_append.1 ha with ha | ha
      · exact h3 a ha
      · simp at ha; subst ha; exact hs
    · rw [basis_more hz]
      have hbig : mk xss k ^^^ red (basis xss k) (mk xss k) ∈ sp (mks xss k ++ [mk xss k]) := app_left _ (sub_sp _ _ h2 _ hs)
      have hme : mk xss k ∈ sp (mks xss k ++ [mk xss k]) := mem_sp _ (List.mem_append.2 (.inr (by simp)))
      refine ⟨h1.snoc hz (red_bits _ _ h1), fun a ha => ?_, fun a ha => ?_, by simp; omega⟩
      · rcases List.mem_append.1 ha with ha | ha
        · exact app_left a (h2 a ha)
        · simp at ha; subst ha
          have := xor_sp _ hme hbig
          rwa [← Nat.xor_assoc, Nat.xor_self, Nat.zero_xor] at this
      · rcases List.mem_append.1 ha with ha | ha
        · exact app_left a (h3 a ha)
        · simp at ha; subst ha
          have hr : red (basis xss k) (mk xss k) ∈ sp (basis xss k ++ [red (basis xss k) (mk xss k)]) := mem_sp _ (List.mem_append.2 (.inr (by simp)))
          have := xor_sp _ hr (app_left _ hs)
          rw [Nat.xor_comm (mk xss k), ← Nat.xor_assoc, Nat.xor_self, Nat.zero_xor] at this
          exact this
open Classical in
noncomputable def rankR (x : Int) (xss : List (List Int)) (ws : List Int) : Int × Bool := if okScene x xss ws then (((basis xss xss.length).length : Int), true) else (0, false)
theorem rankR_yes {x : Int} {xss : List (List Int)} {ws : List Int} (h : okScene x xss ws) : rankR x xss ws = (((basis xss xss.length).length : Int), true) := if_pos h
theorem rankR_no {x : Int} {xss : List (List Int)} {ws : List Int} (h : ¬ okScene x xss ws) : rankR x xss ws = (0, false) := if_neg h

end Go.Proofs.Ytkikdecepdbbnaa.rkm
