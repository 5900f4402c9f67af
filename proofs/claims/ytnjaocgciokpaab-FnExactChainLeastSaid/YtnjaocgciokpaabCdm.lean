/- Codes, as mathematics: letters of a string, counts, guesses, scores, totals. -/
import Derived.Test.YtnjaocgciokpaabPlay
import Derived.Test.YtnjaocgciokpaabPlays
import Derived.Test.YtnjaocgciokpaabMaxi
namespace Go.Proofs.Ytnjaocgciokpaab.cdm
open Go.RowKit Go.Deep Go.Proofs.Ytnjaocgciokpaab.base
open Go.Proofs.Ytnjaocgciokpaab.play (within withinB withinB_yes withinB_no)

/-- the bit i of the string with the place k -/
def lt (k i : Nat) : Nat := k / 2 ^ i % 2
theorem lt_le (k i : Nat) : lt k i ≤ 1 := by unfold lt; omega
theorem lt_cases (k i : Nat) : lt k i = 0 ∨ lt k i = 1 := by have := lt_le k i; omega
theorem and_lt (k i : Nat) (hk : k < 64) : bits .and .i64 ((k : Int) / 2 ^ i) 1 = ((lt k i : Nat) : Int) := by
  have e : ((k : Int) / 2 ^ i) = ((k / 2 ^ i : Nat) : Int) := by simp
  have hl : k / 2 ^ i < 64 := Nat.lt_of_le_of_lt (Nat.div_le_self _ _) hk
  rw [e, plays.and_small ⟨_, hl⟩]
  rfl

def hit (cs : List Int) (m : Int) (i v k : Nat) : Prop := cs.getD k 2 = m ∧ lt k i = v
instance (cs : List Int) (m : Int) (i v k : Nat) : Decidable (hit cs m i v k) := by unfold hit; exact inferInstance
def cnt (cs : List Int) (m : Int) (i v : Nat) : Nat → Nat
  | 0 => 0
  | k + 1 => cnt cs m i v k + (if hit cs m i v k then 1 else 0)
theorem cnt_yes {cs : List Int} {m : Int} {i v k : Nat} (h : hit cs m i v k) : cnt cs m i v (k + 1) = cnt cs m i v k + 1 := by show _ + _ = _; rw [if_pos h]
theorem cnt_no {cs : List Int} {m : Int} {i v k : Nat} (h : ¬ hit cs m i v k) : cnt cs m i v (k + 1) = cnt cs m i v k := by show _ + _ = _; rw [if_neg h]; rfl
theorem cnt_le (cs : List Int) (m : Int) (i v : Nat) : ∀ k, cnt cs m i v k ≤ k
  | 0 => Nat.le_refl _
  | k + 1 => by
    have := cnt_le cs m i v k
    show _ + _ ≤ _
    split <;> omega
def c (cs : List Int) (m : Int) (i v : Nat) : Nat := cnt cs m i v cs.length
/-- the guess of the bit i for a message -/
def g (cs : List Int) (m : Int) (i : Nat) : Nat := if c cs m i 0 < c cs m i 1 then 1 else 0
theorem g_le (cs : List Int) (m : Int) (i : Nat) : g cs m i ≤ 1 := by unfold g; split <;> omega
theorem g_yes {cs : List Int} {m : Int} {i : Nat} (h : c cs m i 0 < c cs m i 1) : g cs m i = 1 := if_pos h
theorem g_no {cs : List Int} {m : Int} {i : Nat} (h : ¬ c cs m i 0 < c cs m i 1) : g cs m i = 0 := if_neg h
def mx (a b : Nat) : Nat := if a < b then b else a
theorem c_g (cs : List Int) (m : Int) (i : Nat) : c cs m i (g cs m i) = mx (c cs m i 0) (c cs m i 1) := by
  unfold mx
  by_cases h : c cs m i 0 < c cs m i 1
  · rw [g_yes h, if_pos h]
  · rw [g_no h, if_neg h]
/-- how many of the first k strings are guessed rightly -/
def rg (cs : List Int) (i : Nat) : Nat → Nat
  | 0 => 0
  | k + 1 => rg cs i k + (if g cs (cs.getD k 2) i = lt k i then 1 else 0)
theorem rg_yes {cs : List Int} {i k : Nat} (h : g cs (cs.getD k 2) i = lt k i) : rg cs i (k + 1) = rg cs i k + 1 := by show _ + _ = _; rw [if_pos h]
theorem rg_no {cs : List Int} {i k : Nat} (h : ¬ g cs (cs.getD k 2) i = lt k i) : rg cs i (k + 1) = rg cs i k := by show _ + _ = _; rw [if_neg h]; rfl
theorem rg_le (cs : List Int) (i : Nat) : ∀ k, rg cs i k ≤ k
  | 0 => Nat.le_refl _
  | k + 1 => by
    have := rg_le cs i k
    show _ + _ ≤ _
    split <;> omega
theorem rg_eq (cs : List Int) (i : Nat) : ∀ k, (∀ j, j < k → cs.getD j 2 = 0 ∨ cs.getD j 2 = 1) → rg cs i k = cnt cs 0 i (g cs 0 i) k + cnt cs 1 i (g cs 1 i) k
  | 0, _ => rfl
  | k + 1, h => by
    have ih := rg_eq cs i k (fun j hj => h j (by omega))
    show rg cs i k + _ = (cnt cs 0 i (g cs 0 i) k + _) + (cnt cs 1 i (g cs 1 i) k + _)
    rw [ih]
    rcases h k (by omega) with e | e
    · have h1 : ¬ hit cs 1 i (g cs 1 i) k := fun h => by have := h.1; omega
      rw [if_neg h1, e]
      by_cases q : g cs 0 i = lt k i
      · rw [if_pos q, if_pos (show hit cs 0 i (g cs 0 i) k from ⟨e, q.symm⟩)]; omega
      · rw [if_neg q, if_neg (show ¬ hit cs 0 i (g cs 0 i) k from fun h => q h.2.symm)]; omega
    · have h1 : ¬ hit cs 0 i (g cs 0 i) k := fun h => by have := h.1; omega
      rw [if_neg h1, e]
      by_cases q : g cs 1 i = lt k i
      · rw [if_pos q, if_pos (show hit cs 1 i (g cs 1 i) k from ⟨e, q.symm⟩)]; omega
      · rw [if_neg q, if_neg (show ¬ hit cs 1 i (g cs 1 i) k from fun h => q h.2.symm)]; omega

/-- the score of the bit i -/
def scN (cs : List Int) (i : Nat) : Nat := mx (c cs 0 i 0) (c cs 0 i 1) + mx (c cs 1 i 0) (c cs 1 i 1)
def sc (cs : List Int) (i : Nat) : Int := ((scN cs i : Nat) : Int)
theorem scN_rg {cs : List Int} {i : Nat} (h : ∀ j, j < cs.length → cs.getD j 2 = 0 ∨ cs.getD j 2 = 1) : rg cs i cs.length = scN cs i := by
  rw [rg_eq cs i _ h]
  show c cs 0 i (g cs 0 i) + c cs 1 i (g cs 1 i) = _
  rw [c_g, c_g]
  rfl
theorem c_le (cs : List Int) (m : Int) (i v : Nat) : c cs m i v ≤ cs.length := cnt_le _ _ _ _ _
theorem mx_le {a b n : Nat} (h : a ≤ n) (h' : b ≤ n) : mx a b ≤ n := by unfold mx; split <;> assumption
theorem scN_le (cs : List Int) (i : Nat) : scN cs i ≤ 2 * cs.length := by
  have h1 := mx_le (c_le cs 0 i 0) (c_le cs 0 i 1)
  have h2 := mx_le (c_le cs 1 i 0) (c_le cs 1 i 1)
  unfold scN; omega

/-- the first k scores -/
def scs (cs : List Int) (k : Nat) : List Int := (List.range k).map (sc cs)
theorem scs_succ (cs : List Int) (k : Nat) : scs cs (k + 1) = scs cs k ++ [sc cs k] := by simp [scs, List.range_succ]
theorem len_scs (cs : List Int) (k : Nat) : (scs cs k).length = k := by simp [scs]
theorem scs_at (cs : List Int) {n k : Nat} (h : k < (scs cs n).length) : (scs cs n)[k] = sc cs k := by simp [scs]
/-- the first k pairs of guesses -/
def gs (cs : List Int) (k : Nat) : List (Int × Int) := (List.range k).map fun i => (((g cs 0 i : Nat) : Int), ((g cs 1 i : Nat) : Int))
theorem gs_succ (cs : List Int) (k : Nat) : gs cs (k + 1) = gs cs k ++ [(((g cs 0 k : Nat) : Int), ((g cs 1 k : Nat) : Int))] := by simp [gs, List.range_succ]
theorem len_gs (cs : List Int) (k : Nat) : (gs cs k).length = k := by simp [gs]
/-- the sum of the first k scores -/
def tot (cs : List Int) : Nat → Int
  | 0 => 0
  | k + 1 => tot cs k + sc cs k
theorem tot_bound (cs : List Int) (h : cs.length ≤ 8) : ∀ k, 0 ≤ tot cs k ∧ tot cs k ≤ 16 * k
  | 0 => ⟨Int.le_refl _, by simp [tot]⟩
  | k + 1 => by
    have ⟨h1, h2⟩ := tot_bound cs h k
    have h3 := scN_le cs k
    show 0 ≤ tot cs k + sc cs k ∧ tot cs k + sc cs k ≤ _
    unfold sc
    push_cast
    omega

def okCode (n : Int) (cs : List Int) : Prop := (1 ≤ n ∧ n ≤ 3) ∧ within (2 ^ n.toNat) 0 1 cs
open Classical in
noncomputable def codeB (n : Int) (cs : List Int) : Bool := if okCode n cs then true else false
theorem codeB_yes {n : Int} {cs : List Int} (h : okCode n cs) : codeB n cs = true := if_pos h
theorem codeB_no {n : Int} {cs : List Int} (h : ¬ okCode n cs) : codeB n cs = false := if_neg h
theorem ok_len {n : Int} {cs : List Int} (h : okCode n cs) : cs.length = 2 ^ n.toNat := by
  have := h.2.1
  have e : ((2 : Int) ^ n.toNat) = ((2 ^ n.toNat : Nat) : Int) := by simp
  rw [e] at this
  exact_mod_cast this
theorem ok_len8 {n : Int} {cs : List Int} (h : okCode n cs) : cs.length ≤ 8 := by
  rw [ok_len h]
  have := h.1.2
  exact Nat.le_trans (Nat.pow_le_pow_right (by omega) (show n.toNat ≤ 3 by omega)) (by decide)
theorem ok_at {n : Int} {cs : List Int} (h : okCode n cs) {k : Nat} (hk : k < cs.length) : cs[k] = 0 ∨ cs[k] = 1 := by have := h.2.2 k hk; omega
theorem ok_get {n : Int} {cs : List Int} (h : okCode n cs) : ∀ j, j < cs.length → cs.getD j 2 = 0 ∨ cs.getD j 2 = 1 := fun j hj => by
  have := ok_at h hj
  simpa [List.getD, hj] using this
theorem three {n : Int} (h : 1 ≤ n ∧ n ≤ 3) : n = 1 ∨ n = 2 ∨ n = 3 := by omega

end Go.Proofs.Ytnjaocgciokpaab.cdm
