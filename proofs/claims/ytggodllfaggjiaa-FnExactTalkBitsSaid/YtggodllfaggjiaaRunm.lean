/- What is said in a Talk: the mathematics. It speaks of no function. -/
import Derived.Test.YtggodllfaggjiaaTkv
namespace Go.Proofs.Ytggodllfaggjiaa.runm
open Go.RowKit Go.Deep Go.Proofs.Ytggodllfaggjiaa.base
open Go.Proofs.Ytggodllfaggjiaa.tkv

variable (ss : List Int) (xss : List (List Int)) (ps : List (Int × Int))
/-- the bit of step s, and what follows it -/
def bitAt (i j s : Nat) : Int := (xss.getD s []).getD (if ss.getD s 0 = 1 then j else i) 0
def nextAt (s : Nat) (b : Int) : Int := if b = 1 then (ps.getD s (0, 0)).2 else (ps.getD s (0, 0)).1
/-- the bits that are said from step s on, and the end -/
def run (i j : Nat) : Nat → Int → List Int × Int
  | 0, z => ([], z)
  | f + 1, z => if 0 ≤ z then (bitAt ss xss i j z.toNat :: (run i j f (nextAt ps z.toNat (bitAt ss xss i j z.toNat))).1, (run i j f (nextAt ps z.toNat (bitAt ss xss i j z.toNat))).2) else ([], z)
def fin (i j : Nat) : List Int × Int := run ss xss ps i j ss.length 0
def good (n : Nat) (z : Int) : Prop := -2 ≤ z ∧ z < n
variable {ss xss ps}
theorem run_neg {i j f : Nat} {z : Int} (h : z < 0) : run ss xss ps i j f z = ([], z) := by
  cases f with
  | zero => rfl
  | succ f => unfold run; rw [if_neg (by omega)]
theorem run_succ {i j f s : Nat} : run ss xss ps i j (f + 1) (s : Int) = (bitAt ss xss i j s :: (run ss xss ps i j f (nextAt ps s (bitAt ss xss i j s))).1, (run ss xss ps i j f (nextAt ps s (bitAt ss xss i j s))).2) := by
  rw [run, if_pos (by omega)]; simp
theorem next_ok {R C : Nat} (h : okTalk ss xss ps R C) {s : Nat} (hs : s < ss.length) (b : Int) : good ss.length (nextAt ps s b) ∧ (0 ≤ nextAt ps s b → (s : Int) < nextAt ps s b) := by
  have hh := h.step s hs
  unfold nextAt good
  by_cases e : b = 1
  · rw [if_pos e]; have h1 := hh.two; exact ⟨⟨h1.1, by have := h1.2.1; omega⟩, h1.2.2⟩
  · rw [if_neg e]; have h1 := hh.one; exact ⟨⟨h1.1, by have := h1.2.1; omega⟩, h1.2.2⟩
/-- more rounds change nothing -/
theorem run_fuel {R C : Nat} (h : okTalk ss xss ps R C) (i j : Nat) : ∀ (f g : Nat) (z : Int), good ss.length z → (ss.length : Int) - z ≤ f → (ss.length : Int) - z ≤ g → run ss xss ps i j f z = run ss xss ps i j g z := by
  intro f
  induction f with
  | zero => intro g z hz h1 _; exact absurd hz.2 (by omega)
  | succ f ih =>
    intro g z hz h1 h2
    by_cases hn : z < 0
    · rw [run_neg hn, run_neg hn]
    · obtain ⟨s, rfl⟩ : ∃ s : Nat, z = s := ⟨z.toNat, by omega⟩
      have hs : s < ss.length := by have := hz.2; omega
      obtain ⟨g', rfl⟩ : ∃ g', g = g' + 1 := ⟨g - 1, by omega⟩
      obtain ⟨hg, hgt⟩ := next_ok h hs (bitAt ss xss i j s)
      rw [run_succ, run_succ]
      by_cases hm : nextAt ps s (bitAt ss xss i j s) < 0
      · rw [run_neg hm, run_neg hm]
      · have := hgt (by omega)
        rw [ih g' _ hg (by omega) (by omega)]
/-- from step z on, with as many rounds as there can be -/
def from_ (ss : List Int) (xss : List (List Int)) (ps : List (Int × Int)) (i j : Nat) (z : Int) : List Int × Int := run ss xss ps i j ss.length z
theorem fin_from (ss : List Int) (xss : List (List Int)) (ps : List (Int × Int)) (i j : Nat) : fin ss xss ps i j = from_ ss xss ps i j ((0 : Nat) : Int) := rfl
theorem from_neg {i j : Nat} {z : Int} (h : z < 0) : from_ ss xss ps i j z = ([], z) := run_neg h
theorem from_step {R C : Nat} (h : okTalk ss xss ps R C) {i j s : Nat} (hs : s < ss.length) :
    from_ ss xss ps i j (s : Int) = (bitAt ss xss i j s :: (from_ ss xss ps i j (nextAt ps s (bitAt ss xss i j s))).1, (from_ ss xss ps i j (nextAt ps s (bitAt ss xss i j s))).2) := by
  obtain ⟨hg, hgt⟩ := next_ok h hs (bitAt ss xss i j s)
  have hp : 0 < ss.length := h.ge
  have e : from_ ss xss ps i j (s : Int) = run ss xss ps i j (ss.length + 1) (s : Int) := run_fuel h i j _ _ _ ⟨by omega, by omega⟩ (by omega) (by omega)
  rw [e, run_succ]
  rfl
theorem run_len (i j : Nat) : ∀ (f : Nat) (z : Int), (run ss xss ps i j f z).1.length ≤ f := by
  intro f
  induction f with
  | zero => intro z; simp [run]
  | succ f ih =>
    intro z
    unfold run
    split
    · simp; exact ih _
    · simp
theorem fin_len {R C : Nat} (h : okTalk ss xss ps R C) (i j : Nat) : (fin ss xss ps i j).1.length ≤ 32 := Nat.le_trans (run_len i j _ _) h.le
theorem run_end {R C : Nat} (h : okTalk ss xss ps R C) (i j : Nat) : ∀ (f : Nat) (z : Int), good ss.length z → (ss.length : Int) - z ≤ f → (run ss xss ps i j f z).2 = -1 ∨ (run ss xss ps i j f z).2 = -2 := by
  intro f
  induction f with
  | zero => intro z hz h1; exact absurd hz.2 (by omega)
  | succ f ih =>
    intro z hz h1
    by_cases hn : z < 0
    · rw [run_neg hn]; have := hz.1; show z = -1 ∨ z = -2; omega
    · obtain ⟨s, rfl⟩ : ∃ s : Nat, z = s := ⟨z.toNat, by omega⟩
      have hs : s < ss.length := by have := hz.2; omega
      obtain ⟨hg, hgt⟩ := next_ok h hs (bitAt ss xss i j s)
      rw [run_succ]
      by_cases hm : nextAt ps s (bitAt ss xss i j s) < 0
      · rw [run_neg hm]; have := hg.1; show nextAt ps s (bitAt ss xss i j s) = -1 ∨ nextAt ps s (bitAt ss xss i j s) = -2; omega
      · have := hgt (by omega)
        exact ih _ hg (by omega)
theorem fin_end {R C : Nat} (h : okTalk ss xss ps R C) (i j : Nat) : (fin ss xss ps i j).2 = -1 ∨ (fin ss xss ps i j).2 = -2 := run_end h i j _ _ ⟨by omega, by have := h.ge; omega⟩ (by omega)

/-- where a loop over the steps stands: l is said, z comes next -/
structure At (ss : List Int) (xss : List (List Int)) (ps : List (Int × Int)) (i j : Nat) (l : List Int) (z : Int) : Prop where
  good : good ss.length z
  said : l ++ (from_ ss xss ps i j z).1 = (fin ss xss ps i j).1
  last : (from_ ss xss ps i j z).2 = (fin ss xss ps i j).2
theorem At.start {R C : Nat} (h : okTalk ss xss ps R C) (i j : Nat) : At ss xss ps i j [] ((0 : Nat) : Int) :=
  ⟨⟨by omega, by have := h.ge; omega⟩, rfl, rfl⟩
theorem At.step {R C : Nat} (h : okTalk ss xss ps R C) {i j s : Nat} {l : List Int} (hs : s < ss.length) (k : At ss xss ps i j l (s : Int)) {b z : Int} (hb : bitAt ss xss i j s = b) (hz : nextAt ps s b = z) : At ss xss ps i j (l ++ [b]) z := by
  subst hb; subst hz
  refine ⟨(next_ok h hs _).1, ?_, ?_⟩
  · rw [← k.said, from_step h hs]; simp
  · rw [← k.last, from_step h hs]
theorem At.stop {i j : Nat} {l : List Int} {z : Int} (k : At ss xss ps i j l z) (hz : z < 0) : l = (fin ss xss ps i j).1 ∧ z = (fin ss xss ps i j).2 := by
  have h1 := k.said
  have h2 := k.last
  rw [from_neg hz] at h1 h2
  exact ⟨by simpa using h1, h2⟩
theorem At.len {R C : Nat} (h : okTalk ss xss ps R C) {i j : Nat} {l : List Int} {z : Int} (k : At ss xss ps i j l z) : l.length ≤ 32 := by
  have := fin_len h i j
  rw [← k.said, List.length_append] at this
  omega
/-- the measure -/
def meas (n : Nat) (z : Int) : Nat := if z < 0 then 0 else n - z.toNat
theorem meas_lt {n s : Nat} {z : Int} (hs : s < n) (hz : good n z) (h : 0 ≤ z → (s : Int) < z) : meas n z < meas n (s : Int) := by
  unfold meas
  rw [if_neg (show ¬ (s : Int) < 0 by omega)]
  by_cases hn : z < 0
  · rw [if_pos hn]; simp; omega
  · rw [if_neg hn]
    have := h (by omega)
    have := hz.2
    omega
end Go.Proofs.Ytggodllfaggjiaa.runm
