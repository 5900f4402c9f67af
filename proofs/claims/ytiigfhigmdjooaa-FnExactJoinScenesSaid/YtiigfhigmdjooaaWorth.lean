/- The worth of a functional for a Box: the arithmetic, and what a functional is. -/
import Derived.Test.YtiigfhigmdjooaaRow
import Derived.Test.YtiigfhigmdjooaaPlay
namespace Go.Proofs.Ytiigfhigmdjooaa.worth
open Go.RowKit Go.Deep Go.Proofs.Ytiigfhigmdjooaa.base
open Go.Proofs.Ytiigfhigmdjooaa.val (okSizes okBox ret_b)
open Go.Proofs.Ytiigfhigmdjooaa.play (within)
open Go.Proofs.Ytiigfhigmdjooaa.row (nn)

def okFun (x y : Int) (fss : List (List Int)) : Prop := okSizes x y ∧ (fss.length : Int) = x * y ∧ ∀ k (h : k < fss.length), within 4 (-99) 99 fss[k]
open Classical in
noncomputable def funB (x y : Int) (fss : List (List Int)) : Bool := if okFun x y fss then true else false
theorem funB_yes {x y : Int} {fss : List (List Int)} (h : okFun x y fss) : funB x y fss = true := if_pos h
theorem funB_no {x y : Int} {fss : List (List Int)} (h : ¬ okFun x y fss) : funB x y fss = false := if_neg h

/-- the sum of the first numbers -/
def cum (g : Nat → Int) : Nat → Int
  | 0 => 0
  | n + 1 => cum g n + g n
theorem cum_bd {g : Nat → Int} {m : Int} (n : Nat) (h : ∀ t, t < n → -m ≤ g t ∧ g t ≤ m) : -(n * m) ≤ cum g n ∧ cum g n ≤ n * m := by
  induction n with
  | zero => simp [cum]
  | succ n ih =>
    have h1 := ih (fun t ht => h t (by omega))
    have h2 := h n (by omega)
    have e : ((n + 1 : Nat) : Int) * m = n * m + m := by rw [Int.natCast_add, Int.add_mul]; simp
    rw [e]
    unfold cum
    omega
theorem cum_congr {g g' : Nat → Int} (n : Nat) (h : ∀ t, t < n → g t = g' t) : cum g n = cum g' n := by
  induction n with
  | zero => rfl
  | succ n ih =>
    unfold cum
    rw [ih (fun t ht => h t (by omega)), h n (by omega)]

def term (fss xss : List (List Int)) (t : Nat) : Int := nn fss (t / 4) (t % 4) * nn xss (t / 4) (t % 4)
def worth (fss xss : List (List Int)) : Int := cum (term fss xss) (4 * xss.length)
theorem term_at (fss xss : List (List Int)) {r c : Nat} (h : c < 4) : term fss xss (4 * r + c) = nn fss r c * nn xss r c := by
  unfold term
  rw [show (4 * r + c) / 4 = r from by omega, show (4 * r + c) % 4 = c from by omega]
theorem cum_at (fss xss : List (List Int)) {r c : Nat} (h : c < 4) : cum (term fss xss) (4 * r + (c + 1)) = cum (term fss xss) (4 * r + c) + nn fss r c * nn xss r c := by
  rw [← term_at fss xss h]; rfl
theorem nn_row (fss : List (List Int)) {r c : Nat} (hr : r < fss.length) (hc : c < fss[r].length) : fss[r][c] = nn fss r c := by
  unfold nn
  rw [row.getD_lt hr]
  simp [List.getD, hc]
theorem fun_bd {x y : Int} {fss : List (List Int)} (h : okFun x y fss) {r c : Nat} (hr : r < fss.length) (hc : c < 4) : -99 ≤ nn fss r c ∧ nn fss r c ≤ 99 := by
  obtain ⟨h1, h2⟩ := h.2.2 r hr
  have hc' : c < fss[r].length := by omega
  rw [← nn_row fss hr hc']
  exact h2 c hc'
theorem mul_bd {a b : Int} (a0 : -99 ≤ a) (a1 : a ≤ 99) (b0 : 0 ≤ b) (b1 : b ≤ 1000) : -99000 ≤ a * b ∧ a * b ≤ 99000 := by
  have h1 : a * b ≤ 99 * b := Int.mul_le_mul_of_nonneg_right a1 b0
  have h2 : -99 * b ≤ a * b := Int.mul_le_mul_of_nonneg_right a0 b0
  omega
theorem term_bd {x y wh : Int} {fss xss : List (List Int)} (hf : okFun x y fss) (hb : okBox x y wh xss) (t : Nat) (ht : t < 4 * xss.length) : -99000 ≤ term fss xss t ∧ term fss xss t ≤ 99000 := by
  have e1 := hf.2.1
  have e2 := hb.2.2.1
  have f := fun_bd hf (r := t / 4) (c := t % 4) (by omega) (by omega)
  have g := row.nn_bd hb (r := t / 4) (k := t % 4) (by omega) (by omega)
  exact mul_bd f.1 f.2 g.1 g.2
/-- what a round of the sum needs -/
theorem step_bd {x y wh : Int} {fss xss : List (List Int)} (hf : okFun x y fss) (hb : okBox x y wh xss) {r c : Nat} (hr : r < xss.length) (hc : c < 4) :
    IntKind.i64.wrap (nn fss r c * nn xss r c) = nn fss r c * nn xss r c ∧ IntKind.i64.wrap (cum (term fss xss) (4 * r + c) + nn fss r c * nn xss r c) = cum (term fss xss) (4 * r + c) + nn fss r c * nn xss r c := by
  have e1 := hf.2.1
  have e2 := hb.2.2.1
  have hl := val.ok_len hb
  have f := fun_bd hf (r := r) (c := c) (by omega) hc
  have g := row.nn_bd hb hr hc
  have m := mul_bd f.1 f.2 g.1 g.2
  have s := cum_bd (g := term fss xss) (m := 99000) (4 * r + c) (fun t ht => term_bd hf hb t (by omega))
  exact ⟨IntWalk.i64_in _ (by omega), IntWalk.i64_in _ (by omega)⟩

/-- what WorthOf answers -/
def all (x y wh : Int) (fss xss : List (List Int)) : Prop := okBox x y wh xss ∧ okFun x y fss
open Classical in
noncomputable def res (x y wh : Int) (fss xss : List (List Int)) : Int × Bool := if all x y wh fss xss then (worth fss xss, true) else (0, false)
theorem res_yes {x y wh : Int} {fss xss : List (List Int)} (h : all x y wh fss xss) : res x y wh fss xss = (worth fss xss, true) := if_pos h
theorem res_no {x y wh : Int} {fss xss : List (List Int)} (h : ¬ all x y wh fss xss) : res x y wh fss xss = (0, false) := if_neg h

end Go.Proofs.Ytiigfhigmdjooaa.worth
