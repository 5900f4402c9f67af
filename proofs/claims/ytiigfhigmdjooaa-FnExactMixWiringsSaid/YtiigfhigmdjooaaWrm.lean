/- Wirings: Rules that are valid, and what the rows of a wiring are. It speaks of no program. -/
import Derived.Test.YtiigfhigmdjooaaMake
import Derived.Test.YtiigfhigmdjooaaPlay
import Derived.Test.YtiigfhigmdjooaaTwoa
namespace Go.Proofs.Ytiigfhigmdjooaa.wrm
open Go.RowKit Go.Deep Go.Proofs.Ytiigfhigmdjooaa.base
open Go.Proofs.Ytiigfhigmdjooaa.val (okSizes okBox okRow)
open Go.Proofs.Ytiigfhigmdjooaa.row (nn nn_bd)
open Go.Proofs.Ytiigfhigmdjooaa.play (within withinB)
open Go.Proofs.Ytiigfhigmdjooaa.two (two)

/-- two lists of so many bits -/
def tab (n : Int) (xss : List (List Int)) : Prop := xss.length = 2 ∧ within n 0 1 (xss.getD 0 []) ∧ within n 0 1 (xss.getD 1 [])
open Classical in
noncomputable def tabB (n : Int) (xss : List (List Int)) : Bool := if tab n xss then true else false
theorem tabB_yes {n : Int} {xss : List (List Int)} (h : tab n xss) : tabB n xss = true := if_pos h
theorem tabB_no {n : Int} {xss : List (List Int)} (h : ¬ tab n xss) : tabB n xss = false := if_neg h
def rule (f : List Int) (k s : List (List Int)) : Prop := within 2 0 1 f ∧ tab 2 k ∧ tab 4 s
open Classical in
noncomputable def ruleB (f : List Int) (k s : List (List Int)) : Bool := if rule f k s then true else false
theorem ruleB_yes {f : List Int} {k s : List (List Int)} (h : rule f k s) : ruleB f k s = true := if_pos h
theorem ruleB_no {f : List Int} {k s : List (List Int)} (h : ¬ rule f k s) : ruleB f k s = false := if_neg h

def bit (xs : List Int) (k : Nat) : Nat := (xs.getD k 0).toNat
theorem get_bit {n : Nat} {xs : List Int} (h : within n 0 1 xs) {k : Nat} (hk : k < n) : ∃ hk' : k < xs.length, xs[k] = (bit xs k : Int) ∧ bit xs k ≤ 1 := by
  have hl : xs.length = n := by have := h.1; omega
  have hk' : k < xs.length := by omega
  have hb := h.2 k hk'
  refine ⟨hk', ?_, ?_⟩ <;> unfold bit <;> rw [List.getD_eq_getElem?_getD, List.getElem?_eq_getElem hk', Option.getD_some] <;> omega
theorem bit_le {n : Nat} {xs : List Int} (h : within n 0 1 xs) {k : Nat} (hk : k < n) : bit xs k ≤ 1 := (get_bit h hk).2.2
theorem tab_get {n : Nat} {xss : List (List Int)} (h : tab n xss) {i : Nat} (hi : i < 2) : ∃ hi' : i < xss.length, xss[i] = xss.getD i [] ∧ within n 0 1 (xss.getD i []) := by
  have hl := h.1
  have hi' : i < xss.length := by omega
  refine ⟨hi', by rw [List.getD_eq_getElem?_getD, List.getElem?_eq_getElem hi', Option.getD_some], ?_⟩
  obtain rfl | rfl : i = 0 ∨ i = 1 := by omega
  · exact h.2.1
  · exact h.2.2

/-- numbers gathered at their places -/
def acc (f : Nat → Int) (g : Nat → Nat) : Nat → Nat → Int
  | 0, _ => 0
  | t + 1, j => acc f g t j + if g t = j then f t else 0
def tot (f : Nat → Int) : Nat → Int
  | 0 => 0
  | t + 1 => tot f t + f t
theorem acc_sum (f : Nat → Int) (g : Nat → Nat) : ∀ n, (∀ t, t < n → g t < 4) → acc f g n 0 + acc f g n 1 + acc f g n 2 + acc f g n 3 = tot f n
  | 0, _ => rfl
  | n + 1, h => by
    have ih := acc_sum f g n (fun t ht => h t (by omega))
    have hg := h n (by omega)
    unfold acc tot
    obtain e | e | e | e : g n = 0 ∨ g n = 1 ∨ g n = 2 ∨ g n = 3 := by omega
    all_goals rw [e]; simp; omega
theorem acc_nonneg (f : Nat → Int) (g : Nat → Nat) (j : Nat) : ∀ n, (∀ t, t < n → 0 ≤ f t) → 0 ≤ acc f g n j
  | 0, _ => Int.le_refl _
  | n + 1, h => by
    have ih := acc_nonneg f g j n (fun t ht => h t (by omega))
    have := h n (by omega)
    unfold acc
    split <;> omega
theorem acc_le (f : Nat → Int) (g : Nat → Nat) (j : Nat) : ∀ n, (∀ t, t < n → 0 ≤ f t) → acc f g n j ≤ tot f n
  | 0, _ => Int.le_refl _
  | n + 1, h => by
    have ih := acc_le f g j n (fun t ht => h t (by omega))
    have := h n (by omega)
    unfold acc tot
    split <;> omega
theorem tot_mono (f : Nat → Int) (n : Nat) : ∀ m, (∀ t, t < n + m → 0 ≤ f t) → tot f n ≤ tot f (n + m)
  | 0, _ => Int.le_refl _
  | m + 1, h => by
    have ih := tot_mono f n m (fun t ht => h t (by omega))
    have := h (n + m) (by omega)
    show tot f n ≤ tot f (n + m) + f (n + m)
    omega
theorem tot_four (f : Nat → Int) (n : Nat) : tot f (n + 4) = tot f n + (f n + f (n + 1) + f (n + 2) + f (n + 3)) := by
  show tot f n + f n + f (n + 1) + f (n + 2) + f (n + 3) = _
  omega

def qa (f1 f2 : List Int) (p : Nat) : Nat := bit f1 (p / 2) * 2 + bit f2 (p % 2)
def qb (k1 k2 : List (List Int)) (p k : Nat) : Nat := bit (k1.getD (p / 2) []) (k / 2) * 2 + bit (k2.getD (p % 2) []) (k % 2)
def sy (s1 s2 : List (List Int)) (p k n : Nat) : Nat := 2 * bit (s1.getD (p / 2) []) (2 * (k / 2) + n / 2) + bit (s2.getD (p % 2) []) (2 * (k % 2) + n % 2)
section
variable (xss yss : List (List Int)) (f1 : List Int) (k1 s1 : List (List Int)) (f2 : List Int) (k2 s2 : List (List Int))
def term (p t : Nat) : Int := nn xss (qa f1 f2 p) (t / 4) * nn yss (qb k1 k2 p (t / 4)) (t % 4)
def spot (p t : Nat) : Nat := sy s1 s2 p (t / 4) (t % 4)
/-- the wiring's numbers -/
def N (p j : Nat) : Int := acc (term xss yss f1 k1 f2 k2 p) (spot s1 s2 p) 16 j
end
section
variable {xss yss : List (List Int)} {f1 : List Int} {k1 s1 : List (List Int)} {f2 : List Int} {k2 s2 : List (List Int)} {wh wh' : Int}
theorem qa_lt (h1 : rule f1 k1 s1) (h2 : rule f2 k2 s2) {p : Nat} (hp : p < 4) : qa f1 f2 p < 4 := by
  have := bit_le (n := 2) h1.1 (k := p / 2) (by omega)
  have := bit_le (n := 2) h2.1 (k := p % 2) (by omega)
  unfold qa; omega
theorem qb_lt (h1 : rule f1 k1 s1) (h2 : rule f2 k2 s2) {p k : Nat} (hp : p < 4) (hk : k < 4) : qb k1 k2 p k < 4 := by
  obtain ⟨_, _, a⟩ := tab_get (n := 2) h1.2.1 (i := p / 2) (by omega)
  obtain ⟨_, _, b⟩ := tab_get (n := 2) h2.2.1 (i := p % 2) (by omega)
  have := bit_le (n := 2) a (k := k / 2) (by omega)
  have := bit_le (n := 2) b (k := k % 2) (by omega)
  unfold qb; omega
theorem sy_lt (h1 : rule f1 k1 s1) (h2 : rule f2 k2 s2) {p k n : Nat} (hp : p < 4) (hk : k < 4) (hn : n < 4) : sy s1 s2 p k n < 4 := by
  obtain ⟨_, _, a⟩ := tab_get (n := 4) h1.2.2 (i := p / 2) (by omega)
  obtain ⟨_, _, b⟩ := tab_get (n := 4) h2.2.2 (i := p % 2) (by omega)
  have := bit_le (n := 4) a (k := 2 * (k / 2) + n / 2) (by omega)
  have := bit_le (n := 4) b (k := 2 * (k % 2) + n % 2) (by omega)
  unfold sy; omega
theorem sum4 {xs : List Int} (hl : xs.length = 4) : xs.getD 0 0 + xs.getD 1 0 + xs.getD 2 0 + xs.getD 3 0 = xs.sum := by
  match xs, hl with
  | [a, b, c, d], _ => simp; omega
theorem len_two {x y : Int} (h : two x y wh xss) : xss.length = 4 := by
  have := h.1.2.2.1
  rw [h.2.1, h.2.2] at this; omega
theorem row_sum {x y : Int} (h : two x y wh xss) {r : Nat} (hr : r < 4) : nn xss r 0 + nn xss r 1 + nn xss r 2 + nn xss r 3 = wh := by
  have hr' : r < xss.length := by rw [len_two h]; exact hr
  obtain ⟨hl, _, hs⟩ := row.row_ok h.1 hr'
  rw [← hs]
  unfold nn
  exact sum4 hl
theorem nn_two {x y : Int} (h : two x y wh xss) {r k : Nat} (hr : r < 4) (hk : k < 4) : 0 ≤ nn xss r k ∧ nn xss r k ≤ 1000 := nn_bd h.1 (by rw [len_two h]; exact hr) hk
theorem term_bd {x y x' y' : Int} (h : two x y wh xss) (h' : two x' y' wh' yss) (h1 : rule f1 k1 s1) (h2 : rule f2 k2 s2) {p t : Nat} (hp : p < 4) (ht : t < 16) :
    0 ≤ term xss yss f1 k1 f2 k2 p t ∧ term xss yss f1 k1 f2 k2 p t ≤ 1000000 := by
  obtain ⟨a0, a1⟩ := nn_two h (qa_lt h1 h2 hp) (k := t / 4) (by omega)
  obtain ⟨b0, b1⟩ := nn_two h' (qb_lt h1 h2 hp (k := t / 4) (by omega)) (k := t % 4) (by omega)
  unfold term
  refine ⟨Int.mul_nonneg a0 b0, ?_⟩
  exact Int.le_trans (Int.mul_le_mul_of_nonneg_right a1 b0) (by omega)
theorem term_tot {x y x' y' : Int} (h : two x y wh xss) (h' : two x' y' wh' yss) (h1 : rule f1 k1 s1) (h2 : rule f2 k2 s2) {p : Nat} (hp : p < 4) : tot (term xss yss f1 k1 f2 k2 p) 16 = wh * wh' := by
  have hq : ∀ k, k < 4 → term xss yss f1 k1 f2 k2 p (4 * k) + term xss yss f1 k1 f2 k2 p (4 * k + 1) + term xss yss f1 k1 f2 k2 p (4 * k + 2) + term xss yss f1 k1 f2 k2 p (4 * k + 3) = nn xss (qa f1 f2 p) k * wh' := fun k hk => by
    unfold term
    rw [show 4 * k / 4 = k by omega, show (4 * k + 1) / 4 = k by omega, show (4 * k + 2) / 4 = k by omega, show (4 * k + 3) / 4 = k by omega, show 4 * k % 4 = 0 by omega, show (4 * k + 1) % 4 = 1 by omega, show (4 * k + 2) % 4 = 2 by omega, show (4 * k + 3) % 4 = 3 by omega,
      ← Int.mul_add, ← Int.mul_add, ← Int.mul_add, row_sum h' (qb_lt h1 h2 hp hk)]
  have e0 := hq 0 (by omega)
  have e1 := hq 1 (by omega)
  have e2 := hq 2 (by omega)
  have e3 := hq 3 (by omega)
  have hs := row_sum h (qa_lt h1 h2 hp)
  have t3 := tot_four (term xss yss f1 k1 f2 k2 p) 12
  have t2 := tot_four (term xss yss f1 k1 f2 k2 p) 8
  have t1 := tot_four (term xss yss f1 k1 f2 k2 p) 4
  have t0 := tot_four (term xss yss f1 k1 f2 k2 p) 0
  have z : tot (term xss yss f1 k1 f2 k2 p) 0 = 0 := rfl
  have : wh * wh' = nn xss (qa f1 f2 p) 0 * wh' + nn xss (qa f1 f2 p) 1 * wh' + nn xss (qa f1 f2 p) 2 * wh' + nn xss (qa f1 f2 p) 3 * wh' := by
    rw [← Int.add_mul, ← Int.add_mul, ← Int.add_mul, hs]
  simp only [Nat.mul_zero, Nat.zero_add, Nat.mul_one, Nat.reduceMul, Nat.reduceAdd] at e0 e1 e2 e3 t0 t1 t2 t3
  omega
theorem acc_bd {x y x' y' : Int} (h : two x y wh xss) (h' : two x' y' wh' yss) (h1 : rule f1 k1 s1) (h2 : rule f2 k2 s2) {p t : Nat} (hp : p < 4) (ht : t ≤ 16) (j : Nat) :
    0 ≤ acc (term xss yss f1 k1 f2 k2 p) (spot s1 s2 p) t j ∧ acc (term xss yss f1 k1 f2 k2 p) (spot s1 s2 p) t j ≤ wh * wh' := by
  have hn : ∀ u, u < 16 → 0 ≤ term xss yss f1 k1 f2 k2 p u := fun u hu => (term_bd h h' h1 h2 hp hu).1
  refine ⟨acc_nonneg _ _ _ _ (fun u hu => hn u (by omega)), ?_⟩
  have a := acc_le (term xss yss f1 k1 f2 k2 p) (spot s1 s2 p) j t (fun u hu => hn u (by omega))
  have b := tot_mono (term xss yss f1 k1 f2 k2 p) t (16 - t) (fun u hu => hn u (by omega))
  rw [show t + (16 - t) = 16 by omega, term_tot h h' h1 h2 hp] at b
  omega
theorem wh_bd {x y x' y' : Int} (h : two x y wh xss) (h' : two x' y' wh' yss) : 1 ≤ wh * wh' ∧ wh * wh' ≤ 1000000 := by
  obtain ⟨a0, a1⟩ := h.1.2.1
  obtain ⟨b0, b1⟩ := h'.1.2.1
  have := Int.mul_le_mul a0 b0 (by omega) (by omega)
  have := Int.mul_le_mul a1 b1 (by omega) (by omega)
  omega
theorem box_ok {x y x' y' : Int} (h : two x y wh xss) (h' : two x' y' wh' yss) (h1 : rule f1 k1 s1) (h2 : rule f2 k2 s2) (hw : wh * wh' ≤ 1000) : okBox 2 2 (wh * wh') (make.rowsOf (N xss yss f1 k1 s1 f2 k2 s2) 4) := by
  refine make.ok_rowsOf (x := 2) (y := 2) ⟨by omega, by omega⟩ ⟨(wh_bd h h').1, hw⟩ (fun r hr => make.okRow_quad (fun k hk => acc_bd h h' h1 h2 (by omega) (Nat.le_refl _) k) ?_)
  have := acc_sum (term xss yss f1 k1 f2 k2 r) (spot s1 s2 r) 16 (fun t ht => sy_lt h1 h2 (by omega) (by omega) (by omega))
  rw [term_tot h h' h1 h2 (by omega)] at this
  exact this
theorem box_bad {zss : List (List Int)} (hw : ¬ wh * wh' ≤ 1000) : ¬ okBox 2 2 (wh * wh') zss := fun h => hw h.2.1.2
end
/-- all that WireBoxes takes is valid -/
def both (x y wh : Int) (xss : List (List Int)) (x' y' wh' : Int) (yss : List (List Int)) : Prop := two x y wh xss ∧ two x' y' wh' yss
open Classical in
/-- what WireBoxes answers -/
noncomputable def res (x y wh : Int) (xss : List (List Int)) (x' y' wh' : Int) (yss : List (List Int)) (f1 : List Int) (k1 s1 : List (List Int)) (f2 : List Int) (k2 s2 : List (List Int)) : make.Res :=
  if (both x y wh xss x' y' wh' yss ∧ rule f1 k1 s1 ∧ rule f2 k2 s2) ∧ wh * wh' ≤ 1000 then ⟨2, 2, wh * wh', make.rowsOf (N xss yss f1 k1 s1 f2 k2 s2) 4, true⟩ else make.Res.zero
section
variable {x y wh : Int} {xss : List (List Int)} {x' y' wh' : Int} {yss : List (List Int)} {f1 : List Int} {k1 s1 : List (List Int)} {f2 : List Int} {k2 s2 : List (List Int)}
theorem res_yes (h : (both x y wh xss x' y' wh' yss ∧ rule f1 k1 s1 ∧ rule f2 k2 s2) ∧ wh * wh' ≤ 1000) : res x y wh xss x' y' wh' yss f1 k1 s1 f2 k2 s2 = ⟨2, 2, wh * wh', make.rowsOf (N xss yss f1 k1 s1 f2 k2 s2) 4, true⟩ := if_pos h
theorem res_no (h : ¬ ((both x y wh xss x' y' wh' yss ∧ rule f1 k1 s1 ∧ rule f2 k2 s2) ∧ wh * wh' ≤ 1000)) : res x y wh xss x' y' wh' yss f1 k1 s1 f2 k2 s2 = make.Res.zero := if_neg h
theorem tot_res : rws.total (res x y wh xss x' y' wh' yss f1 k1 s1 f2 k2 s2).rows ≤ 1048576 := by
  by_cases h : (both x y wh xss x' y' wh' yss ∧ rule f1 k1 s1 ∧ rule f2 k2 s2) ∧ wh * wh' ≤ 1000
  · rw [res_yes h]; exact make.total_rowsOf _ _ (by omega)
  · rw [res_no h]; exact (show rws.total [] ≤ 1048576 by decide)
end
end Go.Proofs.Ytiigfhigmdjooaa.wrm
