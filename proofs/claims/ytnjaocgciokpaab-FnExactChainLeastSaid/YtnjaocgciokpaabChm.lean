/- Chains, as mathematics: the sum that the model makes is that of the outcomes, for quiet Boxes. -/
import Derived.Test.YtnjaocgciokpaabRlo
import Derived.Test.YtnjaocgciokpaabLoud
import Derived.Test.YtnjaocgciokpaabCdm
namespace Go.Proofs.Ytnjaocgciokpaab.chm
open Go.RowKit Go.Deep Go.Proofs.Ytnjaocgciokpaab.base
open Go.Proofs.Ytnjaocgciokpaab.val (okBox okRow)
open Go.Proofs.Ytnjaocgciokpaab.row (nn at_ one)
open Go.Proofs.Ytnjaocgciokpaab.loud (Quiet)
open Go.Proofs.Ytnjaocgciokpaab.oco (Oc comb four Fine)
open Go.Proofs.Ytnjaocgciokpaab.ocs (R)
open Go.Proofs.Ytnjaocgciokpaab.rlo (rn pair chain)
open Go.Proofs.Ytnjaocgciokpaab.cdm (lt)

/-- the sum of the first k -/
def ps (f : Nat → Int) : Nat → Int
  | 0 => 0
  | k + 1 => ps f k + f k
theorem ps_congr {f g : Nat → Int} : ∀ k, (∀ j, j < k → f j = g j) → ps f k = ps g k
  | 0, _ => rfl
  | k + 1, h => by show ps f k + f k = ps g k + g k; rw [ps_congr k (fun j hj => h j (by omega)), h k (by omega)]
theorem ps2 (f : Nat → Int) : ps f 2 = f 0 + f 1 := by simp [ps]
theorem ps4 (f : Nat → Int) : ps f 4 = f 0 + f 1 + f 2 + f 3 := by simp [ps]

theorem sum4 {wh : Int} {row : List Int} (h : okRow wh row) : row.getD 0 0 + row.getD 1 0 + row.getD 2 0 + row.getD 3 0 = wh := by
  obtain ⟨h1, _, h3⟩ := h
  match row, h1 with
  | [a, b, c, d], _ => simp at h3 ⊢; omega
theorem quiet_sum {wh : Int} {xss : List (List Int)} (hok : okBox 2 2 wh xss) (hq : Quiet xss 2 2) {y x : Nat} (hy : y ≤ 1) (hx : x ≤ 1) :
    R xss (y : Int) x 0 + R xss (y : Int) x 1 = R xss 0 x 0 + R xss 0 x 1 ∧ R xss (y : Int) x 2 + R xss (y : Int) x 3 = R xss 0 x 2 + R xss 0 x 3 := by
  have e1 : at_ 2 (x : Int) (y : Int) = x * 2 + y := loud.at_cast 2 x y
  have e0 : at_ 2 (x : Int) 0 = x * 2 := loud.at_zero 2 x
  have h1 : one xss (x * 2 + y) 0 = one xss (x * 2) 0 := by
    have := hq.1 x (by omega)
    by_cases h : one xss (x * 2 + y) 0 = one xss (x * 2) 0
    · exact h
    · exact absurd ⟨y, by omega, h⟩ this
  have l1 := row.at_lt hok (i := (x : Int)) (j := (y : Int)) (by omega) (by omega) (by omega) (by omega)
  have l0 := row.at_lt hok (i := (x : Int)) (j := 0) (by omega) (by omega) (by omega) (by omega)
  rw [e1] at l1
  rw [e0] at l0
  have s1 := sum4 (row.row_ok hok l1)
  have s0 := sum4 (row.row_ok hok l0)
  have o1 : ∀ r, one xss r 0 = nn xss r 2 + nn xss r 3 := fun r => if_pos rfl
  rw [o1, o1] at h1
  unfold R
  rw [e1, e0]
  unfold nn at *
  omega

/-- what the third Box adds, for the message c, the turn d and the question x -/
def V (Rf : Nat → Nat → Int) (bit c d x : Nat) : Int := ps (fun a => if ((c ^^^ (a / 2)) ^^^ (a % 2)) ^^^ d = bit then Rf x a else 0) 4
theorem xor_turn (m a d b : Nat) : (m ^^^ a) ^^^ (d ^^^ b) = ((m ^^^ a) ^^^ b) ^^^ d := by
  rw [Nat.xor_comm d b, Nat.xor_assoc, Nat.xor_assoc, Nat.xor_assoc]
theorem ite_mul (P : Prop) [Decidable P] (c x : Int) : (if P then c * x else 0) = c * (if P then x else 0) := by split <;> simp
theorem rn_four (Rf : Nat → Nat → Int) (y bit : Nat) (p q : Oc) : rn bit (four y Rf p q 4) = p.2.2 * q.2.2 * V Rf bit p.1 (if y = 0 then p.2.1 else q.2.1) (p.1 ^^^ q.1) := by
  unfold V
  rw [ps4]
  unfold rn four
  rw [List.map_map]
  simp only [List.range_succ, List.range_zero, List.nil_append, List.cons_append, List.map_cons, List.map_nil, List.sum_cons, List.sum_nil, Function.comp_apply, oco.one, xor_turn, ite_mul, Int.mul_add]
  omega
theorem rn_append (bit : Nat) (a b : List Oc) : rn bit (a ++ b) = rn bit a + rn bit b := by simp [rn]
/-- the outcome A of two bits -/
def oc2 (N : Nat → Int) (a0 A : Nat) : Oc := (a0 ^^^ (A / 2), A % 2, N A)
theorem pair_eq (xss : List (List Int)) (y k0 k1 : Nat) : pair xss y k0 k1 = [oc2 (R xss (y : Int) (k0 ^^^ k1)) k0 0, oc2 (R xss (y : Int) (k0 ^^^ k1)) k0 1, oc2 (R xss (y : Int) (k0 ^^^ k1)) k0 2, oc2 (R xss (y : Int) (k0 ^^^ k1)) k0 3] := by
  simp [pair, comb, oco.row, oco.four, oco.one, oc2, List.range_succ]
theorem rn_chain (xss : List (List Int)) (y z a0 a1 b0 b1 bit : Nat) :
    rn bit (chain xss y z a0 a1 b0 b1) = ps (fun A => ps (fun B => R xss (z : Int) (a0 ^^^ a1) A * R xss (z : Int) (b0 ^^^ b1) B * V (R xss (y : Int)) bit (a0 ^^^ (A / 2)) (if y = 0 then A % 2 else B % 2) ((a0 ^^^ (A / 2)) ^^^ (b0 ^^^ (B / 2)))) 4) 4 := by
  unfold chain
  rw [pair_eq, pair_eq]
  simp only [comb, oco.row, List.flatMap_cons, List.flatMap_nil, List.append_nil, rn_append, rn_four, oc2, ps4]
  omega

theorem grp (n a b o p v : Int) (h : a + b = o + p) : n * a * v + n * b * v = n * (o + p) * v := by rw [← h, Int.mul_add, Int.add_mul]
theorem grp' (n a b o p v : Int) (h : a + b = o + p) : a * n * v + b * n * v = n * (o + p) * v := by rw [← h, Int.mul_add, Int.add_mul, Int.mul_comm n a, Int.mul_comm n b]

/-- the model's term -/
def term (near oth : Nat → Int) (Rf : Nat → Nat → Int) (p bit s u at' far up : Nat) : Int :=
  if (((if p = 1 then u ^^^ far else s ^^^ (at' / 2)) ^^^ (up / 2)) ^^^ (up % 2)) ^^^ (at' % 2) = bit then near at' * (oth (2 * far) + oth (2 * far + 1)) * Rf ((s ^^^ (at' / 2)) ^^^ (u ^^^ far)) up else 0
def tot (near oth : Nat → Int) (Rf : Nat → Nat → Int) (p bit s u : Nat) : Int := ps (fun a => ps (fun f => ps (term near oth Rf p bit s u a f) 4) 2) 4
theorem ups (near oth : Nat → Int) (Rf : Nat → Nat → Int) (p bit s u a f : Nat) : ps (term near oth Rf p bit s u a f) 4 = near a * (oth (2 * f) + oth (2 * f + 1)) * V Rf bit (if p = 1 then u ^^^ f else s ^^^ (a / 2)) (a % 2) ((s ^^^ (a / 2)) ^^^ (u ^^^ f)) := by
  unfold V term
  rw [ps4, ps4]
  simp only [ite_mul, Int.mul_add]
/-- the number with which the bit i of the string k is guessed in a chain, as the model sums it -/
def cr (xss : List (List Int)) (k i : Nat) : Int :=
  if i / 2 = 1 then tot (R xss ((i % 2 : Nat) : Int) ((k / 4 % 2) ^^^ (k / 8 % 2))) (R xss 0 ((k % 2) ^^^ (k / 2 % 2))) (R xss ((i / 2 : Nat) : Int)) (i / 2) (lt k i) (k / 4 % 2) (k % 2)
  else tot (R xss ((i % 2 : Nat) : Int) ((k % 2) ^^^ (k / 2 % 2))) (R xss 0 ((k / 4 % 2) ^^^ (k / 8 % 2))) (R xss ((i / 2 : Nat) : Int)) (i / 2) (lt k i) (k % 2) (k / 4 % 2)
theorem x1 {a b : Nat} (h : a ≤ 1) (h' : b ≤ 1) : a ^^^ b ≤ 1 := oco.xor1 h h'
set_option maxHeartbeats 1000000 in
theorem cr_rn {wh : Int} {xss : List (List Int)} (hok : okBox 2 2 wh xss) (hq : Quiet xss 2 2) (k i : Nat) (hi : i < 4) :
    rn (lt k i) (chain xss (i / 2) (i % 2) (k % 2) (k / 2 % 2) (k / 4 % 2) (k / 8 % 2)) = cr xss k i := by
  have hA := quiet_sum hok hq (y := i % 2) (x := (k % 2) ^^^ (k / 2 % 2)) (by omega) (x1 (by omega) (by omega))
  have hB := quiet_sum hok hq (y := i % 2) (x := (k / 4 % 2) ^^^ (k / 8 % 2)) (by omega) (x1 (by omega) (by omega))
  rw [rn_chain]
  unfold cr
  have hp : i / 2 = 0 ∨ i / 2 = 1 := by omega
  generalize lt k i = bit
  generalize k / 8 % 2 = b1 at *
  generalize k / 4 % 2 = b0 at *
  generalize k / 2 % 2 = a1 at *
  generalize k % 2 = a0 at *
  generalize i % 2 = z at *
  rcases hp with hp | hp
  · rw [hp]
    rw [if_neg (by decide)]
    unfold tot
    simp only [ups]
    simp only [ps4, ps2, if_true, show ((0 : Nat) = 1) = False by simp, if_false]
    generalize R xss (z : Int) (a0 ^^^ a1) = N1 at *
    generalize R xss (z : Int) (b0 ^^^ b1) = N2 at *
    generalize R xss 0 (b0 ^^^ b1) = O at *
    generalize V (R xss ((0 : Nat) : Int)) bit = W
    have g := fun A v w => And.intro (grp (N1 A) (N2 0) (N2 1) (O 0) (O 1) v hB.1) (grp (N1 A) (N2 2) (N2 3) (O 2) (O 3) w hB.2)
    simp only [Nat.zero_div, Nat.reduceDiv, Nat.reduceMod, Nat.mul_zero, Nat.zero_add, Nat.mul_one, Nat.reduceAdd, Nat.xor_zero] at *
    have g0 := g 0 (W a0 0 (a0 ^^^ b0)) (W a0 0 (a0 ^^^ (b0 ^^^ 1)))
    have g1 := g 1 (W a0 1 (a0 ^^^ b0)) (W a0 1 (a0 ^^^ (b0 ^^^ 1)))
    have g2 := g 2 (W (a0 ^^^ 1) 0 ((a0 ^^^ 1) ^^^ b0)) (W (a0 ^^^ 1) 0 ((a0 ^^^ 1) ^^^ (b0 ^^^ 1)))
    have g3 := g 3 (W (a0 ^^^ 1) 1 ((a0 ^^^ 1) ^^^ b0)) (W (a0 ^^^ 1) 1 ((a0 ^^^ 1) ^^^ (b0 ^^^ 1)))
    omega
  · rw [hp]
    rw [if_pos rfl]
    unfold tot
    simp only [ups]
    simp only [ps4, ps2, if_true, show ((1 : Nat) = 0) = False by simp, if_false]
    generalize R xss (z : Int) (a0 ^^^ a1) = N1 at *
    generalize R xss (z : Int) (b0 ^^^ b1) = N2 at *
    generalize R xss 0 (a0 ^^^ a1) = O at *
    generalize V (R xss ((1 : Nat) : Int)) bit = W
    have g := fun B v w => And.intro (grp' (N2 B) (N1 0) (N1 1) (O 0) (O 1) v hA.1) (grp' (N2 B) (N1 2) (N1 3) (O 2) (O 3) w hA.2)
    simp only [Nat.zero_div, Nat.reduceDiv, Nat.reduceMod, Nat.mul_zero, Nat.zero_add, Nat.mul_one, Nat.reduceAdd, Nat.xor_zero] at *
    have c0 := Nat.xor_comm a0 b0
    have c1 := Nat.xor_comm a0 (b0 ^^^ 1)
    have c2 := Nat.xor_comm (a0 ^^^ 1) b0
    have c3 := Nat.xor_comm (a0 ^^^ 1) (b0 ^^^ 1)
    rw [c0, c1, c2, c3]
    have g0 := g 0 (W a0 0 (b0 ^^^ a0)) (W (a0 ^^^ 1) 0 (b0 ^^^ (a0 ^^^ 1)))
    have g1 := g 1 (W a0 1 (b0 ^^^ a0)) (W (a0 ^^^ 1) 1 (b0 ^^^ (a0 ^^^ 1)))
    have g2 := g 2 (W a0 0 ((b0 ^^^ 1) ^^^ a0)) (W (a0 ^^^ 1) 0 ((b0 ^^^ 1) ^^^ (a0 ^^^ 1)))
    have g3 := g 3 (W a0 1 ((b0 ^^^ 1) ^^^ a0)) (W (a0 ^^^ 1) 1 ((b0 ^^^ 1) ^^^ (a0 ^^^ 1)))
    omega
end Go.Proofs.Ytnjaocgciokpaab.chm
