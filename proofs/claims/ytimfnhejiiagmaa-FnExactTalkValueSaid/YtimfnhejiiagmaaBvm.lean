/- The arithmetic of two Games at once: both ways to go over the answers of the first player have the same greatest sum. -/
import Derived.Test.YtimfnhejiiagmaaGscore
import Derived.Test.YtimfnhejiiagmaaPlg
namespace Go.Proofs.Ytimfnhejiiagmaa.bvm
open Go.RowKit Go.Deep Go.Proofs.Ytimfnhejiiagmaa.base
open Go.Proofs.Ytimfnhejiiagmaa.gwon (won won_bd)
open Go.Proofs.Ytimfnhejiiagmaa.gval (okGame)
open Go.Proofs.Ytimfnhejiiagmaa.plays (bit)
open Go.Proofs.Ytimfnhejiiagmaa.worth (cum cum_congr)

/-- the greatest of the first n, at least 0 -/
def mx (g : Nat → Int) : Nat → Int
  | 0 => 0
  | n + 1 => if mx g n < g n then g n else mx g n
theorem mx_nn (g : Nat → Int) : ∀ n, 0 ≤ mx g n
  | 0 => Int.le_refl _
  | n + 1 => by have := mx_nn g n; unfold mx; split <;> omega
theorem mx_ge (g : Nat → Int) : ∀ n t, t < n → g t ≤ mx g n
  | 0, t, h => by omega
  | n + 1, t, h => by
    unfold mx
    by_cases e : t = n
    · subst e; split <;> omega
    · have := mx_ge g n t (by omega); split <;> omega
theorem mx_in (g : Nat → Int) : ∀ n, mx g n = 0 ∨ ∃ t, t < n ∧ mx g n = g t
  | 0 => .inl rfl
  | n + 1 => by
    unfold mx
    split
    · exact .inr ⟨n, by omega, rfl⟩
    · rcases mx_in g n with h | ⟨t, h1, h2⟩
      · exact .inl h
      · exact .inr ⟨t, by omega, h2⟩
theorem mx_le (g : Nat → Int) {B : Int} (hB : 0 ≤ B) : ∀ n, (∀ t, t < n → g t ≤ B) → mx g n ≤ B
  | 0, _ => hB
  | n + 1, h => by
    have h1 := mx_le g hB n (fun t ht => h t (by omega))
    have h2 := h n (by omega)
    unfold mx; split <;> omega
theorem mx_half {f g : Nat → Int} {n m : Nat} (h : ∀ p, p < n → ∃ c, c < m ∧ f p = g c) : mx f n ≤ mx g m :=
  mx_le f (mx_nn g m) n (fun t ht => by obtain ⟨c, hc, e⟩ := h t ht; rw [e]; exact mx_ge g m c hc)
theorem mx_eq {f g : Nat → Int} {n m : Nat} (h1 : ∀ p, p < n → ∃ c, c < m ∧ f p = g c) (h2 : ∀ c, c < m → ∃ p, p < n ∧ g c = f p) : mx f n = mx g m :=
  Int.le_antisymm (mx_half h1) (mx_half h2)
theorem mx_congr {f g : Nat → Int} {n : Nat} (h : ∀ p, p < n → f p = g p) : mx f n = mx g n :=
  mx_eq (fun p hp => ⟨p, hp, h p hp⟩) (fun p hp => ⟨p, hp, (h p hp).symm⟩)
theorem cum_nn {g : Nat → Int} {m : Int} (n : Nat) (h : ∀ t, t < n → 0 ≤ g t ∧ g t ≤ m) : 0 ≤ cum g n ∧ cum g n ≤ n * m := by
  induction n with
  | zero => simp [cum]
  | succ n ih =>
    have h1 := ih (fun t ht => h t (by omega))
    have h2 := h n (by omega)
    have e : ((n + 1 : Nat) : Int) * m = n * m + m := by rw [Int.natCast_add, Int.add_mul]; simp
    rw [e]
    unfold cum
    omega

section
variable (X1 Y1 X2 Y2 : Nat) (ws : List Int) (xss : List (List Int)) (vs : List Int) (yss : List (List Int))
/-- what is won at both where the first player is asked i, the second one q and answers r -/
def pay (A C : Nat → Int) (q r i : Nat) : Int := won ws xss ((i / X2) * Y1 + q / Y2) (A i) ((r / 2 : Nat) : Int) * won vs yss ((i % X2) * Y2 + q % Y2) (C i) ((r % 2 : Nat) : Int)
def part (A C : Nat → Int) (q r n : Nat) : Int := cum (pay Y1 X2 Y2 ws xss vs yss A C q r) n
def best (A C : Nat → Int) (q n : Nat) : Int := mx (fun r => part Y1 X2 Y2 ws xss vs yss A C q r (X1 * X2)) n
def tot (A C : Nat → Int) (n : Nat) : Int := cum (fun q => best X1 Y1 X2 Y2 ws xss vs yss A C q 4) n
def pA (p i : Nat) : Int := bit (2 * (X1 * X2)) p (2 * i)
def pC (p i : Nat) : Int := bit (2 * (X1 * X2)) p (2 * i + 1)
def cA (c i : Nat) : Int := ((c / 2 ^ (2 * i) % 4 / 2 : Nat) : Int)
def cC (c i : Nat) : Int := ((c / 2 ^ (2 * i) % 4 % 2 : Nat) : Int)
def val (p : Nat) : Int := tot X1 Y1 X2 Y2 ws xss vs yss (pA X1 X2 p) (pC X1 X2 p) (Y1 * Y2)
def cod (c : Nat) : Int := tot X1 Y1 X2 Y2 ws xss vs yss (cA c) (cC c) (Y1 * Y2)

theorem pay_bd (h1 : okGame X1 Y1 ws xss) (h2 : okGame X2 Y2 vs yss) (A C : Nat → Int) (q r i : Nat) : 0 ≤ pay Y1 X2 Y2 ws xss vs yss A C q r i ∧ pay Y1 X2 Y2 ws xss vs yss A C q r i ≤ 9801 := by
  obtain ⟨a0, a1⟩ := won_bd h1 ((i / X2) * Y1 + q / Y2) (A i) ((r / 2 : Nat) : Int)
  obtain ⟨b0, b1⟩ := won_bd h2 ((i % X2) * Y2 + q % Y2) (C i) ((r % 2 : Nat) : Int)
  unfold pay
  refine ⟨Int.mul_nonneg a0 b0, ?_⟩
  calc _ ≤ 99 * 99 := Int.mul_le_mul a1 b1 b0 (by decide)
    _ = 9801 := by decide
theorem part_bd (h1 : okGame X1 Y1 ws xss) (h2 : okGame X2 Y2 vs yss) (A C : Nat → Int) (q r n : Nat) (hn : n ≤ 4) : 0 ≤ part Y1 X2 Y2 ws xss vs yss A C q r n ∧ part Y1 X2 Y2 ws xss vs yss A C q r n ≤ 39204 := by
  have := cum_nn n (fun t _ => pay_bd X1 Y1 X2 Y2 ws xss vs yss h1 h2 A C q r t)
  unfold part
  omega
theorem best_bd (h1 : okGame X1 Y1 ws xss) (h2 : okGame X2 Y2 vs yss) (hX : X1 * X2 ≤ 4) (A C : Nat → Int) (q n : Nat) : 0 ≤ best X1 Y1 X2 Y2 ws xss vs yss A C q n ∧ best X1 Y1 X2 Y2 ws xss vs yss A C q n ≤ 39204 :=
  ⟨mx_nn _ _, mx_le _ (by decide) _ (fun t _ => (part_bd X1 Y1 X2 Y2 ws xss vs yss h1 h2 A C q t _ hX).2)⟩
theorem tot_bd (h1 : okGame X1 Y1 ws xss) (h2 : okGame X2 Y2 vs yss) (hX : X1 * X2 ≤ 4) (A C : Nat → Int) (n : Nat) (hn : n ≤ 4) : 0 ≤ tot X1 Y1 X2 Y2 ws xss vs yss A C n ∧ tot X1 Y1 X2 Y2 ws xss vs yss A C n ≤ 156816 := by
  have := cum_nn n (fun t _ => best_bd X1 Y1 X2 Y2 ws xss vs yss h1 h2 hX A C t 4)
  unfold tot
  omega
theorem tot_congr {A C A' C' : Nat → Int} (h : ∀ i, i < X1 * X2 → A i = A' i ∧ C i = C' i) (n : Nat) : tot X1 Y1 X2 Y2 ws xss vs yss A C n = tot X1 Y1 X2 Y2 ws xss vs yss A' C' n := by
  unfold tot
  refine cum_congr n (fun q _ => ?_)
  unfold best
  refine mx_congr (fun r _ => ?_)
  unfold part
  refine cum_congr _ (fun i hi => ?_)
  unfold pay
  rw [(h i hi).1, (h i hi).2]
end

def toC (N p : Nat) : Nat := (List.range N).foldl (fun s i => s + (2 * (p / 2 ^ (2 * N - 1 - 2 * i) % 2) + p / 2 ^ (2 * N - 1 - (2 * i + 1)) % 2) * 4 ^ i) 0
def toP (N c : Nat) : Nat := (List.range N).foldl (fun s i => s + (c / 2 ^ (2 * i) % 4) * 4 ^ (N - 1 - i)) 0
def agree (N p c : Nat) : Bool := (List.range N).all fun i => (p / 2 ^ (2 * N - 1 - 2 * i) % 2 == c / 2 ^ (2 * i) % 4 / 2) && (p / 2 ^ (2 * N - 1 - (2 * i + 1)) % 2 == c / 2 ^ (2 * i) % 4 % 2)
theorem toC_ok : ∀ N : Fin 5, ∀ p : Fin 256, p.val < 2 ^ (2 * N.val) → toC N.val p.val < 2 ^ (2 * N.val) ∧ agree N.val p.val (toC N.val p.val) = true := by decide +kernel
theorem toP_ok : ∀ N : Fin 5, ∀ c : Fin 256, c.val < 2 ^ (2 * N.val) → toP N.val c.val < 2 ^ (2 * N.val) ∧ agree N.val (toP N.val c.val) c.val = true := by decide +kernel
theorem agree_is {X1 X2 p c : Nat} (h : agree (X1 * X2) p c = true) : ∀ i, i < X1 * X2 → pA X1 X2 p i = cA c i ∧ pC X1 X2 p i = cC c i := by
  intro i hi
  unfold agree at h
  have := List.all_eq_true.1 h i (List.mem_range.2 hi)
  simp only [Bool.and_eq_true, beq_iff_eq] at this
  unfold pA pC cA cC bit
  rw [this.1, this.2]
  exact ⟨rfl, rfl⟩
theorem pow256 {N : Nat} (h : N ≤ 4) : 2 ^ (2 * N) ≤ 256 := Nat.le_trans (Nat.pow_le_pow_right (by omega) (by omega : 2 * N ≤ 8)) (by decide)
/-- both ways have the same greatest sum -/
theorem same (X1 Y1 X2 Y2 : Nat) (ws : List Int) (xss : List (List Int)) (vs : List Int) (yss : List (List Int)) (hX : X1 * X2 ≤ 4) :
    mx (val X1 Y1 X2 Y2 ws xss vs yss) (2 ^ (2 * (X1 * X2))) = mx (cod X1 Y1 X2 Y2 ws xss vs yss) (2 ^ (2 * (X1 * X2))) := by
  have hp := pow256 hX
  refine mx_eq (fun p h => ?_) (fun c h => ?_)
  · have := toC_ok ⟨X1 * X2, by omega⟩ ⟨p, by omega⟩ h
    exact ⟨_, this.1, tot_congr X1 Y1 X2 Y2 ws xss vs yss (agree_is this.2) _⟩
  · have := toP_ok ⟨X1 * X2, by omega⟩ ⟨c, by omega⟩ h
    exact ⟨_, this.1, (tot_congr X1 Y1 X2 Y2 ws xss vs yss (agree_is this.2) _).symm⟩
theorem cA_bit (c i : Nat) : (cA c i = 0 ∨ cA c i = 1) ∧ (cC c i = 0 ∨ cC c i = 1) := by unfold cA cC; omega
theorem pA_bit (X1 X2 p i : Nat) : (pA X1 X2 p i = 0 ∨ pA X1 X2 p i = 1) ∧ (pC X1 X2 p i = 0 ∨ pC X1 X2 p i = 1) := by unfold pA pC bit; omega

/-! ### what is answered -/
def okTwo (x y x' y' : Int) (ws : List Int) (xss : List (List Int)) (vs : List Int) (yss : List (List Int)) : Prop := okGame x y ws xss ∧ okGame x' y' vs yss ∧ x ≤ 2 ∧ y ≤ 2 ∧ x' ≤ 2 ∧ y' ≤ 2
open Classical in
noncomputable def res (x y x' y' : Int) (ws : List Int) (xss : List (List Int)) (vs : List Int) (yss : List (List Int)) : Int × Bool :=
  if okTwo x y x' y' ws xss vs yss then (mx (val x.toNat y.toNat x'.toNat y'.toNat ws xss vs yss) (2 ^ (2 * (x.toNat * x'.toNat))), true) else (0, false)
theorem res_yes {x y x' y' : Int} {ws : List Int} {xss : List (List Int)} {vs : List Int} {yss : List (List Int)} (h : okTwo x y x' y' ws xss vs yss) : res x y x' y' ws xss vs yss = (mx (val x.toNat y.toNat x'.toNat y'.toNat ws xss vs yss) (2 ^ (2 * (x.toNat * x'.toNat))), true) := if_pos h
theorem res_no {x y x' y' : Int} {ws : List Int} {xss : List (List Int)} {vs : List Int} {yss : List (List Int)} (h : ¬ okTwo x y x' y' ws xss vs yss) : res x y x' y' ws xss vs yss = (0, false) := if_neg h
theorem mul4 {a b : Nat} (ha : a ≤ 2) (hb : b ≤ 2) : a * b ≤ 4 := Nat.mul_le_mul ha hb
end Go.Proofs.Ytimfnhejiiagmaa.bvm
