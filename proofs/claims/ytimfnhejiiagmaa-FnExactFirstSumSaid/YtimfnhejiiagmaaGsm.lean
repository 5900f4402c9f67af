/- The places of sums in order, the greatest one, the first of the greatest ones. -/
import Derived.Test.YtimfnhejiiagmaaSom
import Derived.Test.YtimfnhejiiagmaaQpr
namespace Go.Proofs.Ytimfnhejiiagmaa.gsm
open Go.RowKit Go.Deep Go.Proofs.Ytimfnhejiiagmaa.base
open Go.Proofs.Ytimfnhejiiagmaa.qpr (upto mem_upto)
open Go.Proofs.Ytimfnhejiiagmaa.val (okSizes okBox)
open Go.Proofs.Ytimfnhejiiagmaa.qfo (okFour)

def np (X : Nat) : Nat := (upto X X).length
def pr (X i : Nat) : Int × Int := (upto X X).getD i (0, 0)
/-- place t in order -/
def pl1 (X Y t : Nat) : Int × Int := pr X (t / 4 / np Y)
def pl2 (Y t : Nat) : Int × Int := pr Y (t / 4 % np Y)
def pl3 (t : Nat) : Int := ((t % 4 : Nat) : Int)
def num (X Y : Nat) : Nat := np X * np Y * 4
theorem pl_at (X Y i k m : Nat) (hk : k < np Y) (hm : m < 4) : pl1 X Y ((i * np Y + k) * 4 + m) = pr X i ∧ pl2 Y ((i * np Y + k) * 4 + m) = pr Y k ∧ pl3 ((i * np Y + k) * 4 + m) = (m : Int) := by
  have e1 : ((i * np Y + k) * 4 + m) / 4 = i * np Y + k := by omega
  have e2 : ((i * np Y + k) * 4 + m) % 4 = m := by omega
  have e3 : (i * np Y + k) / np Y = i := by rw [Nat.add_comm, Nat.add_mul_div_right _ _ (by omega), Nat.div_eq_of_lt hk, Nat.zero_add]
  have e4 : (i * np Y + k) % np Y = k := by rw [Nat.add_comm, Nat.add_mul_mod_self_right, Nat.mod_eq_of_lt hk]
  unfold pl1 pl2 pl3
  rw [e1, e2, e3, e4]
  exact ⟨rfl, rfl, rfl⟩
theorem np_le (X : Nat) (h : X ≤ 3) : np X ≤ 9 := by have := qpr.upto_len X h X; unfold np; omega
theorem num_le (X Y : Nat) (hX : X ≤ 3) (hY : Y ≤ 3) : num X Y ≤ 324 := by
  have h1 := np_le X hX
  have h2 := np_le Y hY
  have := Nat.mul_le_mul h1 h2
  unfold num
  omega
theorem pr_in {X i : Nat} (h : i < np X) : 0 ≤ (pr X i).1 ∧ (pr X i).1 < (pr X i).2 ∧ (pr X i).2 < X := by
  have h' : i < (upto X X).length := h
  have e : pr X i = (upto X X)[i]'h' := by simp [pr, List.getD, h']
  exact mem_upto.1 (by rw [e]; exact List.getElem_mem h')
theorem pl_in {X Y t : Nat} (h : t < num X Y) : (0 ≤ (pl1 X Y t).1 ∧ (pl1 X Y t).1 < (pl1 X Y t).2 ∧ (pl1 X Y t).2 < X) ∧ (0 ≤ (pl2 Y t).1 ∧ (pl2 Y t).1 < (pl2 Y t).2 ∧ (pl2 Y t).2 < Y) ∧ 0 ≤ pl3 t ∧ pl3 t ≤ 3 := by
  have hp : 0 < np Y := by
    rcases Nat.eq_zero_or_pos (np Y) with z | z
    · unfold num at h; rw [z] at h; omega
    · exact z
  refine ⟨pr_in ?_, pr_in (Nat.mod_lt _ hp), by unfold pl3; omega, by unfold pl3; omega⟩
  unfold num at h
  exact (Nat.div_lt_iff_lt_mul hp).2 (by omega)
theorem pl_ok {x y t : Nat} (hs : okSizes x y) (h : t < num x y) : okFour x y (pl1 x y t).1 (pl1 x y t).2 (pl2 y t).1 (pl2 y t).2 (pl3 t) := by
  obtain ⟨h1, h2, h3⟩ := pl_in h
  exact ⟨hs, h1, h2, h3⟩
/-- the sum at place t, without its sign -/
def val (xss : List (List Int)) (X Y t : Nat) : Int := som.sum xss (pl1 X Y t).1 (pl1 X Y t).2 (pl2 Y t).1 (pl2 Y t).2 (pl3 t) Y
def abs' (s : Int) : Int := if s < -s then -s else s
theorem abs'_nn (s : Int) : 0 ≤ abs' s := by unfold abs'; split <;> omega
def f (xss : List (List Int)) (X Y t : Nat) : Int := abs' (val xss X Y t)
/-- the greatest of the first n -/
def mx (g : Nat → Int) : Nat → Int
  | 0 => 0
  | n + 1 => if mx g n < g n then g n else mx g n
/-- the place of the first greatest of the first n -/
def bs (g : Nat → Int) : Nat → Nat
  | 0 => 0
  | n + 1 => if n = 0 ∨ g (bs g n) < g n then n else bs g n
theorem mx_nn (g : Nat → Int) : ∀ n, 0 ≤ mx g n
  | 0 => Int.le_refl _
  | n + 1 => by have := mx_nn g n; unfold mx; split <;> omega
theorem bs_is (g : Nat → Int) (h0 : ∀ t, 0 ≤ g t) : ∀ n, 0 < n → bs g n < n ∧ g (bs g n) = mx g n ∧ ∀ t, t < bs g n → g t < g (bs g n)
  | 0, h => absurd h (Nat.lt_irrefl _)
  | n + 1, _ => by
    rcases Nat.eq_zero_or_pos n with z | z
    · subst z
      refine ⟨by simp [bs], ?_, fun t ht => by simp [bs] at ht⟩
      have := h0 0
      show g 0 = if mx g 0 < g 0 then g 0 else mx g 0
      have hz : mx g 0 = 0 := rfl
      split <;> omega
    · obtain ⟨h1, h2, h3⟩ := bs_is g h0 n z
      by_cases h : g (bs g n) < g n
      · have e : bs g (n + 1) = n := by show (if n = 0 ∨ g (bs g n) < g n then n else bs g n) = _; rw [if_pos (Or.inr h)]
        rw [e]
        refine ⟨by omega, ?_, fun t ht => ?_⟩
        · unfold mx; rw [if_pos (by omega)]
        · have hle : ∀ k t, t < k → g t ≤ mx g k := by
            intro k
            induction k with
            | zero => intro t ht; omega
            | succ k ih =>
              intro t ht
              unfold mx
              by_cases e : t = k
              · subst e; split <;> omega
              · have := ih t (by omega); split <;> omega
          have := hle n t ht
          omega
      · have e : bs g (n + 1) = bs g n := by show (if n = 0 ∨ g (bs g n) < g n then n else bs g n) = _; rw [if_neg (by omega)]
        rw [e]
        refine ⟨by omega, ?_, h3⟩
        unfold mx; rw [if_neg (by omega)]; exact h2
theorem f_bd {wh : Int} {xss : List (List Int)} {X Y : Nat} (hb : okBox X Y wh xss) {t : Nat} (ht : t < num X Y) : 0 ≤ f xss X Y t ∧ f xss X Y t ≤ 8000 ∧ -8000 ≤ val xss X Y t ∧ val xss X Y t ≤ 8000 := by
  have h4 := pl_ok hb.1 ht
  have hx : som.all X Y wh xss (pl1 X Y t).1 (pl1 X Y t).2 (pl2 Y t).1 (pl2 Y t).2 (pl3 t) := ⟨hb, h4⟩
  have hb2 := som.sum_bd hx 4 (Nat.le_refl _)
  have e : val xss X Y t = worth.cum (som.part xss (pl1 X Y t).1 (pl1 X Y t).2 (pl2 Y t).1 (pl2 Y t).2 (pl3 t) Y) 4 := rfl
  rw [← e] at hb2
  have := abs'_nn (val xss X Y t)
  unfold f
  refine ⟨this, ?_, hb2.1, hb2.2⟩
  unfold abs'
  split <;> omega
end Go.Proofs.Ytimfnhejiiagmaa.gsm
