/- SumFunctional of the model. -/
import Derived.Test.YtimfnhejiiagmaaSfm
import Derived.Test.YtimfnhejiiagmaaSto
import Derived.Test.YtimfnhejiiagmaaStep
import Derived.Test.YtimfnhejiiagmaaMake
import Derived.Test.YtimfnhejiiagmaaQfo
import Derived.Deep.RegionHeld3
namespace Go.Proofs.Ytimfnhejiiagmaa.sfs
open Go.RowKit Go.Deep Go.Proofs.Ytimfnhejiiagmaa.base
open Go.Proofs.Ytimfnhejiiagmaa.ints (ret_int infoInt infoInts)
open Go.Proofs.Ytimfnhejiiagmaa.val (okSizes ret_b)
open Go.Proofs.Ytimfnhejiiagmaa.prt (two_cells)
open Go.Proofs.Ytimfnhejiiagmaa.qfo (okFour fourB fourB_yes fourB_no)
open Go.Proofs.Ytimfnhejiiagmaa.sfm
open Go.Proofs.Ytimfnhejiiagmaa.sto (Sto)

theorem lows22 {n : Nat} {w w' : World} {b b' : Nat} {u0 u1 u2 u3 : Value} (h0 : w.cell? ⟨b, 0, none⟩ = some u0) (h1 : w.cell? ⟨b, 1, none⟩ = some u1) (h2 : w.cell? ⟨b', 0, none⟩ = some u2) (h3 : w.cell? ⟨b', 1, none⟩ = some u3) (hb : b < n) (hb' : b' < n) (h : step.Low n w w') :
    w'.cell? ⟨b, 0, none⟩ = some u0 ∧ w'.cell? ⟨b, 1, none⟩ = some u1 ∧ w'.cell? ⟨b', 0, none⟩ = some u2 ∧ w'.cell? ⟨b', 1, none⟩ = some u3 :=
  ⟨(h _ hb).trans h0, (h _ hb).trans h1, (h _ hb').trans h2, (h _ hb').trans h3⟩
theorem wrap_nat {p q t n : Nat} (e : p + q = t) (h : t < n) (h9 : n ≤ 9) : IntKind.i64.wrap ((p : Int) + (q : Int)) = (t : Int) := by
  have e2 : (p : Int) + (q : Int) = (t : Int) := by omega
  rw [e2]
  exact IntWalk.i64_in _ (by omega)
theorem wrap_nat' {p q t n : Nat} (e : p + q = t) (h : t < n) (h9 : n ≤ 9) : wrap64 ((p : Int) + (q : Int)) = (t : Int) := by
  have e2 : (p : Int) + (q : Int) = (t : Int) := by omega
  rw [e2]
  exact IntWalk.wrap64_in _ (by omega)
/-! ### what the stores make -/
def four (s : Int) : List Int := [s, -s, -s, s]
def zeros (n : Nat) : List (List Int) := List.replicate n [0, 0, 0, 0]
theorem zeros_succ (n : Nat) : zeros (n + 1) = zeros n ++ [[0, 0, 0, 0]] := List.replicate_succ'
/-- the places in order -/
def place (A B C D Y : Nat) (k : Nat) : Nat := (if k < 2 then A else B) * Y + (if k % 2 = 0 then C else D)
/-- the rows behind k stores -/
def L (A B C D : Nat) (m : Int) (Y n : Nat) : Nat → List (List Int)
  | 0 => zeros n
  | k + 1 => (L A B C D m Y n k).set (place A B C D Y k) (four (sg m k))
theorem L_len (A B C D : Nat) (m : Int) (Y n : Nat) : ∀ k, (L A B C D m Y n k).length = n
  | 0 => by simp [L, zeros]
  | k + 1 => by rw [L, List.length_set]; exact L_len A B C D m Y n k
theorem place_is {p q Y t : Nat} (hq : q < Y) : p * Y + q = t ↔ t / Y = p ∧ t % Y = q := by
  constructor
  · rintro rfl
    exact ⟨by rw [Nat.add_comm, Nat.add_mul_div_right _ _ (by omega), Nat.div_eq_of_lt hq, Nat.zero_add], by rw [Nat.add_comm, Nat.add_mul_mod_self_right, Nat.mod_eq_of_lt hq]⟩
  · rintro ⟨h1, h2⟩
    have := Nat.div_add_mod t Y
    rw [h1, h2, Nat.mul_comm] at this
    exact this
theorem L_done (A B C D : Nat) (m : Int) (Y n : Nat) (hC : C < Y) (hD : D < Y) : L A B C D m Y n 4 = rows A B C D m Y n := by
  refine List.ext_getElem (by rw [L_len]; unfold rows; rw [make.len_rowsOf]) (fun t h1 h2 => ?_)
  have e2 : (rows (A : Int) B C D m Y n)[t] = four (fs A B C D m ((t / Y : Nat) : Int) ((t % Y : Nat) : Int)) := by
    simp [rows, make.rowsOf, make.quad, N, four]
  rw [e2]
  have st : ∀ k (p q : Nat) (hk : t < (L A B C D m Y n (k + 1)).length) (hk' : t < (L A B C D m Y n k).length), place A B C D Y k = p * Y + q → q < Y →
      (L A B C D m Y n (k + 1))[t] = if ((t / Y : Nat) : Int) = (p : Int) ∧ ((t % Y : Nat) : Int) = (q : Int) then four (sg m k) else (L A B C D m Y n k)[t] := by
    intro k p q hk hk' hp hq
    show ((L A B C D m Y n k).set (place A B C D Y k) (four (sg m k)))[t]'(by rw [List.length_set]; exact hk') = _
    rw [List.getElem_set, hp]
    by_cases h : p * Y + q = t
    · have := (place_is hq).1 h
      rw [if_pos h, if_pos ⟨by omega, by omega⟩]
    · rw [if_neg h, if_neg (fun g => h ((place_is hq).2 ⟨by omega, by omega⟩))]
  have l3 : t < (L A B C D m Y n 3).length := by rw [L_len] at h1 ⊢; exact h1
  have l2 : t < (L A B C D m Y n 2).length := by rw [L_len] at h1 ⊢; exact h1
  have l1 : t < (L A B C D m Y n 1).length := by rw [L_len] at h1 ⊢; exact h1
  have l0 : t < (L A B C D m Y n 0).length := by rw [L_len] at h1 ⊢; exact h1
  rw [st 3 B D h1 l3 rfl hD, st 2 B C l3 l2 rfl hC, st 1 A D l2 l1 rfl hD, st 0 A C l1 l0 rfl hC]
  unfold fs
  repeat' split
  all_goals first | rfl | simp [L, zeros, four]


end Go.Proofs.Ytimfnhejiiagmaa.sfs
