/- SumOf: the arithmetic. -/
import Derived.Test.YtimfnhejiiagmaaSfs
import Derived.Test.YtimfnhejiiagmaaWorth
namespace Go.Proofs.Ytimfnhejiiagmaa.som
open Go.RowKit Go.Deep Go.Proofs.Ytimfnhejiiagmaa.base
open Go.Proofs.Ytimfnhejiiagmaa.val (okSizes okBox ret_b)
open Go.Proofs.Ytimfnhejiiagmaa.row (nn at_ agr)
open Go.Proofs.Ytimfnhejiiagmaa.worth (cum worth term okFun)
open Go.Proofs.Ytimfnhejiiagmaa.qfo (okFour)
open Go.Proofs.Ytimfnhejiiagmaa.sfm

def pk (a b : Int) (k : Nat) : Int := if k < 2 then a else b
def qk (c d : Int) (k : Nat) : Int := if k % 2 = 0 then c else d
/-- the agreement at place k, with its sign -/
def part (xss : List (List Int)) (a b c d m y : Int) (k : Nat) : Int := sg m k * agr xss (at_ y (pk a b k) (qk c d k))
def sum (xss : List (List Int)) (a b c d m y : Int) : Int := cum (part xss a b c d m y) 4
def all (x y wh : Int) (xss : List (List Int)) (a b c d m : Int) : Prop := okBox x y wh xss ∧ okFour x y a b c d m
open Classical in
noncomputable def res (x y wh : Int) (xss : List (List Int)) (a b c d m : Int) : Int × Bool := if all x y wh xss a b c d m then (sum xss a b c d m y, true) else (0, false)
theorem res_yes {x y wh : Int} {xss : List (List Int)} {a b c d m : Int} (h : all x y wh xss a b c d m) : res x y wh xss a b c d m = (sum xss a b c d m y, true) := if_pos h
theorem res_no {x y wh : Int} {xss : List (List Int)} {a b c d m : Int} (h : ¬ all x y wh xss a b c d m) : res x y wh xss a b c d m = (0, false) := if_neg h

theorem cum_add (f g : Nat → Int) : ∀ n, cum (fun t => f t + g t) n = cum f n + cum g n
  | 0 => rfl
  | n + 1 => by simp only [cum]; rw [cum_add f g n]; omega
theorem cum_zero : ∀ n, cum (fun _ => 0) n = 0
  | 0 => rfl
  | n + 1 => by simp only [cum]; rw [cum_zero n]; rfl
theorem cum_ind (p : Nat) (v : Int) : ∀ n, cum (fun t => if t = p then v else 0) n = if p < n then v else 0
  | 0 => by simp [cum]
  | n + 1 => by
    simp only [cum]
    rw [cum_ind p v n]
    by_cases h : n = p
    · rw [if_neg (by omega), if_pos h, if_pos (by omega)]; omega
    · by_cases h2 : p < n
      · rw [if_pos h2, if_neg h, if_pos (by omega)]; omega
      · rw [if_neg h2, if_neg h, if_neg (by omega)]; rfl
theorem split4 (A B C D i j m g : Int) (hAB : A < B) (hCD : C < D) :
    fs A B C D m i j * g = (if i = A ∧ j = C then sg m 0 * g else 0) + (if i = A ∧ j = D then sg m 1 * g else 0) + (if i = B ∧ j = C then sg m 2 * g else 0) + (if i = B ∧ j = D then sg m 3 * g else 0) := by
  by_cases h1 : i = A
  · have h2 : ¬ i = B := by omega
    by_cases h3 : j = C
    · have h4 : ¬ j = D := by omega
      simp [fs, h1, h3, show ¬ A = B by omega, show ¬ C = D by omega]
    · by_cases h4 : j = D
      · simp [fs, h1, h4, show ¬ A = B by omega, show ¬ D = C by omega]
      · simp [fs, h3, h4]
  · by_cases h2 : i = B
    · by_cases h3 : j = C
      · simp [fs, h2, h3, show ¬ B = A by omega, show ¬ C = D by omega]
      · by_cases h4 : j = D
        · simp [fs, h2, h4, show ¬ B = A by omega, show ¬ D = C by omega]
        · simp [fs, h3, h4]
    · simp [fs, h1, h2]
theorem ite_place (xss : List (List Int)) (s : Int) (p q Y r : Nat) (hq : q < Y) :
    (if ((r / Y : Nat) : Int) = (p : Int) ∧ ((r % Y : Nat) : Int) = (q : Int) then s * agr xss r else 0) = if r = p * Y + q then s * agr xss (p * Y + q) else 0 := by
  by_cases h : r = p * Y + q
  · have := (sfs.place_is hq).1 h.symm
    rw [if_pos ⟨by omega, by omega⟩, if_pos h, h]
  · rw [if_neg h, if_neg (fun g => h ((sfs.place_is hq).2 ⟨by omega, by omega⟩).symm)]
theorem mul4 (F n0 n1 n2 n3 : Int) : F * n0 + -F * n1 + -F * n2 + F * n3 = F * (n0 - n1 - n2 + n3) := by
  rw [Int.mul_add, Int.mul_sub, Int.mul_sub, Int.neg_mul, Int.neg_mul]
  omega
theorem worth_rows (xss : List (List Int)) (A B C D : Nat) (m : Int) (Y : Nat) (hAB : A < B) (hCD : C < D) (hD : D < Y) (hn : B * Y + D < xss.length) :
    worth (rows A B C D m Y xss.length) xss = sum xss A B C D m Y := by
  have e1 : ∀ r, r ≤ xss.length → cum (term (rows A B C D m Y xss.length) xss) (4 * r) = cum (fun r => fs A B C D m ((r / Y : Nat) : Int) ((r % Y : Nat) : Int) * agr xss r) r := by
    intro r
    induction r with
    | zero => intro _; rfl
    | succ r ih =>
      intro hr
      have hf : ∀ k, k < 4 → nn (rows (A : Int) B C D m Y xss.length) r k = N A B C D m Y r k := fun k hk => by
        unfold nn
        rw [row.getD_lt (by unfold rows; rw [make.len_rowsOf]; omega)]
        rcases (by omega : k = 0 ∨ k = 1 ∨ k = 2 ∨ k = 3) with rfl | rfl | rfl | rfl <;> simp [rows, make.rowsOf, make.quad]
      rw [show 4 * (r + 1) = 4 * r + (3 + 1) by omega, worth.cum_at _ _ (by omega), show 4 * r + 3 = 4 * r + (2 + 1) by omega, worth.cum_at _ _ (by omega), show 4 * r + 2 = 4 * r + (1 + 1) by omega, worth.cum_at _ _ (by omega), show 4 * r + 1 = 4 * r + (0 + 1) by omega, worth.cum_at _ _ (by omega), Nat.add_zero, ih (by omega)]
      rw [hf 0 (by omega), hf 1 (by omega), hf 2 (by omega), hf 3 (by omega)]
      simp only [cum]
      unfold agr
      rw [← mul4]
      simp [N]
      omega
  unfold worth
  rw [e1 _ (Nat.le_refl _)]
  have hAY : A * Y ≤ B * Y := Nat.mul_le_mul_right _ (by omega)
  have e2 : (fun r => fs (A : Int) B C D m ((r / Y : Nat) : Int) ((r % Y : Nat) : Int) * agr xss r) = fun r => (((if r = A * Y + C then sg m 0 * agr xss (A * Y + C) else 0) + (if r = A * Y + D then sg m 1 * agr xss (A * Y + D) else 0)) + (if r = B * Y + C then sg m 2 * agr xss (B * Y + C) else 0)) + (if r = B * Y + D then sg m 3 * agr xss (B * Y + D) else 0) := by
    funext r
    rw [split4 _ _ _ _ _ _ _ _ (by omega) (by omega), ite_place _ _ _ _ _ _ (by omega), ite_place _ _ _ _ _ _ (by omega), ite_place _ _ _ _ _ _ (by omega), ite_place _ _ _ _ _ _ (by omega)]
  rw [e2, cum_add, cum_add, cum_add, cum_ind, cum_ind, cum_ind, cum_ind, if_pos (by omega), if_pos (by omega), if_pos (by omega), if_pos (by omega)]
  have ea : ∀ p q : Nat, at_ (Y : Int) (p : Int) (q : Int) = p * Y + q := fun p q => by
    unfold at_
    rw [← Int.natCast_mul, ← Int.natCast_add, Int.toNat_natCast]
  simp [sum, cum, part, pk, qk, ea]
theorem okFun_rows {x y a b c d m : Int} (h : okFour x y a b c d m) : okFun x y (rows a b c d m y.toNat (x.toNat * y.toNat)) := by
  have hx := h.1.1
  have hy := h.1.2
  refine ⟨h.1, ?_, fun k hk => ?_⟩
  · unfold rows
    rw [make.len_rowsOf, Int.natCast_mul, Int.toNat_of_nonneg (by omega), Int.toNat_of_nonneg (by omega)]
  · have e : (rows a b c d m y.toNat (x.toNat * y.toNat))[k] = make.quad (N a b c d m y.toNat) k := by simp [rows, make.rowsOf]
    rw [e]
    have hb := fs_bd a b c d m ((k / y.toNat : Nat) : Int) ((k % y.toNat : Nat) : Int)
    obtain ⟨F, hF⟩ : ∃ F, fs a b c d m ((k / y.toNat : Nat) : Int) ((k % y.toNat : Nat) : Int) = F := ⟨_, rfl⟩
    rw [hF] at hb
    have e2 : make.quad (N a b c d m y.toNat) k = [F, -F, -F, F] := by
      unfold make.quad N
      rw [hF]
      rfl
    rw [e2]
    refine ⟨rfl, fun j hj => ?_⟩
    have hj4 : j < 4 := hj
    rcases (by omega : j = 0 ∨ j = 1 ∨ j = 2 ∨ j = 3) with rfl | rfl | rfl | rfl <;> simp <;> omega
theorem sum_is {x y wh a b c d m : Int} {xss : List (List Int)} (h : all x y wh xss a b c d m) : worth (rows a b c d m y.toNat (x.toNat * y.toNat)) xss = sum xss a b c d m y := by
  obtain ⟨hb, h4⟩ := h
  obtain ⟨X, rfl⟩ : ∃ X : Nat, x = X := ⟨x.toNat, by have := h4.1.1; omega⟩
  obtain ⟨Y, rfl⟩ : ∃ Y : Nat, y = Y := ⟨y.toNat, by have := h4.1.2; omega⟩
  obtain ⟨A, rfl⟩ : ∃ A : Nat, a = A := ⟨a.toNat, by have := h4.2.1; omega⟩
  obtain ⟨B, rfl⟩ : ∃ B : Nat, b = B := ⟨b.toNat, by have := h4.2.1; omega⟩
  obtain ⟨C, rfl⟩ : ∃ C : Nat, c = C := ⟨c.toNat, by have := h4.2.2.1; omega⟩
  obtain ⟨D, rfl⟩ : ∃ D : Nat, d = D := ⟨d.toNat, by have := h4.2.2.1; omega⟩
  have hl : X * Y = xss.length := by
    have := hb.2.2.1
    rw [← Int.natCast_mul] at this
    omega
  rw [show ((X : Int)).toNat * ((Y : Int)).toNat = X * Y from by simp, show ((Y : Int)).toNat = Y from by simp, hl]
  have h1 := h4.2.1
  have h2 := h4.2.2.1
  refine worth_rows xss A B C D m Y (by omega) (by omega) (by omega) ?_
  rw [← hl]
  have g1 : B * Y + D < (B + 1) * Y := by rw [Nat.add_mul]; omega
  have g2 : (B + 1) * Y ≤ X * Y := Nat.mul_le_mul_right _ (by omega)
  omega
theorem agr_bd {x y wh : Int} {xss : List (List Int)} (h : okBox x y wh xss) {r : Nat} (hr : r < xss.length) : -2000 ≤ agr xss r ∧ agr xss r ≤ 2000 := by
  have h0 := row.nn_bd h hr (k := 0) (by omega)
  have h1 := row.nn_bd h hr (k := 1) (by omega)
  have h2 := row.nn_bd h hr (k := 2) (by omega)
  have h3 := row.nn_bd h hr (k := 3) (by omega)
  unfold agr
  omega
theorem sum_bd {xss : List (List Int)} {x y wh a b c d m : Int} (h : all x y wh xss a b c d m) (k : Nat) (hk : k ≤ 4) : -8000 ≤ cum (part xss a b c d m y) k ∧ cum (part xss a b c d m y) k ≤ 8000 := by
  have hb := worth.cum_bd (g := part xss a b c d m y) (m := 2000) k (fun t _ => by
    have hp : 0 ≤ pk a b t ∧ pk a b t < x := by have := h.2.2.1; unfold pk; split <;> omega
    have hq : 0 ≤ qk c d t ∧ qk c d t < y := by have := h.2.2.2.1; unfold qk; split <;> omega
    have hr := row.at_lt h.1 hp.1 hp.2 hq.1 hq.2
    have hg := agr_bd h.1 hr
    unfold part
    have hs : sg m t = -1 ∨ sg m t = 1 := by unfold sg; split <;> simp
    rcases hs with e | e <;> rw [e] <;> omega)
  omega
end Go.Proofs.Ytimfnhejiiagmaa.som
