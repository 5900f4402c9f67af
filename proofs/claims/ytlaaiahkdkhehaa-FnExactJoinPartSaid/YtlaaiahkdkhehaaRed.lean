/- ReduceBox: the greatest common divisor, the arithmetic. -/
import Derived.Test.YtlaaiahkdkhehaaMake
import Derived.BigRegion
namespace Go.Proofs.Ytlaaiahkdkhehaa.red
open Go.RowKit Go.Deep Go.Proofs.Ytlaaiahkdkhehaa.base
open Go.Proofs.Ytlaaiahkdkhehaa.ints (ret_int infoInt infoInts)
open Go.Proofs.Ytlaaiahkdkhehaa.rws (total)
open Go.Proofs.Ytlaaiahkdkhehaa.val (okSizes okBox boxB boxB_yes boxB_no)
open Go.Proofs.Ytlaaiahkdkhehaa.row (nn nn_bd at_ at_lt)

theorem quo_w {n kk : Int} (h0 : 0 ≤ n) (h1 : n ≤ 1000) (k0 : 1 ≤ kk) : wrap64 (n.tdiv kk) = n / kk := by
  have a := Int.ediv_nonneg h0 (show 0 ≤ kk by omega)
  have b : n / kk ≤ n := Int.ediv_le_self kk h0
  rw [Int.tdiv_eq_ediv_of_nonneg h0]
  exact IntWalk.wrap64_in _ (by omega)
/-- the greatest common divisor of the whole and the first numbers -/
def cg (xss : List (List Int)) (wh : Int) : Nat → Nat
  | 0 => wh.toNat
  | t + 1 => Nat.gcd (cg xss wh t) (nn xss (t / 4) (t % 4)).toNat
def dv (wh : Int) (xss : List (List Int)) : Nat := cg xss wh (4 * xss.length)
theorem cg_pos {xss : List (List Int)} {wh : Int} (h : 1 ≤ wh) : ∀ t, 0 < cg xss wh t
  | 0 => by unfold cg; omega
  | t + 1 => Nat.gcd_pos_of_pos_left _ (cg_pos h t)
theorem cg_wh (xss : List (List Int)) (wh : Int) : ∀ t, cg xss wh t ∣ wh.toNat
  | 0 => Nat.dvd_refl _
  | t + 1 => Nat.dvd_trans (Nat.gcd_dvd_left _ _) (cg_wh xss wh t)
theorem cg_le {xss : List (List Int)} {wh : Int} (h : 1 ≤ wh) (t : Nat) : cg xss wh t ≤ wh.toNat := Nat.le_of_dvd (by omega) (cg_wh xss wh t)
theorem cg_nn (xss : List (List Int)) (wh : Int) : ∀ t s, s < t → cg xss wh t ∣ (nn xss (s / 4) (s % 4)).toNat
  | 0, s, h => by omega
  | t + 1, s, h => by
    by_cases e : s = t
    · rw [e]; exact Nat.gcd_dvd_right _ _
    · exact Nat.dvd_trans (Nat.gcd_dvd_left _ _) (cg_nn xss wh t s (by omega))
theorem cg_at (xss : List (List Int)) (wh : Int) {r c : Nat} (h : c < 4) : cg xss wh (4 * r + (c + 1)) = Nat.gcd (cg xss wh (4 * r + c)) (nn xss r c).toNat := by
  show Nat.gcd (cg xss wh (4 * r + c)) (nn xss ((4 * r + c) / 4) ((4 * r + c) % 4)).toNat = _
  rw [show (4 * r + c) / 4 = r from by omega, show (4 * r + c) % 4 = c from by omega]
theorem dv_nn {xss : List (List Int)} {wh : Int} {r c : Nat} (hr : r < xss.length) (hc : c < 4) : dv wh xss ∣ (nn xss r c).toNat := by
  have := cg_nn xss wh (4 * xss.length) (4 * r + c) (by omega)
  rw [show (4 * r + c) / 4 = r from by omega, show (4 * r + c) % 4 = c from by omega] at this
  exact this
/-- a number that is divided has its part as often -/
theorem part {n : Int} {d : Nat} (h0 : 0 ≤ n) (h : d ∣ n.toNat) (hd : 0 < d) : ∃ m : Int, 0 ≤ m ∧ n = m * d ∧ n / (d : Int) = m := by
  obtain ⟨q, hq⟩ := h
  refine ⟨q, by omega, ?_, ?_⟩
  · have : n = (n.toNat : Int) := by omega
    rw [this, hq, Int.natCast_mul, Int.mul_comm]
  · have : n = (q : Int) * (d : Int) := by
      have : n = (n.toNat : Int) := by omega
      rw [this, hq, Int.natCast_mul, Int.mul_comm]
    rw [this, Int.mul_ediv_cancel _ (by omega)]

def N (xss : List (List Int)) (d : Int) (r k : Nat) : Int := nn xss r k / d
theorem at_nat (a Y c : Nat) : at_ (Y : Int) (a : Int) (c : Int) = a * Y + c := by
  unfold at_
  rw [← Int.natCast_mul, ← Int.natCast_add, Int.toNat_natCast]
def st (n0 n1 n2 n3 kk : Int) (j : Nat) : Array Value := #[.int .i64 (if 0 < j then n0 / kk else n0), .int .i64 (if 1 < j then n1 / kk else n1), .int .i64 (if 2 < j then n2 / kk else n2), .int .i64 (if 3 < j then n3 / kk else n3)]
theorem sum4 {wh : Int} {row : List Int} (h : val.okRow wh row) : row.getD 0 0 + row.getD 1 0 + row.getD 2 0 + row.getD 3 0 = wh := by
  obtain ⟨h1, h2, h3⟩ := h
  match row, h1 with
  | [a, b, c, d], _ => simp at h3; simp; omega
theorem dv_pos {x y wh : Int} {xss : List (List Int)} (h : okBox x y wh xss) : 0 < dv wh xss := cg_pos h.2.1.1 _
theorem dv_le {x y wh : Int} {xss : List (List Int)} (h : okBox x y wh xss) : (dv wh xss : Int) ≤ 1000 := by
  have := cg_le (xss := xss) h.2.1.1 (4 * xss.length)
  have := h.2.1
  unfold dv
  omega
theorem box_ok {X Y : Nat} {wh : Int} {xss : List (List Int)} (h : okBox X Y wh xss) : okBox X Y (wh / (dv wh xss : Int)) (make.rowsOf (N xss (dv wh xss)) (X * Y)) := by
  have hp := dv_pos h
  have hw := h.2.1
  obtain ⟨m, hm0, hm1, hm2⟩ := part (show 0 ≤ wh by omega) (cg_wh xss wh _) hp
  have hdz : (1 : Int) ≤ (dv wh xss : Int) := by omega
  change wh / (dv wh xss : Int) = m at hm2
  change wh = m * (dv wh xss : Int) at hm1
  rw [hm2]
  have hm3 : 1 ≤ m := by
    rcases Int.lt_or_le m 1 with g | g
    · have : m = 0 := by omega
      rw [this] at hm1; omega
    · exact g
  have hm4 : m ≤ 1000 := by rw [← hm2]; exact Int.le_trans (Int.ediv_le_self _ (by omega)) hw.2
  refine make.ok_rowsOf h.1 ⟨hm3, hm4⟩ (fun r hr => ?_)
  have hl := h.2.2.1
  have hr' : r < xss.length := by rw [← Int.natCast_mul] at hl; omega
  have hs : nn xss r 0 + nn xss r 1 + nn xss r 2 + nn xss r 3 = wh := sum4 (row.row_ok h hr')
  obtain ⟨a0, p0, q0, e0⟩ := part (row.nn_bd h hr' (k := 0) (by omega)).1 (dv_nn (wh := wh) hr' (c := 0) (by omega)) hp
  obtain ⟨a1, p1, q1, e1⟩ := part (row.nn_bd h hr' (k := 1) (by omega)).1 (dv_nn (wh := wh) hr' (c := 1) (by omega)) hp
  obtain ⟨a2, p2, q2, e2⟩ := part (row.nn_bd h hr' (k := 2) (by omega)).1 (dv_nn (wh := wh) hr' (c := 2) (by omega)) hp
  obtain ⟨a3, p3, q3, e3⟩ := part (row.nn_bd h hr' (k := 3) (by omega)).1 (dv_nn (wh := wh) hr' (c := 3) (by omega)) hp
  have hsum : a0 + a1 + a2 + a3 = m := by
    have : (a0 + a1 + a2 + a3) * (dv wh xss : Int) = m * (dv wh xss : Int) := by
      rw [Int.add_mul, Int.add_mul, Int.add_mul, ← q0, ← q1, ← q2, ← q3, hs, ← hm1]
    exact Int.eq_of_mul_eq_mul_right (by omega) this
  refine make.okRow_quad (fun k hk => ?_) ?_
  · unfold N
    match k, hk with
    | 0, _ => rw [e0]; omega
    | 1, _ => rw [e1]; omega
    | 2, _ => rw [e2]; omega
    | 3, _ => rw [e3]; omega
  · unfold N
    rw [e0, e1, e2, e3]; exact hsum

open Classical in
noncomputable def res (x y wh : Int) (xss : List (List Int)) : make.Res := if okBox x y wh xss then ⟨x, y, wh / (dv wh xss : Int), make.rowsOf (N xss (dv wh xss)) (x * y).toNat, true⟩ else make.Res.zero
theorem res_yes {x y wh : Int} {xss : List (List Int)} (h : okBox x y wh xss) : res x y wh xss = ⟨x, y, wh / (dv wh xss : Int), make.rowsOf (N xss (dv wh xss)) (x * y).toNat, true⟩ := if_pos h
theorem res_no {x y wh : Int} {xss : List (List Int)} (h : ¬ okBox x y wh xss) : res x y wh xss = make.Res.zero := if_neg h
theorem res_nat {X Y : Nat} {wh : Int} {xss : List (List Int)} (h : okBox X Y wh xss) : res X Y wh xss = ⟨X, Y, wh / (dv wh xss : Int), make.rowsOf (N xss (dv wh xss)) (X * Y), true⟩ := by
  rw [res_yes h, ← Int.natCast_mul, Int.toNat_natCast]
theorem tot (x y wh : Int) (xss : List (List Int)) : total (res x y wh xss).rows ≤ 1048576 := by
  by_cases h : okBox x y wh xss
  · rw [res_yes h]; exact make.total_rowsOf _ _ (by have := val.mul_small h.1; omega)
  · rw [res_no h]; exact Nat.zero_le _

end Go.Proofs.Ytlaaiahkdkhehaa.red
