/- Rows of the call's own, updated in place. It speaks of no program. -/
import Derived.Test.YtneonebgneonkaaWrm
import Derived.Test.YtneonebgneonkaaCll
namespace Go.Proofs.Ytneonebgneonkaa.upd
open Go.RowKit Go.Deep Go.Proofs.Ytneonebgneonkaa.base
open Go.Proofs.Ytneonebgneonkaa.play (within)
open Go.Proofs.Ytneonebgneonkaa.wrm (tab)

theorem ints_set {w : World} {b o n c : Nat} {xs : List Int} (h : Ints w (.slice (some ⟨b, o, none⟩) n c) xs) (k : Nat) (hk : k < xs.length) (z : Int) : Ints (w.setCell ⟨b, o + k, none⟩ (.int .i64 z)) (.slice (some ⟨b, o, none⟩) n c) (xs.set k z) := by
  obtain ⟨A, cap, hv, h1, h2, hc⟩ := h
  refine ⟨A, cap, by rw [hv, len_i64s, len_i64s, List.length_set], by rw [len_i64s] at h1 ⊢; rw [List.length_set]; exact h1, h2, fun j u hj => ?_⟩
  have hjl : j < xs.length := by
    rcases Nat.lt_or_ge j xs.length with h' | h'
    · exact h'
    · rw [List.getElem?_eq_none (by rw [len_i64s, List.length_set]; exact h')] at hj; cases hj
  obtain ⟨b', o', hA, hcell⟩ := hc j _ (get_i64s hjl)
  rw [hA] at hv
  injection hv with e1 _ _
  injection e1 with e1
  injection e1 with e1 e2
  subst e1; subst e2
  refine ⟨b, o, hA, ?_⟩
  rw [get_i64s (by rw [List.length_set]; exact hjl)] at hj
  injection hj with hj
  by_cases e : j = k
  · subst e
    rw [World.cell?_setCell_same _ _ _ hcell, ← hj]
    simp
  · rw [World.cell?_setCell_other _ _ _ _ (by intro h'; injection h' with _ h' _; omega), hcell, ← hj]
    rw [List.getElem_set_ne (by omega)]
theorem own_set {w : World} {B T : Nat} {v : Value} {vals : List Value} {xss : List (List Int)} (h : OwnVals w B T v vals xss) {r k b o n c : Nat} (hr : r < xss.length) (hv : vals[r]? = some (.slice (some ⟨b, o, none⟩) n c)) (hk : k < xss[r].length) (hkn : k < n) (z : Int) :
    OwnVals (w.setCell ⟨b, o + k, none⟩ (.int .i64 z)) B T v vals (xss.set r (xss[r].set k z)) := by
  have hin : In (.slice (some ⟨b, o, none⟩) n c) ⟨b, o + k, none⟩ := ⟨b, o, n, c, rfl, rfl, rfl, by show o ≤ o + k; omega, by show o + k < o + n; omega⟩
  have hw : Wrote (In (.slice (some ⟨b, o, none⟩) n c)) w (w.setCell ⟨b, o + k, none⟩ (.int .i64 z)) := (Wrote.refl _ w).setCell hin _
  have hm := List.mem_of_getElem? hv
  refine ⟨h.outer.wrote hw (fun p hp hS => h.apart _ hm p hS hp), by rw [List.length_set]; exact h.len, fun s hs => ?_, h.geo, h.lto, h.ge, h.lt, fun u hu p hp => (hw.frozen p).trans (h.free u hu p hp), h.apart, h.each⟩
  rw [List.length_set] at hs
  obtain ⟨u, hu, hi⟩ := h.row s hs
  by_cases e : s = r
  · subst e
    rw [hv] at hu
    injection hu with hu
    subst hu
    refine ⟨_, hv, ?_⟩
    rw [List.getElem_set_self]
    exact ints_set hi k hk z
  · refine ⟨u, hu, ?_⟩
    rw [List.getElem_set_ne (by omega)]
    exact Sl.wrote hi hw (fun p hp hS => h.each r s _ _ (by omega) hv hu p hS hp)

/-- eight numbers in two rows, the first t of them flipped -/
def fl (p : Nat → Int) (t i : Nat) : Int := if i < t then 1 - p i else p i
def rw8 (p : Nat → Int) (t : Nat) : List (List Int) := [[fl p t 0, fl p t 1, fl p t 2, fl p t 3], [fl p t 4, fl p t 5, fl p t 6, fl p t 7]]
def pf (yss : List (List Int)) (i : Nat) : Int := (yss.getD (i / 4) []).getD (i % 4) 0
theorem rw8_zero {yss : List (List Int)} (h : tab 4 yss) : rw8 (pf yss) 0 = yss := by
  obtain ⟨h1, h2, h3⟩ := h
  match yss, h1 with
  | [a, b], _ =>
    have ha : a.length = 4 := by have := h2.1; simp at this; omega
    have hb : b.length = 4 := by have := h3.1; simp at this; omega
    match a, ha with
    | [a0, a1, a2, a3], _ =>
      match b, hb with
      | [b0, b1, b2, b3], _ => rfl
theorem rw8_step (p : Nat → Int) {r k : Nat} (hr : r < 2) (hk : k < 4) : ∃ h : r < (rw8 p (4 * r + k)).length, k < ((rw8 p (4 * r + k))[r]).length ∧ (rw8 p (4 * r + k)).set r (((rw8 p (4 * r + k))[r]).set k (1 - p (4 * r + k))) = rw8 p (4 * r + k + 1) := by
  refine ⟨hr, ?_⟩
  obtain rfl | rfl : r = 0 ∨ r = 1 := by omega
  all_goals
    obtain rfl | rfl | rfl | rfl : k = 0 ∨ k = 1 ∨ k = 2 ∨ k = 3 := by omega
    all_goals exact ⟨by simp [rw8], by simp [rw8, fl]⟩
theorem rw8_at (p : Nat → Int) {r k : Nat} (hr : r < 2) (hk : k < 4) : ∃ (h : r < (rw8 p (4 * r + k)).length) (h2 : k < ((rw8 p (4 * r + k))[r]).length), ((rw8 p (4 * r + k))[r])[k] = p (4 * r + k) := by
  obtain ⟨h1, h2, _⟩ := rw8_step p hr hk
  refine ⟨h1, h2, ?_⟩
  obtain rfl | rfl : r = 0 ∨ r = 1 := by omega
  all_goals
    obtain rfl | rfl | rfl | rfl : k = 0 ∨ k = 1 ∨ k = 2 ∨ k = 3 := by omega
    all_goals simp [rw8, fl]
theorem rw8_len (p : Nat → Int) (t r : Nat) (hr : r < 2) : ∃ h : r < (rw8 p t).length, ((rw8 p t)[r]).length = 4 := by
  refine ⟨hr, ?_⟩
  obtain rfl | rfl : r = 0 ∨ r = 1 := by omega
  all_goals rfl

end Go.Proofs.Ytneonebgneonkaa.upd
