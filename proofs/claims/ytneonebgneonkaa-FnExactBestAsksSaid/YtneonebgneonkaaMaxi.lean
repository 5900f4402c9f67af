/- slices.Max, slices.Min and slices.Index of integers; the first place of the greatest one. -/
import Derived.Test.YtneonebgneonkaaInts
namespace Go.Proofs.Ytneonebgneonkaa.maxi
open Go.RowKit Go.Deep Go.Proofs.Ytneonebgneonkaa.base
open Go.Proofs.Ytneonebgneonkaa.ints (ret_int infoInt infoInts)

/-- the first place of the greatest one of the first n -/
def bst (g : Nat → Int) : Nat → Nat
  | 0 => 0
  | k + 1 => if k = 0 ∨ g (bst g k) < g k then k else bst g k
theorem bst_new {g : Nat → Int} {k : Nat} (h : k = 0 ∨ g (bst g k) < g k) : bst g (k + 1) = k := if_pos h
theorem bst_old {g : Nat → Int} {k : Nat} (h : ¬ (k = 0 ∨ g (bst g k) < g k)) : bst g (k + 1) = bst g k := if_neg h
theorem bst_all (g : Nat → Int) : ∀ n, 0 < n → bst g n < n ∧ (∀ j, j < n → g j ≤ g (bst g n)) ∧ ∀ j, j < bst g n → g j < g (bst g n)
  | 0, h => by omega
  | k + 1, _ => by
    by_cases hk : k = 0
    · subst hk
      rw [bst_new (.inl rfl)]
      exact ⟨by omega, fun j hj => by rw [show j = 0 from by omega]; exact Int.le_refl _, fun j hj => by omega⟩
    · obtain ⟨h1, h2, h3⟩ := bst_all g k (by omega)
      by_cases hn : g (bst g k) < g k
      · rw [bst_new (.inr hn)]
        refine ⟨by omega, fun j hj => ?_, fun j hj => ?_⟩
        · by_cases e : j = k
          · rw [e]; exact Int.le_refl _
          · have := h2 j (by omega); omega
        · have := h2 j hj; omega
      · rw [bst_old (by omega)]
        refine ⟨by omega, fun j hj => ?_, h3⟩
        by_cases e : j = k
        · rw [e]; omega
        · exact h2 j (by omega)
theorem bst_lt (g : Nat → Int) {n : Nat} (h : 0 < n) : bst g n < n := (bst_all g n h).1
/-- the least one of the first n -/
def lst (g : Nat → Int) : Nat → Int
  | 0 => 0
  | k + 1 => if k = 0 ∨ g k < lst g k then g k else lst g k
theorem lst_new {g : Nat → Int} {k : Nat} (h : k = 0 ∨ g k < lst g k) : lst g (k + 1) = g k := if_pos h
theorem lst_old {g : Nat → Int} {k : Nat} (h : ¬ (k = 0 ∨ g k < lst g k)) : lst g (k + 1) = lst g k := if_neg h
def at_ (xs : List Int) (j : Nat) : Int := xs.getD j 0
theorem at_get {xs : List Int} {k : Nat} (h : k < xs.length) : at_ xs k = xs[k] := by simp [at_, List.getD, h]


set_option maxHeartbeats 2000000 in
theorem max_any (v : Value) (xs : List Int) (w : World) (h : Ints w v xs) (hp : 0 < xs.length) (hn : xs.length ≤ 1048576) :
    Calls Try.prog 141 #[v] w fun e w' => e = .returned (.int .i64 (at_ xs (bst (at_ xs) xs.length))) ∧ w = w' := by
  obtain ⟨A, b, o, cap, rfl, hcap, hmax, hA, hc⟩ := h.form
  obtain rfl := hA hp
  have hpz : (0 : Int) < (xs.length : Int) := by omega
  have h1z : ¬ (xs.length : Int) < 1 := by omega
  have g0 := hc 0 hp
  rw [← at_get hp, show o + 0 = o from rfl] at g0
  have HC := Lib.hid hc
  clear h hc hA hmax
  go_enter Try.func141, Try.ntmps141
  go_wp2_with fail
  go_loopw [3, 4] (fun m i wr => ∃ k : Nat, 1 ≤ k ∧ k ≤ xs.length ∧ i = .int .i64 k ∧ (∃ z : Int, m = .int .i64 z ∧ Hid (z = at_ xs (bst (at_ xs) k))) ∧ w = wr) (fun _ i _ => xs.length - (intOf i).toNat)
  case atStart => exact ⟨1, by omega, by omega, rfl, ⟨_, rfl, Lib.hid rfl⟩, rfl⟩
  case round =>
    obtain ⟨k, hk1, hk, rfl, ⟨z, rfl, hz⟩, rfl⟩ := hrel
    by_cases hlt : k < xs.length
    · have hkz : (k : Int) < (xs.length : Int) := by omega
      have gk := HC.out k hlt
      rw [← at_get hlt] at gk
      have HX := Lib.hid (show at_ xs (bst (at_ xs) (k + 1)) = if z < at_ xs k then at_ xs k else z from by
        rw [hz.out]
        by_cases hn : at_ xs (bst (at_ xs) k) < at_ xs k
        · rw [bst_new (.inr hn), if_pos hn]
        · rw [bst_old (by omega), if_neg hn])
      generalize at_ xs k = y at gk HX
      clear g0
      go_wp2_with fail
      go_roundw
      case rel =>
        refine ⟨k + 1, by omega, by omega, by go_num, ⟨_, rfl, Lib.hid ?_⟩, by first | rfl | trivial⟩
        rw [HX.out]
      case measure => simp [intOf]; omega
    · have hkz : ¬ (k : Int) < (xs.length : Int) := by omega
      have hkl : k = xs.length := by omega
      have HZ : Hid (z = at_ xs (bst (at_ xs) xs.length)) := Lib.hid (by rw [hz.out, hkl])
      clear hkl g0
      go_wp2_with fail
      go_ret
      exact ⟨ret_int HZ.out, rfl⟩






end Go.Proofs.Ytneonebgneonkaa.maxi
