/- What a valid Box is; that both IsBox tell it, and the parts of both. -/
import Derived.Test.YtggodllfaggjiaaRws
namespace Go.Proofs.Ytggodllfaggjiaa.val
open Go.RowKit Go.Deep Go.Proofs.Ytggodllfaggjiaa.base
open Go.Proofs.Ytggodllfaggjiaa.ints (ret_int ret_no ret_yes)
open Go.Proofs.Ytggodllfaggjiaa.rws (total len_le_total)

def okRow (wh : Int) (row : List Int) : Prop := row.length = 4 ∧ (∀ k (h : k < row.length), 0 ≤ row[k] ∧ row[k] ≤ wh) ∧ row.sum = wh
def okSizes (x y : Int) : Prop := (1 ≤ x ∧ x ≤ 3) ∧ (1 ≤ y ∧ y ≤ 3)
def okBox (x y wh : Int) (xss : List (List Int)) : Prop := okSizes x y ∧ (1 ≤ wh ∧ wh ≤ 1000) ∧ (xss.length : Int) = x * y ∧ ∀ k (h : k < xss.length), okRow wh xss[k]
open Classical in
noncomputable def rowB (wh : Int) (row : List Int) : Bool := if okRow wh row then true else false
open Classical in
noncomputable def boxB (x y wh : Int) (xss : List (List Int)) : Bool := if okBox x y wh xss then true else false
theorem rowB_yes {wh : Int} {row : List Int} (h : okRow wh row) : rowB wh row = true := if_pos h
theorem rowB_no {wh : Int} {row : List Int} (h : ¬ okRow wh row) : rowB wh row = false := if_neg h
theorem boxB_yes {x y wh : Int} {xss : List (List Int)} (h : okBox x y wh xss) : boxB x y wh xss = true := if_pos h
theorem boxB_no {x y wh : Int} {xss : List (List Int)} (h : ¬ okBox x y wh xss) : boxB x y wh xss = false := if_neg h
theorem ret_b {a b : Bool} (h : a = b) : Ending.returned (.bool a) = .returned (.bool b) := by rw [h]
theorem sum_take_succ (xs : List Int) (k : Nat) (h : k < xs.length) : (xs.take (k + 1)).sum = (xs.take k).sum + xs[k] := by
  rw [List.take_succ_eq_append_getElem h, List.sum_append]; simp

/-! ### the model -/
theorem in_yes (a lo hi : Int) (w : World) (h : lo ≤ a) (h' : a ≤ hi) : Calls Try.prog 65 #[.int .i64 a, .int .i64 lo, .int .i64 hi] w fun e w' => e = .returned (.bool true) ∧ w = w' := by
  have d1 : decide (lo ≤ a) = true := by simp [h]
  have d2 : decide (a ≤ hi) = true := by simp [h']
  go_enter Try.func65, Try.ntmps65
  go_wp2
  go_ret
  exact ⟨rfl, rfl⟩
theorem in_no (a lo hi : Int) (w : World) (h : a < lo ∨ hi < a) : Calls Try.prog 65 #[.int .i64 a, .int .i64 lo, .int .i64 hi] w fun e w' => e = .returned (.bool false) ∧ w = w' := by
  by_cases h1 : lo ≤ a
  · have d1 : decide (lo ≤ a) = true := by simp [h1]
    have d2 : decide (a ≤ hi) = false := by simp; omega
    go_enter Try.func65, Try.ntmps65
    go_wp2
    go_ret
    exact ⟨rfl, rfl⟩
  · have d1 : decide (lo ≤ a) = false := by simp; omega
    go_enter Try.func65, Try.ntmps65
    go_wp2
    go_ret
    exact ⟨rfl, rfl⟩


theorem sizes_yes (x y : Int) (w : World) (h : okSizes x y) : Calls Try.prog 95 #[.int .i64 x, .int .i64 y] w fun e w' => e = .returned (.bool true) ∧ w = w' := by
  obtain ⟨⟨h1, h2⟩, h3, h4⟩ := h
  go_enter Try.func95, Try.ntmps95
  go_wp2_with (first | (go_at_call 65; refine (in_yes _ _ _ _ (by assumption) (by assumption)).mono ?_; rintro e w' ⟨rfl, rfl⟩))
  go_ret
  exact ⟨rfl, rfl⟩



theorem sizes_no (x y : Int) (w : World) (h : ¬ okSizes x y) : Calls Try.prog 95 #[.int .i64 x, .int .i64 y] w fun e w' => e = .returned (.bool false) ∧ w = w' := by
  by_cases h1 : 1 ≤ x ∧ x ≤ 3
  · have h2 : y < 1 ∨ 3 < y := by unfold okSizes at h; omega
    obtain ⟨h3, h4⟩ := h1
    clear h
    go_enter Try.func95, Try.ntmps95
    go_wp2_with fail
    refine (in_yes _ _ _ _ h3 h4).mono ?_
    rintro e w' ⟨rfl, rfl⟩
    go_wp2_with fail
    refine (in_no _ _ _ _ h2).mono ?_
    rintro e w' ⟨rfl, rfl⟩
    go_wp2_with fail
    go_ret
    exact ⟨rfl, rfl⟩
  · have h2 : x < 1 ∨ 3 < x := by omega
    clear h h1
    go_enter Try.func95, Try.ntmps95
    go_wp2_with fail
    refine (in_no _ _ _ _ h2).mono ?_
    rintro e w' ⟨rfl, rfl⟩
    go_wp2_with fail
    go_ret
    exact ⟨rfl, rfl⟩




theorem ok_len {x y wh : Int} {xss : List (List Int)} (h : okBox x y wh xss) : xss.length ≤ 9 := by
  obtain ⟨⟨⟨a1, a2⟩, b1, b2⟩, _, h3, _⟩ := h
  have : x * y ≤ 9 := by
    have hx : x = 1 ∨ x = 2 ∨ x = 3 := by omega
    rcases hx with rfl | rfl | rfl <;> omega
  omega
theorem mul_small {x y : Int} (h : okSizes x y) : 1 ≤ x * y ∧ x * y ≤ 9 := by
  obtain ⟨⟨a1, a2⟩, b1, b2⟩ := h
  have hx : x = 1 ∨ x = 2 ∨ x = 3 := by omega
  rcases hx with rfl | rfl | rfl <;> omega



/-! ### the program -/

theorem isizes_yes (x y : Int) (w : World) (h : okSizes x y) : Calls Try.prog 96 #[.int .i64 x, .int .i64 y] w fun e w' => e = .returned (.bool true) ∧ w = w' := by
  obtain ⟨⟨h1, h2⟩, h3, h4⟩ := h
  have d1 : decide (1 ≤ x) = true := by simp [h1]
  have d2 : decide (x ≤ 3) = true := by simp [h2]
  have d3 : decide (1 ≤ y) = true := by simp [h3]
  have d4 : decide (y ≤ 3) = true := by simp [h4]
  go_enter Try.func96, Try.ntmps96
  go_wp2
  go_ret
  exact ⟨rfl, rfl⟩



theorem isizes_no (x y : Int) (w : World) (h : ¬ okSizes x y) : Calls Try.prog 96 #[.int .i64 x, .int .i64 y] w fun e w' => e = .returned (.bool false) ∧ w = w' := by
  by_cases h1 : 1 ≤ x
  · have d1 : decide (1 ≤ x) = true := by simp [h1]
    by_cases h2 : x ≤ 3
    · have d2 : decide (x ≤ 3) = true := by simp [h2]
      by_cases h3 : 1 ≤ y
      · have d3 : decide (1 ≤ y) = true := by simp [h3]
        have h4 : ¬ y ≤ 3 := fun h4 => h ⟨⟨h1, h2⟩, h3, h4⟩
        have d4 : decide (y ≤ 3) = false := by simp; omega
        clear h
        go_enter Try.func96, Try.ntmps96
        go_wp2
        go_ret
        exact ⟨rfl, rfl⟩
      · have d3 : decide (1 ≤ y) = false := by simp; omega
        clear h
        go_enter Try.func96, Try.ntmps96
        go_wp2
        go_ret
        exact ⟨rfl, rfl⟩
    · have d2 : decide (x ≤ 3) = false := by simp; omega
      clear h
      go_enter Try.func96, Try.ntmps96
      go_wp2
      go_ret
      exact ⟨rfl, rfl⟩
  · have d1 : decide (1 ≤ x) = false := by simp; omega
    clear h
    go_enter Try.func96, Try.ntmps96
    go_wp2
    go_ret
    exact ⟨rfl, rfl⟩








end Go.Proofs.Ytggodllfaggjiaa.val
