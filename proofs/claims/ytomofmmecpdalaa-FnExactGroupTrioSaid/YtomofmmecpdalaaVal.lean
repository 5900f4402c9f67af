/- What a valid Box is; that both IsBox tell it, and the parts of both. -/
import Derived.Test.YtomofmmecpdalaaRws
namespace Go.Proofs.Ytomofmmecpdalaa.val
open Go.RowKit Go.Deep Go.Proofs.Ytomofmmecpdalaa.base
open Go.Proofs.Ytomofmmecpdalaa.ints (ret_int ret_no ret_yes)
open Go.Proofs.Ytomofmmecpdalaa.rws (total len_le_total)

def okRowN (n : Nat) (wh : Int) (row : List Int) : Prop := row.length = n ∧ (∀ k (h : k < row.length), 0 ≤ row[k] ∧ row[k] ≤ wh) ∧ row.sum = wh
def okRow (wh : Int) (row : List Int) : Prop := row.length = 4 ∧ (∀ k (h : k < row.length), 0 ≤ row[k] ∧ row[k] ≤ wh) ∧ row.sum = wh
def okSizes (x y : Int) : Prop := (1 ≤ x ∧ x ≤ 3) ∧ (1 ≤ y ∧ y ≤ 3)
def okBox (x y wh : Int) (xss : List (List Int)) : Prop := okSizes x y ∧ (1 ≤ wh ∧ wh ≤ 1000) ∧ (xss.length : Int) = x * y ∧ ∀ k (h : k < xss.length), okRow wh xss[k]
open Classical in
noncomputable def rowNB (n : Nat) (wh : Int) (row : List Int) : Bool := if okRowN n wh row then true else false
theorem rowNB_yes {n : Nat} {wh : Int} {row : List Int} (h : okRowN n wh row) : rowNB n wh row = true := if_pos h
theorem rowNB_no {n : Nat} {wh : Int} {row : List Int} (h : ¬ okRowN n wh row) : rowNB n wh row = false := if_neg h
open Classical in
noncomputable def rowB (wh : Int) (row : List Int) : Bool := if okRow wh row then true else false
open Classical in
noncomputable def boxB (x y wh : Int) (xss : List (List Int)) : Bool := if okBox x y wh xss then true else false
theorem rowB_yes {wh : Int} {row : List Int} (h : okRow wh row) : rowB wh row = true := if_pos h
theorem rowB_no {wh : Int} {row : List Int} (h : ¬ okRow wh row) : rowB wh row = false := if_neg h
theorem boxB_yes {x y wh : Int} {xss : List (List Int)} (h : okBox x y wh xss) : boxB x y wh xss = true := if_pos h
theorem boxB_no {x y wh : Int} {xss : List (List Int)} (h : ¬ okBox x y wh xss) : boxB x y wh xss = false := if_neg h
theorem ret_b {a b : Bool} (h : a = b) : Ending.returned (.bool a) = .returned (.bool b) := by rw [h]
theorem sum_take_succ (xs : List Int) (k : Nat) (h : k < xs.length) : (xs.take (k + 1)).sum = (xs.take k).sum + xs[k] := by
  rw [List.take_succ_eq_append_getElem h, List.sum_append]; simp

/-! ### the model -/
theorem in_yes (a lo hi : Int) (w : World) (h : lo ≤ a) (h' : a ≤ hi) : Calls Try.prog 59 #[.int .i64 a, .int .i64 lo, .int .i64 hi] w fun e w' => e = .returned (.bool true) ∧ w = w' := by
  have d1 : decide (lo ≤ a) = true := by simp [h]
  have d2 : decide (a ≤ hi) = true := by simp [h']
  go_enter Try.func59, Try.ntmps59
  go_wp2
  go_ret
  exact ⟨rfl, rfl⟩
theorem in_no (a lo hi : Int) (w : World) (h : a < lo ∨ hi < a) : Calls Try.prog 59 #[.int .i64 a, .int .i64 lo, .int .i64 hi] w fun e w' => e = .returned (.bool false) ∧ w = w' := by
  by_cases h1 : lo ≤ a
  · have d1 : decide (lo ≤ a) = true := by simp [h1]
    have d2 : decide (a ≤ hi) = false := by simp; omega
    go_enter Try.func59, Try.ntmps59
    go_wp2
    go_ret
    exact ⟨rfl, rfl⟩
  · have d1 : decide (lo ≤ a) = false := by simp; omega
    go_enter Try.func59, Try.ntmps59
    go_wp2
    go_ret
    exact ⟨rfl, rfl⟩







theorem ok_len {x y wh : Int} {xss : List (List Int)} (h : okBox x y wh xss) : xss.length ≤ 9 := by
  obtain ⟨⟨⟨a1, a2⟩, b1, b2⟩, _, h3, _⟩ := h
  have : x * y ≤ 9 := by
    have hx : x = 1 ∨ x = 2 ∨ x = 3 := by omega
    rcases hx with rfl | rfl | rfl <;> omega
  omega
theorem mul_small {x y : Int} (h : okSizes x y) : 1 ≤ x * y ∧ x * y ≤ 9 := by
  obtain ⟨⟨a1, a2⟩, b1, b2⟩ := h
  have hx : x = 1 ∨ x = 2 ∨ x = 3 := by omega
  rcases hx with rfl | rfl | rfl <;> omega



/-! ### the program -/





set_option maxHeartbeats 1000000 in
theorem row_gen (n : Nat) (n8 : n ≤ 8) (v : Value) (row : List Int) (wh : Int) (w : World) (h : Ints w v row) (hn : row.length ≤ 1048576) (h0 : 1 ≤ wh) (h1 : wh ≤ 1000) :
    Calls Try.prog 54 #[v, .int .i64 (n : Int), .int .i64 wh] w fun e w' => e = .returned (.bool (rowNB n wh row)) ∧ w = w' := by
  obtain ⟨A, b, o, cap, rfl, hcap, hmax, hA, hc⟩ := h.form
  clear h hmax
  by_cases l : row.length = n
  · have l4 : ((row.length : Int) != (n : Int)) = false := by simp; omega
    have HL := Lib.hid l
    have hlen : row.length ≤ 8 := by omega
    have hA' : 0 < row.length → A = some ⟨b, o, none⟩ := fun h => hA h
    clear l
    go_enter Try.func54, Try.ntmps54
    go_wp2
    go_loopw [6, 7, 9, 16] (fun q s z i wr => ∃ k : Nat, ∃ c : Int, k ≤ 8 ∧ i = .int .i64 k ∧ s = .int .i64 c ∧ q = .bool false ∧ (∃ z', z = z') ∧ 0 ≤ c ∧ c ≤ 1000 * k ∧ Hid (c = (row.take k).sum ∧ ∀ j (h : j < row.length), j < k → 0 ≤ row[j] ∧ row[j] ≤ wh) ∧ w = wr) (fun _ _ _ i _ => 9 - (intOf i).toNat)
    case atStart => exact ⟨0, 0, Nat.zero_le _, rfl, rfl, rfl, ⟨_, rfl⟩, by omega, by omega, ⟨by simp, fun j _ hj => by omega⟩, rfl⟩
    case round =>
      obtain ⟨k, c, hk5, rfl, rfl, rfl, ⟨z', rfl⟩, hc0, hc1, hH, rfl⟩ := hrel
      by_cases hlt : k < row.length
      · have hkz : (k : Int) < (row.length : Int) := by omega
        obtain rfl := hA (by omega)
        have g0 := hc k hlt
        have HC := Lib.hid hc
        clear hc hA
        by_cases i1 : 0 ≤ row[k]
        · have d1 : decide (row[k] < 0) = false := by simp; omega
          by_cases i2 : row[k] ≤ wh
          · have d2 : decide (wh < row[k]) = false := by simp; omega
            have HS := Lib.hid (sum_take_succ row k hlt)
            go_wp2
            go_roundw
            case rel =>
              refine ⟨k + 1, _, by omega, by go_num, rfl, rfl, ⟨_, rfl⟩, by omega, by omega, ⟨?_, fun j hj hj' => ?_⟩, by first | rfl | trivial⟩
              · rw [HS.out, hH.out.1]
              · by_cases e : j = k
                · subst e; exact ⟨i1, i2⟩
                · exact hH.out.2 j hj (by omega)
            case measure => simp [intOf]; omega
          · have d2 : decide (wh < row[k]) = true := by simp; omega
            have HN : Hid (¬ okRowN n wh row) := Lib.hid (fun h => i2 (h.2.1 k hlt).2)
            go_wp2
            go_ret
            exact ⟨ret_b (rowNB_no HN.out).symm, rfl⟩
        · have d1 : decide (row[k] < 0) = true := by simp; omega
          have HN : Hid (¬ okRowN n wh row) := Lib.hid (fun h => i1 (h.2.1 k hlt).1)
          go_wp2
          go_ret
          exact ⟨ret_b (rowNB_no HN.out).symm, rfl⟩
      · have hkz : ¬ (k : Int) < (row.length : Int) := by omega
        have hs : Hid (c = row.sum) := by
          have := hH.out.1
          rw [List.take_of_length_le (by have := HL.out; omega)] at this
          exact this
        clear hc hA
        by_cases hw : c = wh
        · have dw : (c == wh) = true := by simp [hw]
          have HN : Hid (okRowN n wh row) := Lib.hid ⟨HL.out, fun j hj => hH.out.2 j hj (by omega), by rw [← hs.out]; exact hw⟩
          clear hw
          go_wp2
          go_ret
          exact ⟨ret_b (rowNB_yes HN.out).symm, rfl⟩
        · have dw : (c == wh) = false := by simp [hw]
          have HN : Hid (¬ okRowN n wh row) := Lib.hid (fun h => hw (by rw [hs.out]; exact h.2.2))
          clear hw
          go_wp2
          go_ret
          exact ⟨ret_b (rowNB_no HN.out).symm, rfl⟩
  · have l4 : ((row.length : Int) != (n : Int)) = true := by simp; omega
    have HN : Hid (¬ okRowN n wh row) := Lib.hid (fun h => l h.1)
    clear l hc hA
    go_enter Try.func54, Try.ntmps54
    go_wp2
    go_ret
    exact ⟨ret_b (rowNB_no HN.out).symm, rfl⟩
theorem row_any (v : Value) (row : List Int) (wh : Int) (w : World) (h : Ints w v row) (hn : row.length ≤ 1048576) (h0 : 1 ≤ wh) (h1 : wh ≤ 1000) :
    Calls Try.prog 54 #[v, .int .i64 4, .int .i64 wh] w fun e w' => e = .returned (.bool (rowB wh row)) ∧ w = w' := by
  have e : rowNB 4 wh row = rowB wh row := rfl
  rw [← e]
  exact row_gen 4 (by omega) v row wh w h hn h0 h1






end Go.Proofs.Ytomofmmecpdalaa.val
