/- What a valid Box is; that both IsBox tell it, and the parts of both. -/
import Derived.Test.YtiigfhigmdjooaaRws
namespace Go.Proofs.Ytiigfhigmdjooaa.val
open Go.RowKit Go.Deep Go.Proofs.Ytiigfhigmdjooaa.base
open Go.Proofs.Ytiigfhigmdjooaa.ints (ret_int ret_no ret_yes)
open Go.Proofs.Ytiigfhigmdjooaa.rws (total len_le_total)

def okRowN (n : Nat) (wh : Int) (row : List Int) : Prop := row.length = n ∧ (∀ k (h : k < row.length), 0 ≤ row[k] ∧ row[k] ≤ wh) ∧ row.sum = wh
def okRow (wh : Int) (row : List Int) : Prop := row.length = 4 ∧ (∀ k (h : k < row.length), 0 ≤ row[k] ∧ row[k] ≤ wh) ∧ row.sum = wh
def okSizes (x y : Int) : Prop := (1 ≤ x ∧ x ≤ 3) ∧ (1 ≤ y ∧ y ≤ 3)
def okBox (x y wh : Int) (xss : List (List Int)) : Prop := okSizes x y ∧ (1 ≤ wh ∧ wh ≤ 1000) ∧ (xss.length : Int) = x * y ∧ ∀ k (h : k < xss.length), okRow wh xss[k]
open Classical in
noncomputable def rowNB (n : Nat) (wh : Int) (row : List Int) : Bool := if okRowN n wh row then true else false
theorem rowNB_yes {n : Nat} {wh : Int} {row : List Int} (h : okRowN n wh row) : rowNB n wh row = true := if_pos h
theorem rowNB_no {n : Nat} {wh : Int} {row : List Int} (h : ¬ okRowN n wh row) : rowNB n wh row = false := if_neg h
open Classical in
noncomputable def rowB (wh : Int) (row : List Int) : Bool := if okRow wh row then true else false
open Classical in
noncomputable def boxB (x y wh : Int) (xss : List (List Int)) : Bool := if okBox x y wh xss then true else false
theorem rowB_yes {wh : Int} {row : List Int} (h : okRow wh row) : rowB wh row = true := if_pos h
theorem rowB_no {wh : Int} {row : List Int} (h : ¬ okRow wh row) : rowB wh row = false := if_neg h
theorem boxB_yes {x y wh : Int} {xss : List (List Int)} (h : okBox x y wh xss) : boxB x y wh xss = true := if_pos h
theorem boxB_no {x y wh : Int} {xss : List (List Int)} (h : ¬ okBox x y wh xss) : boxB x y wh xss = false := if_neg h
theorem ret_b {a b : Bool} (h : a = b) : Ending.returned (.bool a) = .returned (.bool b) := by rw [h]
theorem sum_take_succ (xs : List Int) (k : Nat) (h : k < xs.length) : (xs.take (k + 1)).sum = (xs.take k).sum + xs[k] := by
  rw [List.take_succ_eq_append_getElem h, List.sum_append]; simp

/-! ### the model -/
theorem in_yes (a lo hi : Int) (w : World) (h : lo ≤ a) (h' : a ≤ hi) : Calls Try.prog 138 #[.int .i64 a, .int .i64 lo, .int .i64 hi] w fun e w' => e = .returned (.bool true) ∧ w = w' := by
  have d1 : decide (lo ≤ a) = true := by simp [h]
  have d2 : decide (a ≤ hi) = true := by simp [h']
  go_enter Try.func138, Try.ntmps138
  go_wp2
  go_ret
  exact ⟨rfl, rfl⟩
theorem in_no (a lo hi : Int) (w : World) (h : a < lo ∨ hi < a) : Calls Try.prog 138 #[.int .i64 a, .int .i64 lo, .int .i64 hi] w fun e w' => e = .returned (.bool false) ∧ w = w' := by
  by_cases h1 : lo ≤ a
  · have d1 : decide (lo ≤ a) = true := by simp [h1]
    have d2 : decide (a ≤ hi) = false := by simp; omega
    go_enter Try.func138, Try.ntmps138
    go_wp2
    go_ret
    exact ⟨rfl, rfl⟩
  · have d1 : decide (lo ≤ a) = false := by simp; omega
    go_enter Try.func138, Try.ntmps138
    go_wp2
    go_ret
    exact ⟨rfl, rfl⟩


theorem sizes_yes (x y : Int) (w : World) (h : okSizes x y) : Calls Try.prog 137 #[.int .i64 x, .int .i64 y] w fun e w' => e = .returned (.bool true) ∧ w = w' := by
  obtain ⟨⟨h1, h2⟩, h3, h4⟩ := h
  go_enter Try.func137, Try.ntmps137
  go_wp2_with (first | (go_at_call 138; refine (in_yes _ _ _ _ (by assumption) (by assumption)).mono ?_; rintro e w' ⟨rfl, rfl⟩))
  go_ret
  exact ⟨rfl, rfl⟩



theorem sizes_no (x y : Int) (w : World) (h : ¬ okSizes x y) : Calls Try.prog 137 #[.int .i64 x, .int .i64 y] w fun e w' => e = .returned (.bool false) ∧ w = w' := by
  by_cases h1 : 1 ≤ x ∧ x ≤ 3
  · have h2 : y < 1 ∨ 3 < y := by unfold okSizes at h; omega
    obtain ⟨h3, h4⟩ := h1
    clear h
    go_enter Try.func137, Try.ntmps137
    go_wp2_with fail
    refine (in_yes _ _ _ _ h3 h4).mono ?_
    rintro e w' ⟨rfl, rfl⟩
    go_wp2_with fail
    refine (in_no _ _ _ _ h2).mono ?_
    rintro e w' ⟨rfl, rfl⟩
    go_wp2_with fail
    go_ret
    exact ⟨rfl, rfl⟩
  · have h2 : x < 1 ∨ 3 < x := by omega
    clear h h1
    go_enter Try.func137, Try.ntmps137
    go_wp2_with fail
    refine (in_no _ _ _ _ h2).mono ?_
    rintro e w' ⟨rfl, rfl⟩
    go_wp2_with fail
    go_ret
    exact ⟨rfl, rfl⟩



set_option maxHeartbeats 1000000 in
theorem four_any (v : Value) (row : List Int) (wh : Int) (w : World) (h : Ints w v row) (hn : row.length ≤ 1048576) (h0 : 1 ≤ wh) (h1 : wh ≤ 1000) :
    Calls Try.prog 139 #[v, .int .i64 wh] w fun e w' => e = .returned (.bool (rowB wh row)) ∧ w = w' := by
  obtain ⟨A, b, o, cap, rfl, hcap, hmax, hA, hc⟩ := h.form
  clear h hmax
  go_enter Try.func139, Try.ntmps139
  go_wp2
  go_loopw [4, 5, 6] (fun q s i wr => ∃ k : Nat, ∃ c : Int, k ≤ row.length ∧ k ≤ 5 ∧ i = .int .i64 k ∧ s = .int .i64 c ∧ q = .bool false ∧ 0 ≤ c ∧ c ≤ 1000 * k ∧ Hid (c = (row.take k).sum ∧ ∀ j (h : j < row.length), j < k → 0 ≤ row[j] ∧ row[j] ≤ wh) ∧ w = wr) (fun _ _ i _ => 5 - (intOf i).toNat)
  case atStart => exact ⟨0, 0, Nat.zero_le _, by omega, rfl, rfl, rfl, by omega, by omega, ⟨by simp, fun j _ hj => by omega⟩, rfl⟩
  case round =>
    obtain ⟨k, c, hk, hk5, rfl, rfl, rfl, hc0, hc1, hH, rfl⟩ := hrel
    by_cases hlt : k < row.length
    · have hkz : (k : Int) < (row.length : Int) := by omega
      have dkz : decide ((k : Int) < (row.length : Int)) = true := by simp [hlt]
      by_cases h5 : k < 5
      · have hk5z : decide ((k : Int) < 5) = true := by simp; omega
        obtain rfl := hA (by omega)
        have g0 := hc k hlt
        by_cases hin : 0 ≤ row[k] ∧ row[k] ≤ wh
        · obtain ⟨i1, i2⟩ := hin
          have HS := Lib.hid (sum_take_succ row k hlt)
          have HC := Lib.hid hc
          clear hc hA
          go_wp2_with fail
          refine (in_yes _ _ _ _ i1 i2).mono ?_
          rintro e w' ⟨rfl, rfl⟩
          go_wp2_with fail
          go_roundw
          case rel =>
            refine ⟨k + 1, _, by omega, by omega, by go_num, rfl, rfl, by omega, by omega, ⟨?_, fun j hj hj' => ?_⟩, by first | rfl | trivial⟩
            · rw [HS.out, hH.out.1]
            · by_cases e : j = k
              · subst e; exact ⟨i1, i2⟩
              · exact hH.out.2 j hj (by omega)
          case measure => simp [intOf]; omega
        · have hbad : row[k] < 0 ∨ wh < row[k] := by omega
          have HN : Hid (¬ okRow wh row) := Lib.hid (fun h => hin (h.2.1 k hlt))
          have HC := Lib.hid hc
          clear hc hA hin
          go_wp2_with fail
          refine (in_no _ _ _ _ hbad).mono ?_
          rintro e w' ⟨rfl, rfl⟩
          clear hbad
          go_wp2_with fail
          go_ret
          exact ⟨ret_b (rowB_no HN.out).symm, rfl⟩
      · obtain rfl : k = 5 := by omega
        have HN : Hid (¬ okRow wh row) := Lib.hid (fun h => by have := h.1; omega)
        have l4 : ((row.length : Int) == 4) = false := by simp; omega
        clear hc hA
        go_wp2_with fail
        go_ret
        exact ⟨ret_b (rowB_no HN.out).symm, rfl⟩
    · have hkz : ¬ (k : Int) < (row.length : Int) := by omega
      have dkz : decide ((k : Int) < (row.length : Int)) = false := by simp; omega
      have hkl : k = row.length := by omega
      have HK := Lib.hid hkl
      clear hc hA hkl
      by_cases l : row.length = 4
      · have l4 : ((row.length : Int) == 4) = true := by simp; omega
        have HL := Lib.hid l
        clear l
        have hs : Hid (c = row.sum) := by
          have := hH.out.1
          rw [HK.out, List.take_length] at this
          exact this
        by_cases hw : c = wh
        · have dw : (c == wh) = true := by simp [hw]
          have HN : Hid (okRow wh row) := Lib.hid ⟨HL.out, fun j hj => hH.out.2 j hj (by have := HK.out; omega), by rw [← hs.out]; exact hw⟩
          clear hw
          go_wp2_with fail
          go_ret
          exact ⟨ret_b (rowB_yes HN.out).symm, rfl⟩
        · have dw : (c == wh) = false := by simp [hw]
          have HN : Hid (¬ okRow wh row) := Lib.hid (fun h => hw (by rw [hs.out]; exact h.2.2))
          clear hw
          go_wp2_with fail
          go_ret
          exact ⟨ret_b (rowB_no HN.out).symm, rfl⟩
      · have l4 : ((row.length : Int) == 4) = false := by simp; omega
        have HN : Hid (¬ okRow wh row) := Lib.hid (fun h => l h.1)
        clear l
        go_wp2_with fail
        go_ret
        exact ⟨ret_b (rowB_no HN.out).symm, rfl⟩


theorem ok_len {x y wh : Int} {xss : List (List Int)} (h : okBox x y wh xss) : xss.length ≤ 9 := by
  obtain ⟨⟨⟨a1, a2⟩, b1, b2⟩, _, h3, _⟩ := h
  have : x * y ≤ 9 := by
    have hx : x = 1 ∨ x = 2 ∨ x = 3 := by omega
    rcases hx with rfl | rfl | rfl <;> omega
  omega
theorem mul_small {x y : Int} (h : okSizes x y) : 1 ≤ x * y ∧ x * y ≤ 9 := by
  obtain ⟨⟨a1, a2⟩, b1, b2⟩ := h
  have hx : x = 1 ∨ x = 2 ∨ x = 3 := by omega
  rcases hx with rfl | rfl | rfl <;> omega


set_option maxHeartbeats 1000000 in
theorem spec_any (x y wh : Int) (v : Value) (xss : List (List Int)) (w : World) (h : IRows w v xss) (hn : total xss ≤ 1048576) :
    Calls Try.prog 71 #[.agg #[.int .i64 x, .int .i64 y, .int .i64 wh, v]] w fun e w' => e = .returned (.bool (boxB x y wh xss)) ∧ Below w.heap.size w w' := by
  obtain ⟨A, b, o, cap, R, rfl, hcap, hmax, hA, hc⟩ := h.form
  clear h hmax
  have hlen : xss.length ≤ 1048576 := by unfold total at hn; omega
  by_cases hs : okSizes x y
  · by_cases hw : 1 ≤ wh ∧ wh ≤ 1000
    · obtain ⟨hw1, hw2⟩ := hw
      have hm := mul_small hs
      obtain ⟨hm1, hm2⟩ := hm
      have HSz := Lib.hid hs
      clear hs
      by_cases hl : (xss.length : Int) = x * y
      · have dl : ((xss.length : Int) != x * y) = false := by simp [hl]
        have HL := Lib.hid hl
        clear hl
        go_enter Try.func71, Try.ntmps71
        go_wp2_with fail
        refine (sizes_yes _ _ _ HSz.out).mono ?_
        rintro e w' ⟨rfl, rfl⟩
        go_wp2_with fail
        refine (in_yes _ _ _ _ hw1 hw2).mono ?_
        rintro e w' ⟨rfl, rfl⟩
        go_wp2_with fail
        go_loopw [2, 3] (fun q i wr => ∃ k : Nat, k ≤ xss.length ∧ i = .int .i64 k ∧ q = .bool false ∧ Hid (∀ j (h : j < xss.length), j < k → okRow wh xss[j]) ∧ ∃ q, wr = (w.alloc (.cells #[.int .i64 x, .int .i64 y, .int .i64 wh, .slice A xss.length cap] 28)).drewN q) (fun _ i _ => xss.length - (intOf i).toNat)
        case atStart => exact ⟨0, Nat.zero_le _, rfl, rfl, fun j _ hj => by omega, 0, rfl⟩
        case round =>
          obtain ⟨k, hk, rfl, rfl, hH, q, rfl⟩ := hrel
          by_cases hlt : k < xss.length
          · have hkz : (k : Int) < (xss.length : Int) := by omega
            obtain rfl := hA (by omega)
            have g0 := (hc k hlt).1
            have gl := World.block_lt_of_cell? _ _ g0
            have hf : ∀ W : World, (∀ a u, w.cell? a = some u → W.cell? a = some u) → Calls Try.prog 139 #[R k, .int .i64 wh] W fun e w' => e = .returned (.bool (rowB wh xss[k])) ∧ W = w' := fun W hW =>
              four_any (R k) xss[k] wh W ((hc k hlt).2.keep hW) (Nat.le_trans (len_le_total xss k hlt) hn) hw1 hw2
            have HC := Lib.hid hc
            clear hc hA
            by_cases hr : okRow wh xss[k]
            · rw [rowB_yes hr] at hf
              have HF := Lib.hid hf
              have HR := Lib.hid hr
              clear hf hr
              go_wp2_with fail
              go_quiet ((go_at_call 139; go_must (exact ints.quiet_at_same (HF.out _ (fun a u h => below_cell (below_al (Below.refl _ _) _) a u h)))))
              go_wp2_with fail
              go_roundw
              case rel =>
                refine ⟨k + 1, by omega, by go_num, rfl, fun j hj hj' => ?_, _, rfl⟩
                by_cases e : j = k
                · subst e; exact HR.out
                · exact hH.out j hj (by omega)
              case measure => simp [intOf]; omega
            · rw [rowB_no hr] at hf
              have HF := Lib.hid hf
              have HN : Hid (¬ okBox x y wh xss) := Lib.hid (fun h => hr (h.2.2.2 k hlt))
              clear hf hr
              go_wp2_with fail
              go_quiet ((go_at_call 139; go_must (exact ints.quiet_at_same (HF.out _ (fun a u h => below_cell (below_al (Below.refl _ _) _) a u h)))))
              go_wp2_with fail
              go_ret
              exact ⟨ret_b (boxB_no HN.out).symm, below_drewN (below_drewN (below_al (Below.refl _ _) _) _) _⟩
          · have hkz : ¬ (k : Int) < (xss.length : Int) := by omega
            have HN : Hid (okBox x y wh xss) := Lib.hid ⟨HSz.out, ⟨hw1, hw2⟩, HL.out, fun j hj => hH.out j hj (by omega)⟩
            clear hc hA
            go_wp2_with fail
            go_ret
            exact ⟨ret_b (boxB_yes HN.out).symm, below_drewN (below_al (Below.refl _ _) _) _⟩
      · have dl : ((xss.length : Int) != x * y) = true := by simp [hl]
        have HN : Hid (¬ okBox x y wh xss) := Lib.hid (fun h => hl h.2.2.1)
        clear hl hc hA
        go_enter Try.func71, Try.ntmps71
        go_wp2_with fail
        refine (sizes_yes _ _ _ HSz.out).mono ?_
        rintro e w' ⟨rfl, rfl⟩
        go_wp2_with fail
        refine (in_yes _ _ _ _ hw1 hw2).mono ?_
        rintro e w' ⟨rfl, rfl⟩
        go_wp2_with fail
        go_ret
        exact ⟨ret_b (boxB_no HN.out).symm, below_al (Below.refl _ _) _⟩
    · have hbad : wh < 1 ∨ 1000 < wh := by omega
      have HN : Hid (¬ okBox x y wh xss) := Lib.hid (fun h => hw h.2.1)
      have HSz := Lib.hid hs
      clear hs hw hc hA
      go_enter Try.func71, Try.ntmps71
      go_wp2_with fail
      refine (sizes_yes _ _ _ HSz.out).mono ?_
      rintro e w' ⟨rfl, rfl⟩
      go_wp2_with fail
      refine (in_no _ _ _ _ hbad).mono ?_
      rintro e w' ⟨rfl, rfl⟩
      go_wp2_with fail
      go_ret
      exact ⟨ret_b (boxB_no HN.out).symm, below_al (Below.refl _ _) _⟩
  · have HN : Hid (¬ okBox x y wh xss) := Lib.hid (fun h => hs h.1)
    have HSz := Lib.hid hs
    clear hs hc hA
    go_enter Try.func71, Try.ntmps71
    go_wp2_with fail
    refine (sizes_no _ _ _ HSz.out).mono ?_
    rintro e w' ⟨rfl, rfl⟩
    go_wp2_with fail
    go_ret
    exact ⟨ret_b (boxB_no HN.out).symm, below_al (Below.refl _ _) _⟩


/-! ### the program -/

theorem isizes_yes (x y : Int) (w : World) (h : okSizes x y) : Calls Try.prog 157 #[.int .i64 x, .int .i64 y] w fun e w' => e = .returned (.bool true) ∧ w = w' := by
  obtain ⟨⟨h1, h2⟩, h3, h4⟩ := h
  have d1 : decide (1 ≤ x) = true := by simp [h1]
  have d2 : decide (x ≤ 3) = true := by simp [h2]
  have d3 : decide (1 ≤ y) = true := by simp [h3]
  have d4 : decide (y ≤ 3) = true := by simp [h4]
  go_enter Try.func157, Try.ntmps157
  go_wp2
  go_ret
  exact ⟨rfl, rfl⟩



theorem isizes_no (x y : Int) (w : World) (h : ¬ okSizes x y) : Calls Try.prog 157 #[.int .i64 x, .int .i64 y] w fun e w' => e = .returned (.bool false) ∧ w = w' := by
  by_cases h1 : 1 ≤ x
  · have d1 : decide (1 ≤ x) = true := by simp [h1]
    by_cases h2 : x ≤ 3
    · have d2 : decide (x ≤ 3) = true := by simp [h2]
      by_cases h3 : 1 ≤ y
      · have d3 : decide (1 ≤ y) = true := by simp [h3]
        have h4 : ¬ y ≤ 3 := fun h4 => h ⟨⟨h1, h2⟩, h3, h4⟩
        have d4 : decide (y ≤ 3) = false := by simp; omega
        clear h
        go_enter Try.func157, Try.ntmps157
        go_wp2
        go_ret
        exact ⟨rfl, rfl⟩
      · have d3 : decide (1 ≤ y) = false := by simp; omega
        clear h
        go_enter Try.func157, Try.ntmps157
        go_wp2
        go_ret
        exact ⟨rfl, rfl⟩
    · have d2 : decide (x ≤ 3) = false := by simp; omega
      clear h
      go_enter Try.func157, Try.ntmps157
      go_wp2
      go_ret
      exact ⟨rfl, rfl⟩
  · have d1 : decide (1 ≤ x) = false := by simp; omega
    clear h
    go_enter Try.func157, Try.ntmps157
    go_wp2
    go_ret
    exact ⟨rfl, rfl⟩



set_option maxHeartbeats 1000000 in
theorem row_gen (n : Nat) (n8 : n ≤ 8) (v : Value) (row : List Int) (wh : Int) (w : World) (h : Ints w v row) (hn : row.length ≤ 1048576) (h0 : 1 ≤ wh) (h1 : wh ≤ 1000) :
    Calls Try.prog 209 #[v, .int .i64 (n : Int), .int .i64 wh] w fun e w' => e = .returned (.bool (rowNB n wh row)) ∧ w = w' := by
  obtain ⟨A, b, o, cap, rfl, hcap, hmax, hA, hc⟩ := h.form
  clear h hmax
  by_cases l : row.length = n
  · have l4 : ((row.length : Int) != (n : Int)) = false := by simp; omega
    have HL := Lib.hid l
    have hlen : row.length ≤ 8 := by omega
    have hA' : 0 < row.length → A = some ⟨b, o, none⟩ := fun h => hA h
    clear l
    go_enter Try.func209, Try.ntmps209
    go_wp2
    go_loopw [6, 7, 9, 16] (fun q s z i wr => ∃ k : Nat, ∃ c : Int, k ≤ 8 ∧ i = .int .i64 k ∧ s = .int .i64 c ∧ q = .bool false ∧ (∃ z', z = z') ∧ 0 ≤ c ∧ c ≤ 1000 * k ∧ Hid (c = (row.take k).sum ∧ ∀ j (h : j < row.length), j < k → 0 ≤ row[j] ∧ row[j] ≤ wh) ∧ w = wr) (fun _ _ _ i _ => 9 - (intOf i).toNat)
    case atStart => exact ⟨0, 0, Nat.zero_le _, rfl, rfl, rfl, ⟨_, rfl⟩, by omega, by omega, ⟨by simp, fun j _ hj => by omega⟩, rfl⟩
    case round =>
      obtain ⟨k, c, hk5, rfl, rfl, rfl, ⟨z', rfl⟩, hc0, hc1, hH, rfl⟩ := hrel
      by_cases hlt : k < row.length
      · have hkz : (k : Int) < (row.length : Int) := by omega
        obtain rfl := hA (by omega)
        have g0 := hc k hlt
        have HC := Lib.hid hc
        clear hc hA
        by_cases i1 : 0 ≤ row[k]
        · have d1 : decide (row[k] < 0) = false := by simp; omega
          by_cases i2 : row[k] ≤ wh
          · have d2 : decide (wh < row[k]) = false := by simp; omega
            have HS := Lib.hid (sum_take_succ row k hlt)
            go_wp2
            go_roundw
            case rel =>
              refine ⟨k + 1, _, by omega, by go_num, rfl, rfl, ⟨_, rfl⟩, by omega, by omega, ⟨?_, fun j hj hj' => ?_⟩, by first | rfl | trivial⟩
              · rw [HS.out, hH.out.1]
              · by_cases e : j = k
                · subst e; exact ⟨i1, i2⟩
                · exact hH.out.2 j hj (by omega)
            case measure => simp [intOf]; omega
          · have d2 : decide (wh < row[k]) = true := by simp; omega
            have HN : Hid (¬ okRowN n wh row) := Lib.hid (fun h => i2 (h.2.1 k hlt).2)
            go_wp2
            go_ret
            exact ⟨ret_b (rowNB_no HN.out).symm, rfl⟩
        · have d1 : decide (row[k] < 0) = true := by simp; omega
          have HN : Hid (¬ okRowN n wh row) := Lib.hid (fun h => i1 (h.2.1 k hlt).1)
          go_wp2
          go_ret
          exact ⟨ret_b (rowNB_no HN.out).symm, rfl⟩
      · have hkz : ¬ (k : Int) < (row.length : Int) := by omega
        have hs : Hid (c = row.sum) := by
          have := hH.out.1
          rw [List.take_of_length_le (by have := HL.out; omega)] at this
          exact this
        clear hc hA
        by_cases hw : c = wh
        · have dw : (c == wh) = true := by simp [hw]
          have HN : Hid (okRowN n wh row) := Lib.hid ⟨HL.out, fun j hj => hH.out.2 j hj (by omega), by rw [← hs.out]; exact hw⟩
          clear hw
          go_wp2
          go_ret
          exact ⟨ret_b (rowNB_yes HN.out).symm, rfl⟩
        · have dw : (c == wh) = false := by simp [hw]
          have HN : Hid (¬ okRowN n wh row) := Lib.hid (fun h => hw (by rw [hs.out]; exact h.2.2))
          clear hw
          go_wp2
          go_ret
          exact ⟨ret_b (rowNB_no HN.out).symm, rfl⟩
  · have l4 : ((row.length : Int) != (n : Int)) = true := by simp; omega
    have HN : Hid (¬ okRowN n wh row) := Lib.hid (fun h => l h.1)
    clear l hc hA
    go_enter Try.func209, Try.ntmps209
    go_wp2
    go_ret
    exact ⟨ret_b (rowNB_no HN.out).symm, rfl⟩
theorem row_any (v : Value) (row : List Int) (wh : Int) (w : World) (h : Ints w v row) (hn : row.length ≤ 1048576) (h0 : 1 ≤ wh) (h1 : wh ≤ 1000) :
    Calls Try.prog 209 #[v, .int .i64 4, .int .i64 wh] w fun e w' => e = .returned (.bool (rowB wh row)) ∧ w = w' := by
  have e : rowNB 4 wh row = rowB wh row := rfl
  rw [← e]
  exact row_gen 4 (by omega) v row wh w h hn h0 h1



set_option maxHeartbeats 1000000 in
theorem impl_any (x y wh : Int) (v : Value) (xss : List (List Int)) (w : World) (h : IRows w v xss) (hn : total xss ≤ 1048576) :
    Calls Try.prog 191 #[.agg #[.int .i64 x, .int .i64 y, .int .i64 wh, v]] w fun e w' => e = .returned (.bool (boxB x y wh xss)) ∧ Below w.heap.size w w' := by
  obtain ⟨A, b, o, cap, R, rfl, hcap, hmax, hA, hc⟩ := h.form
  clear h hmax
  have hlen : xss.length ≤ 1048576 := by unfold total at hn; omega
  by_cases hs : okSizes x y
  · have hm := mul_small hs
    obtain ⟨hm1, hm2⟩ := hm
    have HSz := Lib.hid hs
    clear hs
    by_cases hw1 : 1 ≤ wh
    · have d1 : decide (wh < 1) = false := by simp; omega
      by_cases hw2 : wh ≤ 1000
      · have d2 : decide (1000 < wh) = false := by simp; omega
        by_cases hl : (xss.length : Int) = x * y
        · have dl : ((xss.length : Int) != x * y) = false := by simp [hl]
          have HL := Lib.hid hl
          clear hl
          go_enter Try.func191, Try.ntmps191
          go_wp2_with fail
          refine (isizes_yes _ _ _ HSz.out).mono ?_
          rintro e w' ⟨rfl, rfl⟩
          go_wp2_with fail
          go_loopw [2, 4, 35] (fun q z i wr => ∃ k : Nat, k ≤ xss.length ∧ i = .int .i64 k ∧ q = .bool false ∧ (∃ z', z = z') ∧ Hid (∀ j (h : j < xss.length), j < k → okRow wh xss[j]) ∧ wr = w.alloc (.cells #[.int .i64 x, .int .i64 y, .int .i64 wh, .slice A xss.length cap] 28)) (fun _ _ i _ => xss.length - (intOf i).toNat)
          case atStart => exact ⟨0, Nat.zero_le _, rfl, rfl, ⟨_, rfl⟩, fun j _ hj => by omega, rfl⟩
          case round =>
            obtain ⟨k, hk, rfl, rfl, ⟨z', rfl⟩, hH, rfl⟩ := hrel
            by_cases hlt : k < xss.length
            · have hkz : (k : Int) < (xss.length : Int) := by omega
              obtain rfl := hA (by omega)
              have g0 := (hc k hlt).1
              have gl := World.block_lt_of_cell? _ _ g0
              have hf : ∀ W : World, (∀ a u, w.cell? a = some u → W.cell? a = some u) → Calls Try.prog 209 #[R k, .int .i64 4, .int .i64 wh] W fun e w' => e = .returned (.bool (rowB wh xss[k])) ∧ W = w' := fun W hW =>
                row_any (R k) xss[k] wh W ((hc k hlt).2.keep hW) (Nat.le_trans (len_le_total xss k hlt) hn) hw1 hw2
              have HC := Lib.hid hc
              clear hc hA
              by_cases hr : okRow wh xss[k]
              · rw [rowB_yes hr] at hf
                have HF := Lib.hid hf
                have HR := Lib.hid hr
                clear hf hr
                go_wp2_with fail
                refine (HF.out _ (fun a u h => below_cell (below_al (Below.refl _ _) _) a u h)).mono ?_
                rintro e w' ⟨rfl, rfl⟩
                go_wp2_with fail
                go_roundw
                case rel =>
                  refine ⟨k + 1, by omega, by go_num, rfl, ⟨_, rfl⟩, fun j hj hj' => ?_, by first | rfl | trivial⟩
                  by_cases e : j = k
                  · subst e; exact HR.out
                  · exact hH.out j hj (by omega)
                case measure => simp [intOf]; omega
              · rw [rowB_no hr] at hf
                have HF := Lib.hid hf
                have HN : Hid (¬ okBox x y wh xss) := Lib.hid (fun h => hr (h.2.2.2 k hlt))
                clear hf hr
                go_wp2_with fail
                refine (HF.out _ (fun a u h => below_cell (below_al (Below.refl _ _) _) a u h)).mono ?_
                rintro e w' ⟨rfl, rfl⟩
                go_wp2_with fail
                go_ret
                exact ⟨ret_b (boxB_no HN.out).symm, below_al (Below.refl _ _) _⟩
            · have hkz : ¬ (k : Int) < (xss.length : Int) := by omega
              have HN : Hid (okBox x y wh xss) := Lib.hid ⟨HSz.out, ⟨hw1, hw2⟩, HL.out, fun j hj => hH.out j hj (by omega)⟩
              clear hc hA
              go_wp2_with fail
              go_ret
              exact ⟨ret_b (boxB_yes HN.out).symm, below_al (Below.refl _ _) _⟩
        · have dl : ((xss.length : Int) != x * y) = true := by simp [hl]
          have HN : Hid (¬ okBox x y wh xss) := Lib.hid (fun h => hl h.2.2.1)
          clear hl hc hA
          go_enter Try.func191, Try.ntmps191
          go_wp2_with fail
          refine (isizes_yes _ _ _ HSz.out).mono ?_
          rintro e w' ⟨rfl, rfl⟩
          go_wp2_with fail
          go_ret
          exact ⟨ret_b (boxB_no HN.out).symm, below_al (Below.refl _ _) _⟩
      · have d2 : decide (1000 < wh) = true := by simp; omega
        have HN : Hid (¬ okBox x y wh xss) := Lib.hid (fun h => hw2 h.2.1.2)
        clear hc hA
        go_enter Try.func191, Try.ntmps191
        go_wp2_with fail
        refine (isizes_yes _ _ _ HSz.out).mono ?_
        rintro e w' ⟨rfl, rfl⟩
        go_wp2_with fail
        go_ret
        exact ⟨ret_b (boxB_no HN.out).symm, below_al (Below.refl _ _) _⟩
    · have d1 : decide (wh < 1) = true := by simp; omega
      have HN : Hid (¬ okBox x y wh xss) := Lib.hid (fun h => hw1 h.2.1.1)
      clear hc hA
      go_enter Try.func191, Try.ntmps191
      go_wp2_with fail
      refine (isizes_yes _ _ _ HSz.out).mono ?_
      rintro e w' ⟨rfl, rfl⟩
      go_wp2_with fail
      go_ret
      exact ⟨ret_b (boxB_no HN.out).symm, below_al (Below.refl _ _) _⟩
  · have HN : Hid (¬ okBox x y wh xss) := Lib.hid (fun h => hs h.1)
    have HSz := Lib.hid hs
    clear hs hc hA
    go_enter Try.func191, Try.ntmps191
    go_wp2_with fail
    refine (isizes_no _ _ _ HSz.out).mono ?_
    rintro e w' ⟨rfl, rfl⟩
    go_wp2_with fail
    go_ret
    exact ⟨ret_b (boxB_no HN.out).symm, below_al (Below.refl _ _) _⟩




end Go.Proofs.Ytiigfhigmdjooaa.val
