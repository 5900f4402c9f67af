/- What a valid Trio is; that both IsTrio tell it. -/
import Derived.Test.YtomofmmecpdalaaTri
import Derived.Test.YtomofmmecpdalaaVal
namespace Go.Proofs.Ytomofmmecpdalaa.trv
open Go.RowKit Go.Deep Go.Proofs.Ytomofmmecpdalaa.base
open Go.Proofs.Ytomofmmecpdalaa.ints (ret_int ret_no ret_yes)
open Go.Proofs.Ytomofmmecpdalaa.rws (total len_le_total)
open Go.Proofs.Ytomofmmecpdalaa.val (okRowN rowNB rowNB_yes rowNB_no ret_b in_yes in_no sum_take_succ)
open Go.Proofs.Ytomofmmecpdalaa.tri (two_cells)

def okTrio (wh : Int) (xss : List (List Int)) : Prop := (1 ≤ wh ∧ wh ≤ 1000) ∧ xss.length = 8 ∧ ∀ k (h : k < xss.length), okRowN 8 wh xss[k]
open Classical in
noncomputable def trioB (wh : Int) (xss : List (List Int)) : Bool := if okTrio wh xss then true else false
theorem trioB_yes {wh : Int} {xss : List (List Int)} (h : okTrio wh xss) : trioB wh xss = true := if_pos h
theorem trioB_no {wh : Int} {xss : List (List Int)} (h : ¬ okTrio wh xss) : trioB wh xss = false := if_neg h

/-! ### the model -/
def ws (xs : List Int) : Int := xs.foldl (fun s a => IntKind.i64.wrap (s + a)) 0
theorem ws_succ (xs : List Int) (k : Nat) (h : k < xs.length) : IntKind.i64.wrap (ws (xs.take k) + xs[k]) = ws (xs.take (k + 1)) := by
  rw [List.take_succ_eq_append_getElem h]
  unfold ws
  rw [List.foldl_append]
  rfl
def inAll (wh : Int) (row : List Int) (n : Nat) : Prop := ∀ j (h : j < row.length), j < n → 0 ≤ row[j] ∧ row[j] ≤ wh
open Classical in
noncomputable def rowM (wh : Int) (row : List Int) : Bool := if inAll wh row 9 ∧ row.length = 8 ∧ ws row = wh then true else false
theorem rowM_yes {wh : Int} {row : List Int} (h : inAll wh row 9 ∧ row.length = 8 ∧ ws row = wh) : rowM wh row = true := if_pos h
theorem rowM_no {wh : Int} {row : List Int} (h : ¬ (inAll wh row 9 ∧ row.length = 8 ∧ ws row = wh)) : rowM wh row = false := if_neg h
theorem ws_sum {wh : Int} {row : List Int} (h : inAll wh row 9) (hl : row.length = 8) (hw : wh ≤ 1000) : ∀ k, k ≤ 8 → ws (row.take k) = (row.take k).sum ∧ 0 ≤ (row.take k).sum ∧ (row.take k).sum ≤ 1000 * k := by
  intro k
  induction k with
  | zero => intro _; simp [ws]
  | succ k ih =>
    intro hk
    obtain ⟨h1, h2, h3⟩ := ih (by omega)
    obtain ⟨a, b⟩ := h k (by omega) (by omega)
    have e := sum_take_succ row k (by omega)
    have hs : ws (row.take (k + 1)) = (row.take k).sum + row[k] := by
      rw [← ws_succ row k (by omega), h1]
      exact IntWalk.i64_in _ (by omega)
    refine ⟨by rw [hs, e], by omega, by omega⟩
theorem rowM_eq {wh : Int} {row : List Int} (hw : wh ≤ 1000) : rowM wh row = rowNB 8 wh row := by
  by_cases h : inAll wh row 9 ∧ row.length = 8 ∧ ws row = wh
  · obtain ⟨h1, h2, h3⟩ := h
    rw [rowM_yes ⟨h1, h2, h3⟩, rowNB_yes]
    refine ⟨h2, fun k hk => h1 k hk (by omega), ?_⟩
    have := (ws_sum h1 h2 hw 8 (Nat.le_refl _)).1
    rw [List.take_of_length_le (by omega)] at this
    omega
  · rw [rowM_no h, rowNB_no]
    rintro ⟨h2, h1, h3⟩
    have h1' : inAll wh row 9 := fun j hj _ => h1 j hj
    have := (ws_sum h1' h2 hw 8 (Nat.le_refl _)).1
    rw [List.take_of_length_le (by omega)] at this
    exact h ⟨h1', h2, by omega⟩


set_option maxHeartbeats 1000000 in
theorem rowM_any (v : Value) (row : List Int) (wh : Int) (w : World) (h : Ints w v row) (hn : row.length ≤ 1048576) :
    Calls Try.prog 98 #[v, .int .i64 wh] w fun e w' => e = .returned (.bool (rowM wh row)) ∧ w = w' := by
  obtain ⟨A, b, o, cap, rfl, hcap, hmax, hA, hc⟩ := h.form
  clear h hmax
  go_enter Try.func98, Try.ntmps98
  go_wp2
  go_loopw [4, 5, 6] (fun q s i wr => ∃ k : Nat, k ≤ row.length ∧ k ≤ 9 ∧ i = .int .i64 k ∧ s = .int .i64 (ws (row.take k)) ∧ q = .bool false ∧ Hid (inAll wh row k) ∧ w = wr) (fun _ _ i _ => 9 - (intOf i).toNat)
  case atStart => exact ⟨0, Nat.zero_le _, by omega, rfl, rfl, rfl, fun j _ hj => by omega, rfl⟩
  case round =>
    obtain ⟨k, hk, hk5, rfl, rfl, rfl, hH, rfl⟩ := hrel
    by_cases hlt : k < row.length
    · have hkz : (k : Int) < (row.length : Int) := by omega
      have dkz : decide ((k : Int) < (row.length : Int)) = true := by simp [hlt]
      by_cases h5 : k < 9
      · have hk5z : decide ((k : Int) < 9) = true := by simp; omega
        obtain rfl := hA (by omega)
        have g0 := hc k hlt
        by_cases hin : 0 ≤ row[k] ∧ row[k] ≤ wh
        · obtain ⟨i1, i2⟩ := hin
          have HS := ws_succ row k hlt
          generalize ws (row.take k) = c at HS
          have HC := Lib.hid hc
          clear hc hA
          go_wp2_with fail
          refine (in_yes _ _ _ _ i1 i2).mono ?_
          rintro e w' ⟨rfl, rfl⟩
          go_wp2_with fail
          go_roundw
          case rel =>
            refine ⟨k + 1, by omega, by omega, by go_num, rfl, rfl, fun j hj hj' => ?_, by first | rfl | trivial⟩
            by_cases e : j = k
            · subst e; exact ⟨i1, i2⟩
            · exact hH.out j hj (by omega)
          case measure => simp [intOf]; omega
        · have hbad : row[k] < 0 ∨ wh < row[k] := by omega
          have HN : Hid (¬ (inAll wh row 9 ∧ row.length = 8 ∧ ws row = wh)) := Lib.hid (fun h => hin (h.1 k hlt h5))
          have HC := Lib.hid hc
          clear hc hA hin
          go_wp2_with fail
          refine (in_no _ _ _ _ hbad).mono ?_
          rintro e w' ⟨rfl, rfl⟩
          clear hbad
          go_wp2_with fail
          go_ret
          exact ⟨ret_b (rowM_no HN.out).symm, rfl⟩
      · obtain rfl : k = 9 := by omega
        have HN : Hid (¬ (inAll wh row 9 ∧ row.length = 8 ∧ ws row = wh)) := Lib.hid (fun h => by have := h.2.1; omega)
        have l4 : ((row.length : Int) == 8) = false := by simp; omega
        clear hc hA
        go_wp2_with fail
        go_ret
        exact ⟨ret_b (rowM_no HN.out).symm, rfl⟩
    · have hkz : ¬ (k : Int) < (row.length : Int) := by omega
      have dkz : decide ((k : Int) < (row.length : Int)) = false := by simp; omega
      have hkl : k = row.length := by omega
      have HK := Lib.hid hkl
      have he : ws (row.take k) = ws row := by rw [List.take_of_length_le (by omega)]
      rw [he]
      clear hc hA hkl he
      by_cases l : row.length = 8
      · have l4 : ((row.length : Int) == 8) = true := by simp; omega
        have HL := Lib.hid l
        clear l
        by_cases hw : ws row = wh
        · have dw : (ws row == wh) = true := by simp [hw]
          have HN : Hid (inAll wh row 9 ∧ row.length = 8 ∧ ws row = wh) := Lib.hid ⟨fun j hj _ => hH.out j hj (by have := HK.out; omega), HL.out, hw⟩
          clear hw
          go_wp2_with fail
          go_ret
          exact ⟨ret_b (rowM_yes HN.out).symm, rfl⟩
        · have dw : (ws row == wh) = false := by simp [hw]
          have HN : Hid (¬ (inAll wh row 9 ∧ row.length = 8 ∧ ws row = wh)) := Lib.hid (fun h => hw h.2.2)
          clear hw
          go_wp2_with fail
          go_ret
          exact ⟨ret_b (rowM_no HN.out).symm, rfl⟩
      · have l4 : ((row.length : Int) == 8) = false := by simp; omega
        have HN : Hid (¬ (inAll wh row 9 ∧ row.length = 8 ∧ ws row = wh)) := Lib.hid (fun h => l h.2.1)
        clear l
        go_wp2_with fail
        go_ret
        exact ⟨ret_b (rowM_no HN.out).symm, rfl⟩



set_option maxHeartbeats 1000000 in
theorem spec_any (wh : Int) (v : Value) (xss : List (List Int)) (w : World) (h : IRows w v xss) (hn : total xss ≤ 1048576) :
    Calls Try.prog 52 #[.agg #[.int .i64 wh, v]] w fun e w' => e = .returned (.bool (trioB wh xss)) ∧ Below w.heap.size w w' := by
  obtain ⟨A, b, o, cap, R, rfl, hcap, hmax, hA, hc⟩ := h.form
  clear h hmax
  have hlen : xss.length ≤ 1048576 := by unfold total at hn; omega
  go_enter Try.func52, Try.ntmps52
  go_wp2_with fail
  go_loopw [2, 3] (fun q i wr => ∃ k : Nat, k ≤ xss.length ∧ k ≤ 9 ∧ i = .int .i64 k ∧ q = .bool false ∧ Hid (∀ j (h : j < xss.length), j < k → rowM wh xss[j] = true) ∧ ∃ q, wr = (w.alloc (.cells #[.int .i64 wh, .slice A xss.length cap] 27)).drewN q) (fun _ i _ => 9 - (intOf i).toNat)
  case atStart => exact ⟨0, Nat.zero_le _, by omega, rfl, rfl, fun j _ hj => by omega, 0, rfl⟩
  case round =>
    obtain ⟨k, hk, hk9, rfl, rfl, hH, q, rfl⟩ := hrel
    have fin : ∀ (c : Bool), c = trioB wh xss → (k = xss.length ∨ k = 9) → True := fun _ _ _ => trivial
    clear fin
    by_cases hlt : k < xss.length
    · have hkz : (k : Int) < (xss.length : Int) := by omega
      have dkz : decide ((k : Int) < (xss.length : Int)) = true := by simp [hlt]
      by_cases h9 : k < 9
      · have d9 : decide ((k : Int) < 9) = true := by simp; omega
        obtain rfl := hA (by omega)
        have g0 := (hc k hlt).1
        have gl := World.block_lt_of_cell? _ _ g0
        have hf : ∀ W : World, (∀ a u, w.cell? a = some u → W.cell? a = some u) → Calls Try.prog 98 #[R k, .int .i64 wh] W fun e w' => e = .returned (.bool (rowM wh xss[k])) ∧ W = w' := fun W hW =>
          rowM_any (R k) xss[k] wh W ((hc k hlt).2.keep hW) (Nat.le_trans (len_le_total xss k hlt) hn)
        have HC := Lib.hid hc
        clear hc hA
        by_cases hr : rowM wh xss[k] = true
        · rw [hr] at hf
          have HF := Lib.hid hf
          have HR := Lib.hid hr
          clear hf hr
          go_wp2_with fail
          go_quiet ((go_at_call 98; go_must (exact ints.quiet_at_same (HF.out _ (fun a u h => below_cell (below_al (Below.refl _ _) _) a u h)))))
          go_wp2_with fail
          go_roundw
          case rel =>
            refine ⟨k + 1, by omega, by omega, by go_num, rfl, fun j hj hj' => ?_, _, rfl⟩
            by_cases e : j = k
            · subst e; exact HR.out
            · exact hH.out j hj (by omega)
          case measure => simp [intOf]; omega
        · have hr' : rowM wh xss[k] = false := by simpa using hr
          rw [hr'] at hf
          have HF := Lib.hid hf
          have HN : Hid (¬ okTrio wh xss) := Lib.hid (fun h => hr (by rw [rowM_eq h.1.2]; exact rowNB_yes (h.2.2 k hlt)))
          clear hf hr hr'
          go_wp2_with fail
          go_quiet ((go_at_call 98; go_must (exact ints.quiet_at_same (HF.out _ (fun a u h => below_cell (below_al (Below.refl _ _) _) a u h)))))
          go_wp2_with fail
          go_ret
          exact ⟨ret_b (trioB_no HN.out).symm, below_drewN (below_drewN (below_al (Below.refl _ _) _) _) _⟩
      · have d9 : decide ((k : Int) < 9) = false := by simp; omega
        have HN : Hid (¬ okTrio wh xss) := Lib.hid (fun h => by have := h.2.1; omega)
        have l8 : ((xss.length : Int) == 8) = false := by simp; omega
        clear hc hA
        by_cases hw : 1 ≤ wh ∧ wh ≤ 1000
        · obtain ⟨hw1, hw2⟩ := hw
          go_wp2_with fail
          refine (in_yes _ _ _ _ hw1 hw2).mono ?_
          rintro e w' ⟨rfl, rfl⟩
          go_wp2_with fail
          go_ret
          exact ⟨ret_b (trioB_no HN.out).symm, below_drewN (below_al (Below.refl _ _) _) _⟩
        · have hbad : wh < 1 ∨ 1000 < wh := by omega
          clear hw
          go_wp2_with fail
          refine (in_no _ _ _ _ hbad).mono ?_
          rintro e w' ⟨rfl, rfl⟩
          clear hbad
          go_wp2_with fail
          go_ret
          exact ⟨ret_b (trioB_no HN.out).symm, below_drewN (below_al (Below.refl _ _) _) _⟩
    · have hkz : ¬ (k : Int) < (xss.length : Int) := by omega
      have dkz : decide ((k : Int) < (xss.length : Int)) = false := by simp; omega
      have hkl : k = xss.length := by omega
      have HK := Lib.hid hkl
      clear hc hA hkl
      by_cases hw : 1 ≤ wh ∧ wh ≤ 1000
      · obtain ⟨hw1, hw2⟩ := hw
        by_cases l : xss.length = 8
        · have l8 : ((xss.length : Int) == 8) = true := by simp; omega
          have HL := Lib.hid l
          have HN : Hid (okTrio wh xss) := Lib.hid ⟨⟨hw1, hw2⟩, l, fun j hj => by
            have h1 := hH.out j hj (by have := HK.out; omega)
            rw [rowM_eq hw2] at h1
            apply Classical.byContradiction
            intro hno
            rw [rowNB_no hno] at h1
            cases h1⟩
          clear l
          go_wp2_with fail
          refine (in_yes _ _ _ _ hw1 hw2).mono ?_
          rintro e w' ⟨rfl, rfl⟩
          go_wp2_with fail
          go_ret
          exact ⟨ret_b (trioB_yes HN.out).symm, below_drewN (below_al (Below.refl _ _) _) _⟩
        · have l8 : ((xss.length : Int) == 8) = false := by simp; omega
          have HN : Hid (¬ okTrio wh xss) := Lib.hid (fun h => l h.2.1)
          clear l
          go_wp2_with fail
          refine (in_yes _ _ _ _ hw1 hw2).mono ?_
          rintro e w' ⟨rfl, rfl⟩
          go_wp2_with fail
          go_ret
          exact ⟨ret_b (trioB_no HN.out).symm, below_drewN (below_al (Below.refl _ _) _) _⟩
      · have hbad : wh < 1 ∨ 1000 < wh := by omega
        have HN : Hid (¬ okTrio wh xss) := Lib.hid (fun h => hw h.1)
        clear hw
        go_wp2_with fail
        refine (in_no _ _ _ _ hbad).mono ?_
        rintro e w' ⟨rfl, rfl⟩
        clear hbad
        go_wp2_with fail
        go_ret
        exact ⟨ret_b (trioB_no HN.out).symm, below_drewN (below_al (Below.refl _ _) _) _⟩



theorem specw_any (wh : Int) (v : Value) (xss : List (List Int)) (w : World) (h : IRows w v xss) (hn : total xss ≤ 1048576) :
    Calls Try.prog 16 #[.agg #[.int .i64 wh, v]] w fun e w' => e = .returned (.bool (trioB wh xss)) ∧ Below w.heap.size w w' := by
  obtain ⟨va, vn, vc, rfl⟩ := h.shape
  have H := Lib.hid h
  clear h
  go_enter Try.func16, Try.ntmps16
  go_wp2_with fail
  refine (spec_any wh _ xss _ (H.out.below (below_al (Below.refl _ _) _)) hn).mono ?_
  rintro e w' ⟨rfl, hb⟩
  have HB := Lib.hid hb
  clear hb
  go_wp2_with fail
  go_ret
  exact ⟨rfl, below_tr (below_al (Below.refl _ _) _) HB.out⟩


/-! ### the program -/

set_option maxHeartbeats 1000000 in
theorem impl_any (wh : Int) (v : Value) (xss : List (List Int)) (w : World) (h : IRows w v xss) (hn : total xss ≤ 1048576) :
    Calls Try.prog 18 #[.agg #[.int .i64 wh, v]] w fun e w' => e = .returned (.bool (trioB wh xss)) ∧ Below w.heap.size w w' := by
  obtain ⟨A, b, o, cap, R, rfl, hcap, hmax, hA, hc⟩ := h.form
  clear h hmax
  have hlen : xss.length ≤ 1048576 := by unfold total at hn; omega
  by_cases hw1 : 1 ≤ wh
  · have d1 : decide (wh < 1) = false := by simp; omega
    by_cases hw2 : wh ≤ 1000
    · have d2 : decide (1000 < wh) = false := by simp; omega
      by_cases hl : xss.length = 8
      · have dl : ((xss.length : Int) != 8) = false := by simp; omega
        have HL := Lib.hid hl
        clear hl
        go_enter Try.func18, Try.ntmps18
        go_wp2_with fail
        go_loopw [2, 4, 22] (fun q z i wr => ∃ k : Nat, k ≤ xss.length ∧ i = .int .i64 k ∧ q = .bool false ∧ (∃ z', z = z') ∧ Hid (∀ j (h : j < xss.length), j < k → okRowN 8 wh xss[j]) ∧ wr = w.alloc (.cells #[.int .i64 wh, .slice A xss.length cap] 27)) (fun _ _ i _ => xss.length - (intOf i).toNat)
        case atStart => exact ⟨0, Nat.zero_le _, rfl, rfl, ⟨_, rfl⟩, fun j _ hj => by omega, rfl⟩
        case round =>
          obtain ⟨k, hk, rfl, rfl, ⟨z', rfl⟩, hH, rfl⟩ := hrel
          by_cases hlt : k < xss.length
          · have hkz : (k : Int) < (xss.length : Int) := by omega
            obtain rfl := hA (by omega)
            have g0 := (hc k hlt).1
            have gl := World.block_lt_of_cell? _ _ g0
            have hf : ∀ W : World, (∀ a u, w.cell? a = some u → W.cell? a = some u) → Calls Try.prog 54 #[R k, .int .i64 8, .int .i64 wh] W fun e w' => e = .returned (.bool (rowNB 8 wh xss[k])) ∧ W = w' := fun W hW =>
              val.row_gen 8 (by omega) (R k) xss[k] wh W ((hc k hlt).2.keep hW) (Nat.le_trans (len_le_total xss k hlt) hn) hw1 hw2
            have HC := Lib.hid hc
            clear hc hA
            by_cases hr : okRowN 8 wh xss[k]
            · rw [rowNB_yes hr] at hf
              have HF := Lib.hid hf
              have HR := Lib.hid hr
              clear hf hr
              go_wp2_with fail
              refine (HF.out _ (fun a u h => below_cell (below_al (Below.refl _ _) _) a u h)).mono ?_
              rintro e w' ⟨rfl, rfl⟩
              go_wp2_with fail
              go_roundw
              case rel =>
                refine ⟨k + 1, by omega, by go_num, rfl, ⟨_, rfl⟩, fun j hj hj' => ?_, by first | rfl | trivial⟩
                by_cases e : j = k
                · subst e; exact HR.out
                · exact hH.out j hj (by omega)
              case measure => simp [intOf]; omega
            · rw [rowNB_no hr] at hf
              have HF := Lib.hid hf
              have HN : Hid (¬ okTrio wh xss) := Lib.hid (fun h => hr (h.2.2 k hlt))
              clear hf hr
              go_wp2_with fail
              refine (HF.out _ (fun a u h => below_cell (below_al (Below.refl _ _) _) a u h)).mono ?_
              rintro e w' ⟨rfl, rfl⟩
              go_wp2_with fail
              go_ret
              exact ⟨ret_b (trioB_no HN.out).symm, below_al (Below.refl _ _) _⟩
          · have hkz : ¬ (k : Int) < (xss.length : Int) := by omega
            have HN : Hid (okTrio wh xss) := Lib.hid ⟨⟨hw1, hw2⟩, HL.out, fun j hj => hH.out j hj (by omega)⟩
            clear hc hA
            go_wp2_with fail
            go_ret
            exact ⟨ret_b (trioB_yes HN.out).symm, below_al (Below.refl _ _) _⟩
      · have dl : ((xss.length : Int) != 8) = true := by simp; omega
        have HN : Hid (¬ okTrio wh xss) := Lib.hid (fun h => hl h.2.1)
        clear hl hc hA
        go_enter Try.func18, Try.ntmps18
        go_wp2_with fail
        go_ret
        exact ⟨ret_b (trioB_no HN.out).symm, below_al (Below.refl _ _) _⟩
    · have d2 : decide (1000 < wh) = true := by simp; omega
      have HN : Hid (¬ okTrio wh xss) := Lib.hid (fun h => hw2 h.1.2)
      clear hc hA
      go_enter Try.func18, Try.ntmps18
      go_wp2_with fail
      go_ret
      exact ⟨ret_b (trioB_no HN.out).symm, below_al (Below.refl _ _) _⟩
  · have d1 : decide (wh < 1) = true := by simp; omega
    have HN : Hid (¬ okTrio wh xss) := Lib.hid (fun h => hw1 h.1.1)
    clear hc hA
    go_enter Try.func18, Try.ntmps18
    go_wp2_with fail
    go_ret
    exact ⟨ret_b (trioB_no HN.out).symm, below_al (Below.refl _ _) _⟩


end Go.Proofs.Ytomofmmecpdalaa.trv
