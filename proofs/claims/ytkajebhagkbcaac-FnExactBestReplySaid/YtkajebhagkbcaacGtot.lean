/- The total of a Game of both sides; a Game with a play of it. -/
import Derived.Test.YtkajebhagkbcaacGvali
namespace Go.Proofs.Ytkajebhagkbcaac.gtot
open Go.RowKit Go.Deep Go.Proofs.Ytkajebhagkbcaac.base
open Go.Proofs.Ytkajebhagkbcaac.ints (ret_int)
open Go.Proofs.Ytkajebhagkbcaac.rws (total)
open Go.Proofs.Ytkajebhagkbcaac.val (okSizes sum_take_succ ret_b)
open Go.Proofs.Ytkajebhagkbcaac.gval (okGame gameB gameB_yes gameB_no)
open Go.Proofs.Ytkajebhagkbcaac.play (within withinB withinB_yes withinB_no)

theorem ws_len {x y : Int} {ws : List Int} {xss : List (List Int)} (h : okGame x y ws xss) : ws.length ≤ 9 ∧ xss.length ≤ 9 := by
  have := (val.mul_small h.1).2
  have := h.2.1; have := h.2.2.1
  omega
theorem sum_bd {x y : Int} {ws : List Int} {xss : List (List Int)} (h : okGame x y ws xss) : ∀ k, k ≤ ws.length → 0 ≤ (ws.take k).sum ∧ (ws.take k).sum ≤ 99 * k := by
  intro k
  induction k with
  | zero => intro _; simp
  | succ k ih =>
    intro hk
    have h1 := ih (by omega)
    have h2 := h.2.2.2.1 k (by omega)
    rw [sum_take_succ ws k (by omega)]
    omega


set_option maxHeartbeats 1000000 in
theorem l4total (x y : Int) (v : Value) (ws : List Int) (u : Value) (xss : List (List Int)) (w : World) (h : game.GV w v ws u xss) (hok : okGame x y ws xss) :
    Calls Try.prog 57 #[.agg #[.int .i64 x, .int .i64 y, v, u]] w fun e w' => e = .returned (.int .i64 ws.sum) ∧ Below w.heap.size w w' := by
  obtain ⟨ua, un, uc, rfl⟩ := h.rows.shape
  obtain ⟨A, b, o, cap, rfl, hcap, hmax, hA, hc⟩ := h.ints.form
  have hl9 := (ws_len hok).1
  have HS := Lib.hid (sum_bd hok)
  clear h hmax hok
  go_enter Try.func57, Try.ntmps57
  go_wp2_with fail
  go_loopw [3, 4] (fun s i wr => ∃ k : Nat, ∃ c : Int, k ≤ ws.length ∧ i = .int .i64 k ∧ s = .int .i64 c ∧ 0 ≤ c ∧ c ≤ 99 * k ∧ Hid (c = (ws.take k).sum) ∧ wr = w.alloc (.cells #[.int .i64 x, .int .i64 y, .slice A ws.length cap, .slice ua un uc] 28)) (fun _ i _ => ws.length - (intOf i).toNat)
  case atStart => exact ⟨0, 0, Nat.zero_le _, rfl, rfl, by omega, by omega, by simp [Hid], rfl⟩
  case round =>
    obtain ⟨k, c, hk, rfl, rfl, hc0, hc1, hH, rfl⟩ := hrel
    by_cases hlt : k < ws.length
    · have hkz : (k : Int) < (ws.length : Int) := by omega
      obtain rfl := hA (by omega)
      have g0 := hc k hlt
      have gl := World.block_lt_of_cell? _ _ g0
      have hb := HS.out (k + 1) (by omega)
      have hs := sum_take_succ ws k hlt
      have hcc := hH.out
      have hbz : 0 ≤ c + ws[k] ∧ c + ws[k] ≤ 99 * (k + 1 : Nat) := by rw [hs, ← hcc] at hb; exact hb
      obtain ⟨hb0, hb1⟩ := hbz
      have HT := Lib.hid hs
      have HC := Lib.hid hc
      clear hc hA hb hs hcc
      generalize ws[k] = z at *
      go_wp2_with fail
      go_roundw
      case rel => exact ⟨k + 1, _, by omega, by go_num, rfl, by omega, by omega, Lib.hid (by rw [HT.out, hH.out]), by first | rfl | trivial⟩
      case measure => simp [intOf]; omega
    · have hkz : ¬ (k : Int) < (ws.length : Int) := by omega
      obtain rfl : k = ws.length := by omega
      have hcc := hH.out
      rw [List.take_length] at hcc
      have HC := Lib.hid hcc
      clear hc hA hcc
      go_wp2_with fail
      go_ret
      exact ⟨ret_int HC.out, below_al (Below.refl _ _) _⟩



set_option maxHeartbeats 1000000 in
theorem totalof (x y : Int) (v : Value) (ws : List Int) (u : Value) (xss : List (List Int)) (w : World) (h : game.GV w v ws u xss) (hok : okGame x y ws xss) :
    Calls Try.prog 58 #[.agg #[.int .i64 x, .int .i64 y, v, u]] w fun e w' => e = .returned (.int .i64 ws.sum) ∧ Below w.heap.size w w' := by
  obtain ⟨ua, un, uc, rfl⟩ := h.rows.shape
  obtain ⟨A, b, o, cap, rfl, hcap, hmax, hA, hc⟩ := h.ints.form
  have hl9 := (ws_len hok).1
  have HS := Lib.hid (sum_bd hok)
  clear h hmax hok
  go_enter Try.func58, Try.ntmps58
  go_wp2_with fail
  go_loopw [3, 5, 9] (fun s z i wr => ∃ k : Nat, ∃ c : Int, k ≤ ws.length ∧ i = .int .i64 k ∧ s = .int .i64 c ∧ (∃ z', z = z') ∧ 0 ≤ c ∧ c ≤ 99 * k ∧ Hid (c = (ws.take k).sum) ∧ wr = w.alloc (.cells #[.int .i64 x, .int .i64 y, .slice A ws.length cap, .slice ua un uc] 28)) (fun _ _ i _ => ws.length - (intOf i).toNat)
  case atStart => exact ⟨0, 0, Nat.zero_le _, rfl, rfl, ⟨_, rfl⟩, by omega, by omega, by simp [Hid], rfl⟩
  case round =>
    obtain ⟨k, c, hk, rfl, rfl, ⟨z', rfl⟩, hc0, hc1, hH, rfl⟩ := hrel
    by_cases hlt : k < ws.length
    · have hkz : (k : Int) < (ws.length : Int) := by omega
      obtain rfl := hA (by omega)
      have g0 := hc k hlt
      have gl := World.block_lt_of_cell? _ _ g0
      have hb := HS.out (k + 1) (by omega)
      have hs := sum_take_succ ws k hlt
      have hcc := hH.out
      have hbz : 0 ≤ c + ws[k] ∧ c + ws[k] ≤ 99 * (k + 1 : Nat) := by rw [hs, ← hcc] at hb; exact hb
      obtain ⟨hb0, hb1⟩ := hbz
      have HT := Lib.hid hs
      have HC := Lib.hid hc
      clear hc hA hb hs hcc
      generalize ws[k] = z at *
      go_wp2_with fail
      go_roundw
      case rel => exact ⟨k + 1, _, by omega, by go_num, rfl, ⟨_, rfl⟩, by omega, by omega, Lib.hid (by rw [HT.out, hH.out]), by first | rfl | trivial⟩
      case measure => simp [intOf]; omega
    · have hkz : ¬ (k : Int) < (ws.length : Int) := by omega
      obtain rfl : k = ws.length := by omega
      have hcc := hH.out
      rw [List.take_length] at hcc
      have HC := Lib.hid hcc
      clear hc hA hcc
      go_wp2_with fail
      go_ret
      exact ⟨ret_int HC.out, below_al (Below.refl _ _) _⟩


open Classical in
noncomputable def res (x y : Int) (ws : List Int) (xss : List (List Int)) : Int × Bool := if okGame x y ws xss then (ws.sum, true) else (0, false)
theorem res_yes {x y : Int} {ws : List Int} {xss : List (List Int)} (h : okGame x y ws xss) : res x y ws xss = (ws.sum, true) := if_pos h
theorem res_no {x y : Int} {ws : List Int} {xss : List (List Int)} (h : ¬ okGame x y ws xss) : res x y ws xss = (0, false) := if_neg h


theorem spec_any (x y : Int) (v : Value) (ws : List Int) (u : Value) (xss : List (List Int)) (w : World) (h : game.GV w v ws u xss) (hn : ws.length ≤ 1048576) (hm : total xss ≤ 1048576) :
    Calls Try.prog 20 #[.agg #[.int .i64 x, .int .i64 y, v, u]] w fun e w' => e = .returned (.tuple #[.int .i64 (res x y ws xss).1, .bool (res x y ws xss).2]) ∧ Below w.heap.size w w' := by
  obtain ⟨va, vn, vc, ua, un, uc, rfl, rfl⟩ := h.shape
  have H := Lib.hid h
  have K0 := Lib.hid (Blk.new w 28 #[.int .i64 x, .int .i64 y, .slice va vn vc, .slice ua un uc])
  have HC := Lib.hid (fun o => gval.spec_any x y _ ws _ xss (w.alloc o) (h.below (below_al (Below.refl _ _) o)) hn hm)
  clear h
  by_cases hok : okGame x y ws xss
  · have HE := Lib.hid (gameB_yes hok)
    have HOK := Lib.hid hok
    rw [res_yes hok]
    clear hok
    go_enter Try.func20, Try.ntmps20
    go_wp2_with fail
    refine (HC.out _).mono ?_
    rintro e w1 ⟨rfl, hb⟩
    rw [HE.out]
    have B1 := Lib.hid (below_tr (below_al (Below.refl _ _) _) hb)
    obtain ⟨c0, c1, c2, c3, c4⟩ := four_cells (K0.out.below hb)
    clear hb
    go_wp2_with fail
    refine (l4total x y _ ws _ xss _ (H.out.below B1.out) HOK.out).mono ?_
    rintro e w2 ⟨rfl, hb⟩
    have B2 := Lib.hid (below_tr B1.out hb)
    clear hb
    go_wp2_with fail
    go_ret2
    exact ⟨rfl, B2.out⟩
  · have HE := Lib.hid (gameB_no hok)
    rw [res_no hok]
    clear hok
    go_enter Try.func20, Try.ntmps20
    go_wp2_with fail
    refine (HC.out _).mono ?_
    rintro e w1 ⟨rfl, hb⟩
    rw [HE.out]
    have B1 := Lib.hid (below_tr (below_al (Below.refl _ _) _) hb)
    clear hb
    go_wp2_with fail
    go_ret2
    exact ⟨rfl, B1.out⟩



theorem impl_any (x y : Int) (v : Value) (ws : List Int) (u : Value) (xss : List (List Int)) (w : World) (h : game.GV w v ws u xss) (hn : ws.length ≤ 1048576) (hm : total xss ≤ 1048576) :
    Calls Try.prog 21 #[.agg #[.int .i64 x, .int .i64 y, v, u]] w fun e w' => e = .returned (.tuple #[.int .i64 (res x y ws xss).1, .bool (res x y ws xss).2]) ∧ Below w.heap.size w w' := by
  obtain ⟨va, vn, vc, ua, un, uc, rfl, rfl⟩ := h.shape
  have H := Lib.hid h
  have K0 := Lib.hid (Blk.new w 28 #[.int .i64 x, .int .i64 y, .slice va vn vc, .slice ua un uc])
  have HC := Lib.hid (fun o => gval.impl_any x y _ ws _ xss (w.alloc o) (h.below (below_al (Below.refl _ _) o)) hn hm)
  clear h
  by_cases hok : okGame x y ws xss
  · have HE := Lib.hid (gameB_yes hok)
    have HOK := Lib.hid hok
    rw [res_yes hok]
    clear hok
    go_enter Try.func21, Try.ntmps21
    go_wp2_with fail
    refine (HC.out _).mono ?_
    rintro e w1 ⟨rfl, hb⟩
    rw [HE.out]
    have B1 := Lib.hid (below_tr (below_al (Below.refl _ _) _) hb)
    obtain ⟨c0, c1, c2, c3, c4⟩ := four_cells (K0.out.below hb)
    clear hb
    go_wp2_with fail
    refine (totalof x y _ ws _ xss _ (H.out.below B1.out) HOK.out).mono ?_
    rintro e w2 ⟨rfl, hb⟩
    have B2 := Lib.hid (below_tr B1.out hb)
    clear hb
    go_wp2_with fail
    go_ret2
    exact ⟨rfl, B2.out⟩
  · have HE := Lib.hid (gameB_no hok)
    rw [res_no hok]
    clear hok
    go_enter Try.func21, Try.ntmps21
    go_wp2_with fail
    refine (HC.out _).mono ?_
    rintro e w1 ⟨rfl, hb⟩
    rw [HE.out]
    have B1 := Lib.hid (below_tr (below_al (Below.refl _ _) _) hb)
    clear hb
    go_wp2_with fail
    go_ret2
    exact ⟨rfl, B1.out⟩


end Go.Proofs.Ytkajebhagkbcaac.gtot
