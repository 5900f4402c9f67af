/- Tasks: what one is; both sides' IsTask. -/
import Derived.Test.YtimfnhejiiagmaaPlay
import Derived.BigQuiet
namespace Go.Proofs.Ytimfnhejiiagmaa.task
open Go.RowKit Go.Deep Go.Proofs.Ytimfnhejiiagmaa.base
open Go.Proofs.Ytimfnhejiiagmaa.val (ret_b)
open Go.Proofs.Ytimfnhejiiagmaa.play (within withinB withinB_yes withinB_no)

/-- how many numbers the first list has -/
def wide (xss : List (List Int)) : Nat := (xss.getD 0 []).length
/-- what a task is -/
def okTask (xss : List (List Int)) : Prop := (1 ≤ xss.length ∧ xss.length ≤ 4) ∧ (1 ≤ wide xss ∧ wide xss ≤ 4) ∧ ∀ k (h : k < xss.length), within (wide xss) 0 1 xss[k]
open Classical in
noncomputable def taskB (xss : List (List Int)) : Bool := if okTask xss then true else false
theorem taskB_yes {xss : List (List Int)} (h : okTask xss) : taskB xss = true := if_pos h
theorem taskB_no {xss : List (List Int)} (h : ¬ okTask xss) : taskB xss = false := if_neg h
theorem wide_eq {xss : List (List Int)} (h : 0 < xss.length) : wide xss = xss[0].length := by
  unfold wide; simp [List.getD, h]
theorem row_len {xss : List (List Int)} (h : okTask xss) (k : Nat) (hk : k < xss.length) : xss[k].length = wide xss := by have := (h.2.2 k hk).1; omega
theorem row_bd {xss : List (List Int)} (h : okTask xss) (k : Nat) (hk : k < xss.length) (j : Nat) (hj : j < xss[k].length) : 0 ≤ xss[k][j] ∧ xss[k][j] ≤ 1 := (h.2.2 k hk).2 j hj
theorem ints_slice {w : World} {v : Value} {xs : List Int} (h : Ints w v xs) : ∃ A c, v = .slice A xs.length c := by
  obtain ⟨A, c, hv, _⟩ := h; exact ⟨A, c, by rw [hv, len_i64s]⟩

set_option maxHeartbeats 2000000 in
theorem spec_task (v : Value) (xss : List (List Int)) (w : World) (h : IRows w v xss) :
    Calls Try.prog 106 #[v] w fun e w' => e = .returned (.bool (taskB xss)) ∧ ∃ n, w' = w.drewN n := by
  obtain ⟨B, d, q, cap, R, rfl, hcap, hmax, hB, hr⟩ := h.form
  have hm : (xss.length : Int) ≤ 9223372036854775807 := by unfold maxLen at hmax; omega
  clear h hmax
  go_enter Try.func106, Try.ntmps106
  go_wp2_with fail
  go_loopw [2, 3] (fun q' i wr => ∃ k : Nat, k ≤ xss.length ∧ i = .int .i64 k ∧ q' = .bool false ∧ Hid (∀ j (h : j < xss.length), j < k → within (wide xss) 0 1 xss[j]) ∧ ∃ n, wr = w.drewN n) (fun _ i _ => xss.length - (intOf i).toNat)
  case atStart => exact ⟨0, Nat.zero_le _, rfl, rfl, fun j _ hj => by omega, 0, rfl⟩
  case round =>
    obtain ⟨k, hk, rfl, rfl, hH, n, rfl⟩ := hrel
    by_cases hlt : k < xss.length
    · have hkz : (k : Int) < (xss.length : Int) := by omega
      have hpos : 0 < xss.length := by omega
      have hkz0 : (0 : Int) < (xss.length : Int) := by omega
      obtain rfl := hB (by omega)
      obtain ⟨g0, g1⟩ := hr k hlt
      obtain ⟨a0, a1⟩ := hr 0 hpos
      have HW := Lib.hid (wide_eq hpos)
      obtain ⟨A1, c1, e1⟩ := ints_slice g1
      obtain ⟨A2, c2, e2⟩ := ints_slice a1
      rw [e1] at g0
      rw [e2, ← HW.out] at a0
      rw [e1] at g1
      rw [Nat.add_zero] at a0
      have hf : ∀ W : World, (∀ a u, w.cell? a = some u → W.cell? a = some u) → Calls Try.prog 138 #[.slice A1 xss[k].length c1, .int .i64 (wide xss)] W fun e w' => e = .returned (.bool (withinB (wide xss) 0 1 xss[k])) ∧ W = w' := fun W hW =>
        play.spec_bits _ xss[k] (wide xss) W (g1.keep hW)
      have HR := Lib.hid hr
      clear hr hB a1 g1 e1 e2
      by_cases hw : within (wide xss) 0 1 xss[k]
      · rw [withinB_yes hw] at hf
        have HF := Lib.hid hf
        have HWI := Lib.hid hw
        clear hf hw
        go_wp2_with fail
        go_quiet ((go_at_call 138; go_must (exact ints.quiet_at_same (HF.out _ (fun a u h => by simpa using h)))))
        go_wp2_with fail
        go_roundw
        case rel =>
          refine ⟨k + 1, by omega, by go_num, rfl, fun j hj hj' => ?_, by first | exact ⟨_, rfl⟩ | exact ⟨_, World.drewN_drewN _ _ _⟩⟩
          by_cases e : j = k
          · subst e; exact HWI.out
          · exact hH.out j hj (by omega)
        case measure => simp [intOf]; omega
      · rw [withinB_no hw] at hf
        have HF := Lib.hid hf
        have HN : Hid (¬ okTask xss) := Lib.hid (fun h => hw (h.2.2 k hlt))
        clear hf hw
        go_wp2_with fail
        go_quiet ((go_at_call 138; go_must (exact ints.quiet_at_same (HF.out _ (fun a u h => by simpa using h)))))
        go_wp2_with fail
        go_ret
        exact ⟨ret_b (taskB_no HN.out).symm, by first | exact ⟨_, rfl⟩ | exact ⟨_, World.drewN_drewN _ _ _⟩⟩
    · have hkz : ¬ (k : Int) < (xss.length : Int) := by omega
      by_cases hl : 1 ≤ xss.length ∧ xss.length ≤ 4
      · have hpos : 0 < xss.length := by omega
        have hkz0 : (0 : Int) < (xss.length : Int) := by omega
        have i1 : (1 : Int) ≤ (xss.length : Int) := by omega
        have i2 : (xss.length : Int) ≤ 4 := by omega
        have HL := Lib.hid hl
        obtain rfl := hB (by omega)
        obtain ⟨a0, a1⟩ := hr 0 hpos
        have HW := Lib.hid (wide_eq hpos)
        obtain ⟨A2, c2, e2⟩ := ints_slice a1
        rw [e2, ← HW.out] at a0
        rw [Nat.add_zero] at a0
        clear hr hB a1 e2 hl
        by_cases hw : 1 ≤ wide xss ∧ wide xss ≤ 4
        · have j1 : (1 : Int) ≤ (wide xss : Int) := by omega
          have j2 : (wide xss : Int) ≤ 4 := by omega
          have HN : Hid (okTask xss) := Lib.hid ⟨HL.out, hw, fun j hj => hH.out j hj (by omega)⟩
          clear hw
          go_wp2_with fail
          refine (val.in_yes _ _ _ _ i1 i2).mono ?_
          rintro e w' ⟨rfl, rfl⟩
          go_wp2_with fail
          refine (val.in_yes _ _ _ _ j1 j2).mono ?_
          rintro e w' ⟨rfl, rfl⟩
          go_wp2_with fail
          go_ret
          exact ⟨ret_b (taskB_yes HN.out).symm, _, rfl⟩
        · have hbad : (wide xss : Int) < 1 ∨ 4 < (wide xss : Int) := by omega
          have HN : Hid (¬ okTask xss) := Lib.hid (fun h => hw h.2.1)
          clear hw
          go_wp2_with fail
          refine (val.in_yes _ _ _ _ i1 i2).mono ?_
          rintro e w' ⟨rfl, rfl⟩
          go_wp2_with fail
          refine (val.in_no _ _ _ _ hbad).mono ?_
          rintro e w' ⟨rfl, rfl⟩
          clear hbad
          go_wp2_with fail
          go_ret
          exact ⟨ret_b (taskB_no HN.out).symm, _, rfl⟩
      · have HN : Hid (¬ okTask xss) := Lib.hid (fun h => hl h.1)
        have hbad : (xss.length : Int) < 1 ∨ 4 < (xss.length : Int) := by omega
        clear hl hr hB
        go_wp2_with fail
        refine (val.in_no _ _ _ _ hbad).mono ?_
        rintro e w' ⟨rfl, rfl⟩
        clear hbad
        go_wp2_with fail
        go_ret
        exact ⟨ret_b (taskB_no HN.out).symm, _, rfl⟩



theorem sides (x y : Int) (w : World) (r : Bool) (h : r = decide (1 ≤ x ∧ x ≤ 4 ∧ 1 ≤ y ∧ y ≤ 4)) :
    Calls Try.prog 168 #[.int .i64 x, .int .i64 y] w fun e w' => e = .returned (.bool r) ∧ w = w' := by
  subst h
  by_cases h1 : 1 ≤ x
  · have d1 : decide (1 ≤ x) = true := by simp [h1]
    by_cases h2 : x ≤ 4
    · have d2 : decide (x ≤ 4) = true := by simp [h2]
      by_cases h3 : 1 ≤ y
      · have d3 : decide (1 ≤ y) = true := by simp [h3]
        have HE : Hid (decide (y ≤ 4) = decide (1 ≤ x ∧ x ≤ 4 ∧ 1 ≤ y ∧ y ≤ 4)) := Lib.hid (by simp [h1, h2, h3])
        clear h1 h2 h3
        go_enter Try.func168, Try.ntmps168
        go_wp2_with fail
        go_ret
        exact ⟨ret_b HE.out, rfl⟩
      · have d3 : decide (1 ≤ y) = false := by simp [h3]
        have HE : Hid (decide (1 ≤ x ∧ x ≤ 4 ∧ 1 ≤ y ∧ y ≤ 4) = false) := Lib.hid (by simp [h3])
        clear h1 h2 h3
        go_enter Try.func168, Try.ntmps168
        go_wp2_with fail
        go_ret
        exact ⟨ret_b HE.out.symm, rfl⟩
    · have d2 : decide (x ≤ 4) = false := by simp [h2]
      have HE : Hid (decide (1 ≤ x ∧ x ≤ 4 ∧ 1 ≤ y ∧ y ≤ 4) = false) := Lib.hid (by simp [h2])
      clear h1 h2
      go_enter Try.func168, Try.ntmps168
      go_wp2_with fail
      go_ret
      exact ⟨ret_b HE.out.symm, rfl⟩
  · have d1 : decide (1 ≤ x) = false := by simp [h1]
    have HE : Hid (decide (1 ≤ x ∧ x ≤ 4 ∧ 1 ≤ y ∧ y ≤ 4) = false) := Lib.hid (by simp [h1])
    clear h1
    go_enter Try.func168, Try.ntmps168
    go_wp2_with fail
    go_ret
    exact ⟨ret_b HE.out.symm, rfl⟩

set_option maxHeartbeats 2000000 in
theorem impl_is (v : Value) (xss : List (List Int)) (w : World) (h : IRows w v xss) :
    Calls Try.prog 108 #[v] w fun e w' => e = .returned (.bool (taskB xss)) ∧ w = w' := by
  obtain ⟨B, d, q, cap, R, rfl, hcap, hmax, hB, hr⟩ := h.form
  have hm : (xss.length : Int) ≤ 9223372036854775807 := by unfold maxLen at hmax; omega
  clear h hmax
  by_cases hz : xss.length = 0
  · have dz : ((xss.length : Int) == 0) = true := by simp [hz]
    have HN : Hid (¬ okTask xss) := Lib.hid (fun h => by have := h.1.1; omega)
    clear hr hB hz
    go_enter Try.func108, Try.ntmps108
    go_wp2_with fail
    go_ret
    exact ⟨ret_b (taskB_no HN.out).symm, rfl⟩
  · have dz : ((xss.length : Int) == 0) = false := by simp; intro h; exact hz (by rw [h]; rfl)
    have hpos : 0 < xss.length := by omega
    have hkz0 : (0 : Int) < (xss.length : Int) := by omega
    obtain rfl := hB (by omega)
    obtain ⟨a0, a1⟩ := hr 0 hpos
    have HW := Lib.hid (wide_eq hpos)
    obtain ⟨A2, c2, e2⟩ := ints_slice a1
    rw [e2, ← HW.out] at a0
    rw [Nat.add_zero] at a0
    clear hB hz a1 e2
    by_cases hs : 1 ≤ (xss.length : Int) ∧ (xss.length : Int) ≤ 4 ∧ 1 ≤ (wide xss : Int) ∧ (wide xss : Int) ≤ 4
    · have HS := Lib.hid hs
      have HC := Lib.hid (fun W => sides xss.length (wide xss) W true (by simp [hs]))
      clear hs
      go_enter Try.func108, Try.ntmps108
      go_wp2_with fail
      refine (HC.out _).mono ?_
      rintro e w' ⟨rfl, rfl⟩
      go_wp2_with fail
      go_loopw [2, 4, 20] (fun q' z i wr => ∃ k : Nat, k ≤ xss.length ∧ i = .int .i64 k ∧ q' = .bool false ∧ (∃ z', z = z') ∧ Hid (∀ j (h : j < xss.length), j < k → within (wide xss) 0 1 xss[j]) ∧ w = wr) (fun _ _ i _ => xss.length - (intOf i).toNat)
      case atStart => exact ⟨0, Nat.zero_le _, rfl, rfl, ⟨_, rfl⟩, fun j _ hj => by omega, rfl⟩
      case round =>
        obtain ⟨k, hk, rfl, rfl, ⟨z', rfl⟩, hH, rfl⟩ := hrel
        by_cases hlt : k < xss.length
        · have hkz : (k : Int) < (xss.length : Int) := by omega
          obtain ⟨g0, g1⟩ := hr k hlt
          have HF := Lib.hid (play.impl_bits (R k) xss[k] (wide xss) w g1)
          obtain ⟨A1, c1, e1⟩ := ints_slice g1
          rw [e1] at g0 HF
          clear hr g1 e1
          by_cases hw : within (wide xss) 0 1 xss[k]
          · have HE := Lib.hid (withinB_yes hw)
            have HWI := Lib.hid hw
            clear hw
            go_wp2_with fail
            refine HF.out.mono ?_
            rintro e w' ⟨rfl, rfl⟩
            rw [HE.out]
            go_wp2_with fail
            go_roundw
            case rel =>
              refine ⟨k + 1, by omega, by go_num, rfl, ⟨_, rfl⟩, fun j hj hj' => ?_, by first | rfl | trivial⟩
              by_cases e : j = k
              · subst e; exact HWI.out
              · exact hH.out j hj (by omega)
            case measure => simp [intOf]; omega
          · have HE := Lib.hid (withinB_no hw)
            have HN : Hid (¬ okTask xss) := Lib.hid (fun h => hw (h.2.2 k hlt))
            clear hw
            go_wp2_with fail
            refine HF.out.mono ?_
            rintro e w' ⟨rfl, rfl⟩
            rw [HE.out]
            go_wp2_with fail
            go_ret
            exact ⟨ret_b (taskB_no HN.out).symm, rfl⟩
        · have hkz : ¬ (k : Int) < (xss.length : Int) := by omega
          have HN : Hid (okTask xss) := Lib.hid (by
            have := HS.out
            exact ⟨⟨by omega, by omega⟩, ⟨by omega, by omega⟩, fun j hj => hH.out j hj (by omega)⟩)
          clear hr
          go_wp2_with fail
          go_ret
          exact ⟨ret_b (taskB_yes HN.out).symm, rfl⟩
    · have HN : Hid (¬ okTask xss) := Lib.hid (fun h => hs (by have := h.1; have := h.2.1; omega))
      have HC := Lib.hid (fun W => sides xss.length (wide xss) W false (by simp only [hs, decide_false]))
      clear hs hr
      go_enter Try.func108, Try.ntmps108
      go_wp2_with fail
      refine (HC.out _).mono ?_
      rintro e w' ⟨rfl, rfl⟩
      go_wp2_with fail
      go_ret
      exact ⟨ret_b (taskB_no HN.out).symm, rfl⟩

theorem impl_below (v : Value) (xss : List (List Int)) (w : World) (h : IRows w v xss) :
    Calls Try.prog 108 #[v] w fun e w' => e = .returned (.bool (taskB xss)) ∧ Below w.heap.size w w' := calls_below (impl_is v xss w h)

end Go.Proofs.Ytimfnhejiiagmaa.task
