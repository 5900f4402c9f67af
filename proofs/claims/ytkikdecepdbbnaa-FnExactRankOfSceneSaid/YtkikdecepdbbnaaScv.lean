/- Valid Scenes: l1Rising, l7Context, l7Good and IsScene of the model; arePlaces and IsScene of the program. -/
import Derived.Test.YtkikdecepdbbnaaScene
import Derived.Test.YtkikdecepdbbnaaScm
namespace Go.Proofs.Ytkikdecepdbbnaa.scv
open Go.RowKit Go.Deep Go.Proofs.Ytkikdecepdbbnaa.base
open Go.Proofs.Ytkikdecepdbbnaa.ints (ret_int ret_no ret_yes)
open Go.Proofs.Ytkikdecepdbbnaa.rws (total len_le_total)
open Go.Proofs.Ytkikdecepdbbnaa.val (ret_b)
open Go.Proofs.Ytkikdecepdbbnaa.play (within withinB withinB_yes withinB_no)
open Go.Proofs.Ytkikdecepdbbnaa.scm

theorem sub_one (k : Nat) : (((k + 1 : Nat) : Int) - 1) = (k : Int) := by omega


set_option maxHeartbeats 2000000 in
theorem spec_rising (v : Value) (xs : List Int) (lo hi : Int) (w : World) (h : Ints w v xs) :
    Calls Try.prog 65 #[v, .int .i64 lo, .int .i64 hi] w fun e w' => e = .returned (.bool (risingB lo hi xs)) ∧ ∃ q, w' = w.drewN q := by
  obtain ⟨A, b, o, cap, rfl, hcap, hmax, hA, hc⟩ := h.form
  have hm : (xs.length : Int) ≤ 9223372036854775807 := by unfold maxLen at hmax; omega
  clear h hmax
  go_enter Try.func65, Try.ntmps65
  go_wp2_with fail
  go_loopw [6, 7] (fun q i wr => ∃ k : Nat, k ≤ xs.length ∧ i = .int .i64 k ∧ q = .bool false ∧ Hid (∀ j (h : j < xs.length), j < k → lo ≤ xs[j] ∧ xs[j] ≤ hi ∧ ∀ (h0 : 0 < j), xs[j - 1]'(by omega) < xs[j]) ∧ ∃ m, wr = w.drewN m) (fun _ i _ => xs.length - (intOf i).toNat)
  case atStart => exact ⟨0, Nat.zero_le _, rfl, rfl, fun j _ hj => by omega, 0, rfl⟩
  case round =>
    obtain ⟨k, hk, rfl, rfl, hH, m, rfl⟩ := hrel
    by_cases hlt : k < xs.length
    · have hkz : (k : Int) < (xs.length : Int) := by omega
      obtain rfl := hA (by omega)
      have g0 := hc k hlt
      have gl := World.block_lt_of_cell? _ _ g0
      have HC := Lib.hid hc
      clear hc hA
      by_cases hin : lo ≤ xs[k] ∧ xs[k] ≤ hi
      · obtain ⟨i1, i2⟩ := hin
        by_cases hz : k = 0
        · have HZ := Lib.hid hz
          have d0 : decide (0 < k) = false := by simp; omega
          clear hz
          go_wp2_with fail
          go_quiet ((go_at_call 72; go_must (exact ints.quiet_at_same (val.in_yes _ _ _ _ i1 i2))))
          all_goals
            go_wp2_with fail
            go_roundw
            case rel =>
              refine ⟨k + 1, by omega, by go_num, rfl, fun j hj hj' => ?_, _, by first | rfl | exact ints.drewN_drewN _ _ _⟩
              obtain rfl : j = k := by have := HZ.out; omega
              exact ⟨i1, i2, fun h0 => by have := HZ.out; omega⟩
            case measure => simp [intOf]; omega
        · obtain ⟨j, rfl⟩ : ∃ j, k = j + 1 := ⟨k - 1, by omega⟩
          have hjl : j < xs.length := by omega
          have g1 := HC.out j hjl
          have hjz : (j : Int) < (xs.length : Int) := by omega
          have d0 : decide ((0 : Int) < ((j + 1 : Nat) : Int)) = true := by simp
          have dj : ((j + 1 : Nat) : Int) - 1 = (j : Int) := by omega
          clear hz
          by_cases hl : xs[j] < xs[j + 1]
          · have d1 : decide (xs[j + 1] ≤ xs[j]) = false := by simp; omega
            have HL := Lib.hid hl
            clear hl
            go_wp2_with fail
            go_quiet ((go_at_call 72; go_must (exact ints.quiet_at_same (val.in_yes _ _ _ _ i1 i2))))
            all_goals
              go_wp2_with fail
              go_roundw
              case rel =>
                refine ⟨j + 1 + 1, by omega, by go_num, rfl, fun i hi hi' => ?_, _, rfl⟩
                by_cases e : i = j + 1
                · subst e; exact ⟨i1, i2, fun _ => HL.out⟩
                · exact hH.out i hi (by omega)
              case measure => simp [intOf]; omega
          · have d1 : decide (xs[j + 1] ≤ xs[j]) = true := by simp; omega
            have HN : Hid (¬ rising lo hi xs) := Lib.hid (fun h => hl ((h (j + 1) hlt).2.2 (by omega)))
            clear hl
            go_wp2_with fail
            go_quiet ((go_at_call 72; go_must (exact ints.quiet_at_same (val.in_yes _ _ _ _ i1 i2))))
            all_goals
              go_wp2_with fail
              go_ret
              exact ⟨ret_b (risingB_no HN.out).symm, _, ints.drewN_drewN _ _ _⟩
      · have hbad : xs[k] < lo ∨ hi < xs[k] := by omega
        have HN : Hid (¬ rising lo hi xs) := Lib.hid (fun h => hin ⟨(h k hlt).1, (h k hlt).2.1⟩)
        clear hin
        go_wp2_with fail
        go_quiet ((go_at_call 72; go_must (exact ints.quiet_at_same (val.in_no _ _ _ _ hbad))))
        all_goals
          go_wp2_with fail
          go_ret
          exact ⟨ret_b (risingB_no HN.out).symm, _, ints.drewN_drewN _ _ _⟩
    · have hkz : ¬ (k : Int) < (xs.length : Int) := by omega
      have HN : Hid (rising lo hi xs) := Lib.hid (fun j hj => hH.out j hj (by omega))
      clear hc hA
      go_wp2_with fail
      go_ret
      exact ⟨ret_b (risingB_yes HN.out).symm, _, rfl⟩



set_option maxHeartbeats 1000000 in
/-- what l7Context answers of a list, of any number n -/
theorem spec_ctxm (n m : Int) (v : Value) (xs : List Int) (w : World) (h : Ints w v xs) (he' : IntKind.i64.wrap (n - 1) = m) :
    Calls Try.prog 85 #[.int .i64 n, v] w fun e w' => e = .returned (.bool (ctxB (m + 1) xs)) ∧ ∃ q, w' = w.drewN q := by
  have HR := Lib.hid (spec_rising v xs 0 m w h)
  obtain ⟨A, b, o, cap, rfl, hcap, hmax, hA, hc⟩ := h.form
  clear h hmax hc hA hcap
  have e1 : m + 1 - 1 = m := by omega
  by_cases hl : 0 < xs.length
  · have hlz : (0 : Int) < (xs.length : Int) := by omega
    by_cases hr : rising 0 m xs
    · have HN : Hid (ctx (m + 1) xs) := Lib.hid ⟨hl, by rw [e1]; exact hr⟩
      have HQ := HR
      rw [risingB_yes hr] at HQ
      clear hr HR hl e1
      go_enter Try.func85, Try.ntmps85
      go_wp2_with fail
      refine HQ.out.mono ?_
      rintro e w' ⟨rfl, q, rfl⟩
      go_wp2_with fail
      go_ret
      exact ⟨ret_b (ctxB_yes HN.out).symm, _, rfl⟩
    · have HN : Hid (¬ ctx (m + 1) xs) := Lib.hid (fun h => hr (by have := h.2; rwa [e1] at this))
      have HQ := HR
      rw [risingB_no hr] at HQ
      clear hr HR hl e1
      go_enter Try.func85, Try.ntmps85
      go_wp2_with fail
      refine HQ.out.mono ?_
      rintro e w' ⟨rfl, q, rfl⟩
      go_wp2_with fail
      go_ret
      exact ⟨ret_b (ctxB_no HN.out).symm, _, rfl⟩
  · have HN : Hid (¬ ctx (m + 1) xs) := Lib.hid (fun h => hl h.1)
    have hlz : ¬ (0 : Int) < (xs.length : Int) := by omega
    clear hl
    go_enter Try.func85, Try.ntmps85
    go_wp2_with fail
    go_ret
    exact ⟨ret_b (ctxB_no HN.out).symm, 0, rfl⟩



set_option maxHeartbeats 1000000 in
theorem impl_places (v : Value) (xs : List Int) (n : Int) (w : World) (h : Ints w v xs) :
    Calls Try.prog 53 #[v, .int .i64 n] w fun e w' => e = .returned (.bool (risingB 0 (n - 1) xs)) ∧ w = w' := by
  obtain ⟨A, b, o, cap, rfl, hcap, hmax, hA, hc⟩ := h.form
  have hm : (xs.length : Int) ≤ 9223372036854775807 := by unfold maxLen at hmax; omega
  clear h hmax
  go_enter Try.func53, Try.ntmps53
  go_wp2_with fail
  go_loopw [4, 5, 7, 10] (fun q p z i wr => ∃ (k : Nat) (c : Int), k ≤ xs.length ∧ i = .int .i64 k ∧ p = .int .i64 c ∧ q = .bool false ∧ (∃ z', z = z') ∧ -1 ≤ c ∧ Hid ((k = 0 → c = -1) ∧ (∀ h : 0 < k ∧ k - 1 < xs.length, c = xs[k - 1]) ∧ ∀ j (h : j < xs.length), j < k → 0 ≤ xs[j] ∧ xs[j] ≤ n - 1 ∧ ∀ (h0 : 0 < j), xs[j - 1]'(by omega) < xs[j]) ∧ w = wr) (fun _ _ _ i _ => xs.length - (intOf i).toNat)
  case atStart => exact ⟨0, -1, Nat.zero_le _, rfl, rfl, rfl, ⟨_, rfl⟩, by omega, ⟨fun _ => rfl, fun h => by omega, fun j _ hj => by omega⟩, rfl⟩
  case round =>
    obtain ⟨k, c, hk, rfl, rfl, rfl, ⟨z', rfl⟩, hcm, hH, rfl⟩ := hrel
    by_cases hlt : k < xs.length
    · have hkz : (k : Int) < (xs.length : Int) := by omega
      obtain rfl := hA (by omega)
      have g0 := hc k hlt
      have HC := Lib.hid hc
      clear hc hA
      by_cases i1 : c < xs[k]
      · have d1 : decide (xs[k] ≤ c) = false := by simp; omega
        by_cases i2 : xs[k] ≤ n - 1
        · have d2 : decide (n ≤ xs[k]) = false := by simp; omega
          go_wp2_with fail
          go_roundw
          case rel =>
            refine ⟨k + 1, xs[k], by omega, by go_num, rfl, rfl, ⟨_, rfl⟩, by omega, ⟨fun h => by omega, fun h => by simp, fun j hj hj' => ?_⟩, by first | rfl | trivial⟩
            by_cases e : j = k
            · subst e
              exact ⟨by omega, i2, fun h0 => by have := hH.out.2.1 ⟨h0, by omega⟩; omega⟩
            · exact hH.out.2.2 j hj (by omega)
          case measure => simp [intOf]; omega
        · have d2 : decide (n ≤ xs[k]) = true := by simp; omega
          have HN : Hid (¬ rising 0 (n - 1) xs) := Lib.hid (fun h => i2 (h k hlt).2.1)
          go_wp2_with fail
          go_ret
          exact ⟨ret_b (risingB_no HN.out).symm, rfl⟩
      · have d1 : decide (xs[k] ≤ c) = true := by simp; omega
        have HN : Hid (¬ rising 0 (n - 1) xs) := Lib.hid (fun h => by
          by_cases hz : k = 0
          · have := hH.out.1 hz; have := (h k hlt).1; omega
          · have := hH.out.2.1 ⟨by omega, by omega⟩; have := (h k hlt).2.2 (by omega); omega)
        go_wp2_with fail
        go_ret
        exact ⟨ret_b (risingB_no HN.out).symm, rfl⟩
    · have hkz : ¬ (k : Int) < (xs.length : Int) := by omega
      have HN : Hid (rising 0 (n - 1) xs) := Lib.hid (fun j hj => hH.out.2.2 j hj (by omega))
      clear hc hA
      go_wp2_with fail
      go_ret
      exact ⟨ret_b (risingB_yes HN.out).symm, rfl⟩



set_option maxHeartbeats 2000000 in
theorem spec_good (x : Int) (u : Value) (xss : List (List Int)) (v : Value) (ws : List Int) (w : World) (h : scene.GV w v ws u xss) (hm : total xss ≤ 1048576) :
    Calls Try.prog 50 #[.agg #[.int .i64 x, u, v]] w fun e w' => e = .returned (.bool (sceneB x xss ws)) ∧ Below w.heap.size w w' := by
  obtain ⟨A, b, o, cap, R, rfl, hcap, hmax, hA, hc⟩ := h.rows.form
  have HI := Lib.hid h.ints
  obtain ⟨C, cap', rfl⟩ : ∃ C c, v = .slice C ws.length c := by obtain ⟨C, c, hv, _⟩ := h.ints; exact ⟨C, c, by rw [hv, len_i64s]⟩
  have hlen : xss.length ≤ 1048576 := by unfold total at hm; omega
  clear h hmax
  obtain ⟨m, he⟩ : ∃ m, IntKind.i64.wrap (x - 1) = m := ⟨_, rfl⟩
  have HM : Hid (0 ≤ x → x ≤ 12 → m + 1 = x) := Lib.hid (fun h0 h1 => by rw [← he]; simp [IntKind.wrap, IntKind.bits, IntKind.signed]; omega)
  have HE := Lib.hid he
  clear he
  go_enter Try.func50, Try.ntmps50
  go_wp2_with fail
  go_loopw [2, 3] (fun q i wr => ∃ k : Nat, k ≤ xss.length ∧ i = .int .i64 k ∧ q = .bool false ∧ Hid (∀ j (h : j < xss.length), j < k → ctx (m + 1) xss[j]) ∧ ∃ q, wr = (w.alloc (.cells #[.int .i64 x, .slice A xss.length cap, .slice C ws.length cap'] 28)).drewN q) (fun _ i _ => xss.length - (intOf i).toNat)
  case atStart => exact ⟨0, Nat.zero_le _, rfl, rfl, fun j _ hj => by omega, 0, rfl⟩
  case round =>
    obtain ⟨k, hk, rfl, rfl, hH, q, rfl⟩ := hrel
    by_cases hlt : k < xss.length
    · have hkz : (k : Int) < (xss.length : Int) := by omega
      obtain rfl := hA (by omega)
      have g0 := (hc k hlt).1
      have gl := World.block_lt_of_cell? _ _ g0
      have hf : ∀ W : World, (∀ a u, w.cell? a = some u → W.cell? a = some u) → Calls Try.prog 85 #[.int .i64 x, R k] W fun e w' => e = .returned (.bool (ctxB (m + 1) xss[k])) ∧ ∃ q, w' = W.drewN q := fun W hW =>
        spec_ctxm x m (R k) xss[k] W ((hc k hlt).2.keep hW) HE.out
      have HC := Lib.hid hc
      clear hc hA
      by_cases hr : ctx (m + 1) xss[k]
      · rw [ctxB_yes hr] at hf
        have HF := Lib.hid hf
        have HR := Lib.hid hr
        clear hf hr
        go_wp2_with fail
        go_quiet ((go_at_call 85; go_must (exact ints.quiet_at (HF.out _ (fun a u h => below_cell (below_al (Below.refl _ _) _) a u h)))))
        go_wp2_with fail
        go_roundw
        case rel =>
          refine ⟨k + 1, by omega, by go_num, rfl, fun j hj hj' => ?_, _, by first | rfl | exact ints.drewN_drewN _ _ _⟩
          by_cases e : j = k
          · subst e; exact HR.out
          · exact hH.out j hj (by omega)
        case measure => simp [intOf]; omega
      · have HN : Hid (¬ okScene x xss ws) := Lib.hid (fun h => hr (by rw [HM.out h.ev0 h.ev1]; exact h.ctx k hlt))
        rw [ctxB_no hr] at hf
        have HF := Lib.hid hf
        clear hf hr
        go_wp2_with fail
        go_quiet ((go_at_call 85; go_must (exact ints.quiet_at (HF.out _ (fun a u h => below_cell (below_al (Below.refl _ _) _) a u h)))))
        go_wp2_with fail
        go_ret
        exact ⟨ret_b (sceneB_no HN.out).symm, below_drewN (below_drewN (below_al (Below.refl _ _) _) _) _⟩
    · have hkz : ¬ (k : Int) < (xss.length : Int) := by omega
      clear hc hA
      by_cases hx : 0 ≤ x ∧ x ≤ 12
      · obtain ⟨x0, x1⟩ := hx
        by_cases hl : xss.length ≤ 10
        · have dl : decide ((xss.length : Int) ≤ 10) = true := by simp; omega
          by_cases hb : within xss.length 0 1 ws
          · have HN : Hid (okScene x xss ws) := Lib.hid ⟨x0, x1, hl, hb, fun j hj => by rw [← HM.out x0 x1]; exact hH.out j hj (by omega)⟩
            have HB := Lib.hid (withinB_yes hb)
            clear hb hl
            go_wp2_with fail
            refine (val.in_yes _ _ _ _ x0 x1).mono ?_
            rintro e w' ⟨rfl, rfl⟩
            go_wp2_with fail
            refine (play.spec_bits _ ws _ _ (HI.out.below (below_drewN (below_al (Below.refl _ _) _) _))).mono ?_
            rintro e w' ⟨rfl, rfl⟩
            rw [HB.out]
            go_wp2_with fail
            go_ret
            exact ⟨ret_b (sceneB_yes HN.out).symm, below_drewN (below_al (Below.refl _ _) _) _⟩
          · have HN : Hid (¬ okScene x xss ws) := Lib.hid (fun h => hb h.sums)
            have HB := Lib.hid (withinB_no hb)
            clear hb hl
            go_wp2_with fail
            refine (val.in_yes _ _ _ _ x0 x1).mono ?_
            rintro e w' ⟨rfl, rfl⟩
            go_wp2_with fail
            refine (play.spec_bits _ ws _ _ (HI.out.below (below_drewN (below_al (Below.refl _ _) _) _))).mono ?_
            rintro e w' ⟨rfl, rfl⟩
            rw [HB.out]
            go_wp2_with fail
            go_ret
            exact ⟨ret_b (sceneB_no HN.out).symm, below_drewN (below_al (Below.refl _ _) _) _⟩
        · have dl : decide ((xss.length : Int) ≤ 10) = false := by simp; omega
          have HN : Hid (¬ okScene x xss ws) := Lib.hid (fun h => hl h.len)
          clear hl
          go_wp2_with fail
          refine (val.in_yes _ _ _ _ x0 x1).mono ?_
          rintro e w' ⟨rfl, rfl⟩
          go_wp2_with fail
          go_ret
          exact ⟨ret_b (sceneB_no HN.out).symm, below_drewN (below_al (Below.refl _ _) _) _⟩
      · have hbad : x < 0 ∨ 12 < x := by omega
        have HN : Hid (¬ okScene x xss ws) := Lib.hid (fun h => hx ⟨h.ev0, h.ev1⟩)
        clear hx
        go_wp2_with fail
        refine (val.in_no _ _ _ _ hbad).mono ?_
        rintro e w' ⟨rfl, rfl⟩
        clear hbad
        go_wp2_with fail
        go_ret
        exact ⟨ret_b (sceneB_no HN.out).symm, below_drewN (below_al (Below.refl _ _) _) _⟩



theorem spec_scene (x : Int) (u : Value) (xss : List (List Int)) (v : Value) (ws : List Int) (w : World) (h : scene.GV w v ws u xss) (hm : total xss ≤ 1048576) :
    Calls Try.prog 16 #[.agg #[.int .i64 x, u, v]] w fun e w' => e = .returned (.bool (sceneB x xss ws)) ∧ Below w.heap.size w w' := by
  obtain ⟨va, vn, vc, ua, un, uc, rfl, rfl⟩ := h.shape
  have H := Lib.hid h
  clear h
  go_enter Try.func16, Try.ntmps16
  go_wp2_with fail
  refine (spec_good x _ xss _ ws _ (H.out.below (below_al (Below.refl _ _) _)) hm).mono ?_
  rintro e w' ⟨rfl, hb⟩
  have HB := Lib.hid (below_tr (below_al (Below.refl _ _) _) hb)
  clear hb
  go_wp2_with fail
  go_ret
  exact ⟨rfl, HB.out⟩



set_option maxHeartbeats 2000000 in
theorem impl_scene (x : Int) (u : Value) (xss : List (List Int)) (v : Value) (ws : List Int) (w : World) (h : scene.GV w v ws u xss) (hm : total xss ≤ 1048576) :
    Calls Try.prog 18 #[.agg #[.int .i64 x, u, v]] w fun e w' => e = .returned (.bool (sceneB x xss ws)) ∧ Below w.heap.size w w' := by
  obtain ⟨A, b, o, cap, R, rfl, hcap, hmax, hA, hc⟩ := h.rows.form
  have HI := Lib.hid h.ints
  obtain ⟨C, cap', rfl⟩ : ∃ C c, v = .slice C ws.length c := by obtain ⟨C, c, hv, _⟩ := h.ints; exact ⟨C, c, by rw [hv, len_i64s]⟩
  have hlen : xss.length ≤ 1048576 := by unfold total at hm; omega
  clear h hmax
  by_cases x0 : 0 ≤ x
  · have d0 : decide (x < 0) = false := by simp; omega
    by_cases x1 : x ≤ 12
    · have d1 : decide (12 < x) = false := by simp; omega
      by_cases hl : xss.length ≤ 10
      · have dl : decide ((10 : Int) < (xss.length : Int)) = false := by simp; omega
        by_cases hb : within xss.length 0 1 ws
        · have HW := Lib.hid hb
          have HB := Lib.hid (withinB_yes hb)
          clear hb
          go_enter Try.func18, Try.ntmps18
          go_wp2_with fail
          refine (play.impl_bits _ ws _ _ (HI.out.below (below_al (Below.refl _ _) _))).mono ?_
          rintro e w' ⟨rfl, rfl⟩
          rw [HB.out]
          go_wp2_with fail
          go_loopw [2, 4, 31] (fun q z i wr => ∃ k : Nat, k ≤ xss.length ∧ i = .int .i64 k ∧ q = .bool false ∧ (∃ z', z = z') ∧ Hid (∀ j (h : j < xss.length), j < k → ctx x xss[j]) ∧ wr = (w.alloc (.cells #[.int .i64 x, .slice A xss.length cap, .slice C ws.length cap'] 28))) (fun _ _ i _ => xss.length - (intOf i).toNat)
          case atStart => exact ⟨0, Nat.zero_le _, rfl, rfl, ⟨_, rfl⟩, fun j _ hj => by omega, rfl⟩
          case round =>
            obtain ⟨k, hk, rfl, rfl, ⟨z', rfl⟩, hH, rfl⟩ := hrel
            by_cases hlt : k < xss.length
            · have hkz : (k : Int) < (xss.length : Int) := by omega
              obtain rfl := hA (by omega)
              have g0 := (hc k hlt).1
              have gl := World.block_lt_of_cell? _ _ g0
              have hf : ∀ W : World, (∀ a u, w.cell? a = some u → W.cell? a = some u) → Calls Try.prog 53 #[R k, .int .i64 x] W fun e w' => e = .returned (.bool (risingB 0 (x - 1) xss[k])) ∧ W = w' := fun W hW =>
                impl_places (R k) xss[k] x W ((hc k hlt).2.keep hW)
              obtain ⟨A2, cap2, hR2⟩ : ∃ C c, R k = .slice C xss[k].length c := by obtain ⟨C, c, hv, _⟩ := (hc k hlt).2; exact ⟨C, c, by rw [hv, len_i64s]⟩
              rw [hR2] at g0 hf
              have HC := Lib.hid hc
              clear hc hA hR2
              by_cases he : xss[k].length = 0
              · have HN : Hid (¬ okScene x xss ws) := Lib.hid (fun h => by have := (h.ctx k hlt).1; omega)
                rw [he] at g0
                clear he hf
                go_wp2_with fail
                go_ret
                exact ⟨ret_b (sceneB_no HN.out).symm, below_al (Below.refl _ _) _⟩
              · have dz : ((xss[k].length : Int) == 0) = false := by simp; intro h; exact he (by rw [h]; rfl)
                by_cases hr : rising 0 (x - 1) xss[k]
                · rw [risingB_yes hr] at hf
                  have HF := Lib.hid hf
                  have HR : Hid (ctx x xss[k]) := Lib.hid ⟨by omega, hr⟩
                  clear hf hr he
                  go_wp2_with fail
                  refine (HF.out _ (fun a u h => below_cell (below_al (Below.refl _ _) _) a u h)).mono ?_
                  rintro e w' ⟨rfl, rfl⟩
                  go_wp2_with fail
                  go_roundw
                  case rel =>
                    refine ⟨k + 1, by omega, by go_num, rfl, ⟨_, rfl⟩, fun j hj hj' => ?_, by first | rfl | trivial⟩
                    by_cases e : j = k
                    · subst e; exact HR.out
                    · exact hH.out j hj (by omega)
                  case measure => simp [intOf]; omega
                · rw [risingB_no hr] at hf
                  have HF := Lib.hid hf
                  have HN : Hid (¬ okScene x xss ws) := Lib.hid (fun h => hr (h.ctx k hlt).2)
                  clear hf hr he
                  go_wp2_with fail
                  refine (HF.out _ (fun a u h => below_cell (below_al (Below.refl _ _) _) a u h)).mono ?_
                  rintro e w' ⟨rfl, rfl⟩
                  go_wp2_with fail
                  go_ret
                  exact ⟨ret_b (sceneB_no HN.out).symm, below_al (Below.refl _ _) _⟩
            · have hkz : ¬ (k : Int) < (xss.length : Int) := by omega
              have HN : Hid (okScene x xss ws) := Lib.hid ⟨x0, x1, hl, HW.out, fun j hj => hH.out j hj (by omega)⟩
              clear hc hA
              go_wp2_with fail
              go_ret
              exact ⟨ret_b (sceneB_yes HN.out).symm, below_al (Below.refl _ _) _⟩
        · have HN : Hid (¬ okScene x xss ws) := Lib.hid (fun h => hb h.sums)
          have HB := Lib.hid (withinB_no hb)
          clear hb hc hA
          go_enter Try.func18, Try.ntmps18
          go_wp2_with fail
          refine (play.impl_bits _ ws _ _ (HI.out.below (below_al (Below.refl _ _) _))).mono ?_
          rintro e w' ⟨rfl, rfl⟩
          rw [HB.out]
          go_wp2_with fail
          go_ret
          exact ⟨ret_b (sceneB_no HN.out).symm, below_al (Below.refl _ _) _⟩
      · have dl : decide ((10 : Int) < (xss.length : Int)) = true := by simp; omega
        have HN : Hid (¬ okScene x xss ws) := Lib.hid (fun h => hl h.len)
        clear hl hc hA
        go_enter Try.func18, Try.ntmps18
        go_wp2_with fail
        go_ret
        exact ⟨ret_b (sceneB_no HN.out).symm, below_al (Below.refl _ _) _⟩
    · have d1 : decide (12 < x) = true := by simp; omega
      have HN : Hid (¬ okScene x xss ws) := Lib.hid (fun h => x1 h.ev1)
      clear x1 hc hA
      go_enter Try.func18, Try.ntmps18
      go_wp2_with fail
      go_ret
      exact ⟨ret_b (sceneB_no HN.out).symm, below_al (Below.refl _ _) _⟩
  · have d0 : decide (x < 0) = true := by simp; omega
    have HN : Hid (¬ okScene x xss ws) := Lib.hid (fun h => x0 h.ev0)
    clear x0 hc hA
    go_enter Try.func18, Try.ntmps18
    go_wp2_with fail
    go_ret
    exact ⟨ret_b (sceneB_no HN.out).symm, below_al (Below.refl _ _) _⟩


end Go.Proofs.Ytkikdecepdbbnaa.scv
