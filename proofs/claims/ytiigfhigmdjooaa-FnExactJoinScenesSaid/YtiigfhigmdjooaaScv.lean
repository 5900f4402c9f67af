/- Valid Scenes: l1Rising, l7Context, l7Good and IsScene of the model; arePlaces and IsScene of the program. -/
import Derived.Test.YtiigfhigmdjooaaScene
import Derived.Test.YtiigfhigmdjooaaScm
import Derived.Test.YtiigfhigmdjooaaRis
namespace Go.Proofs.Ytiigfhigmdjooaa.scv
open Go.RowKit Go.Deep Go.Proofs.Ytiigfhigmdjooaa.base
open Go.Proofs.Ytiigfhigmdjooaa.ints (ret_int ret_no ret_yes)
open Go.Proofs.Ytiigfhigmdjooaa.rws (total len_le_total)
open Go.Proofs.Ytiigfhigmdjooaa.val (ret_b)
open Go.Proofs.Ytiigfhigmdjooaa.play (within withinB withinB_yes withinB_no)
open Go.Proofs.Ytiigfhigmdjooaa.scm



set_option maxHeartbeats 1000000 in
/-- what l7Context answers of a list, of any number n -/
theorem spec_ctxm (n m : Int) (v : Value) (xs : List Int) (w : World) (h : Ints w v xs) (he' : IntKind.i64.wrap (n - 1) = m) :
    Calls Try.prog 149 #[.int .i64 n, v] w fun e w' => e = .returned (.bool (ctxB (m + 1) xs)) ∧ ∃ q, w' = w.drewN q := by
  have HR := Lib.hid (spec_rising v xs 0 m w h)
  obtain ⟨A, b, o, cap, rfl, hcap, hmax, hA, hc⟩ := h.form
  clear h hmax hc hA hcap
  have e1 : m + 1 - 1 = m := by omega
  by_cases hl : 0 < xs.length
  · have hlz : (0 : Int) < (xs.length : Int) := by omega
    by_cases hr : rising 0 m xs
    · have HN : Hid (ctx (m + 1) xs) := Lib.hid ⟨hl, by rw [e1]; exact hr⟩
      have HQ := HR
      rw [risingB_yes hr] at HQ
      clear hr HR hl e1
      go_enter Try.func149, Try.ntmps149
      go_wp2_with fail
      refine HQ.out.mono ?_
      rintro e w' ⟨rfl, q, rfl⟩
      go_wp2_with fail
      go_ret
      exact ⟨ret_b (ctxB_yes HN.out).symm, _, rfl⟩
    · have HN : Hid (¬ ctx (m + 1) xs) := Lib.hid (fun h => hr (by have := h.2; rwa [e1] at this))
      have HQ := HR
      rw [risingB_no hr] at HQ
      clear hr HR hl e1
      go_enter Try.func149, Try.ntmps149
      go_wp2_with fail
      refine HQ.out.mono ?_
      rintro e w' ⟨rfl, q, rfl⟩
      go_wp2_with fail
      go_ret
      exact ⟨ret_b (ctxB_no HN.out).symm, _, rfl⟩
  · have HN : Hid (¬ ctx (m + 1) xs) := Lib.hid (fun h => hl h.1)
    have hlz : ¬ (0 : Int) < (xs.length : Int) := by omega
    clear hl
    go_enter Try.func149, Try.ntmps149
    go_wp2_with fail
    go_ret
    exact ⟨ret_b (ctxB_no HN.out).symm, 0, rfl⟩



set_option maxHeartbeats 2000000 in
theorem spec_good (x : Int) (u : Value) (xss : List (List Int)) (v : Value) (ws : List Int) (w : World) (h : scene.GV w v ws u xss) (hm : total xss ≤ 1048576) :
    Calls Try.prog 77 #[.agg #[.int .i64 x, u, v]] w fun e w' => e = .returned (.bool (sceneB x xss ws)) ∧ Below w.heap.size w w' := by
  obtain ⟨A, b, o, cap, R, rfl, hcap, hmax, hA, hc⟩ := h.rows.form
  have HI := Lib.hid h.ints
  obtain ⟨C, cap', rfl⟩ : ∃ C c, v = .slice C ws.length c := by obtain ⟨C, c, hv, _⟩ := h.ints; exact ⟨C, c, by rw [hv, len_i64s]⟩
  have hlen : xss.length ≤ 1048576 := by unfold total at hm; omega
  clear h hmax
  obtain ⟨m, he⟩ : ∃ m, IntKind.i64.wrap (x - 1) = m := ⟨_, rfl⟩
  have HM : Hid (0 ≤ x → x ≤ 12 → m + 1 = x) := Lib.hid (fun h0 h1 => by rw [← he]; simp [IntKind.wrap, IntKind.bits, IntKind.signed]; omega)
  have HE := Lib.hid he
  clear he
  go_enter Try.func77, Try.ntmps77
  go_wp2_with fail
  go_loopw [2, 3] (fun q i wr => ∃ k : Nat, k ≤ xss.length ∧ i = .int .i64 k ∧ q = .bool false ∧ Hid (∀ j (h : j < xss.length), j < k → ctx (m + 1) xss[j]) ∧ ∃ q, wr = (w.alloc (.cells #[.int .i64 x, .slice A xss.length cap, .slice C ws.length cap'] 43)).drewN q) (fun _ i _ => xss.length - (intOf i).toNat)
  case atStart => exact ⟨0, Nat.zero_le _, rfl, rfl, fun j _ hj => by omega, 0, rfl⟩
  case round =>
    obtain ⟨k, hk, rfl, rfl, hH, q, rfl⟩ := hrel
    by_cases hlt : k < xss.length
    · have hkz : (k : Int) < (xss.length : Int) := by omega
      obtain rfl := hA (by omega)
      have g0 := (hc k hlt).1
      have gl := World.block_lt_of_cell? _ _ g0
      have hf : ∀ W : World, (∀ a u, w.cell? a = some u → W.cell? a = some u) → Calls Try.prog 149 #[.int .i64 x, R k] W fun e w' => e = .returned (.bool (ctxB (m + 1) xss[k])) ∧ ∃ q, w' = W.drewN q := fun W hW =>
        spec_ctxm x m (R k) xss[k] W ((hc k hlt).2.keep hW) HE.out
      have HC := Lib.hid hc
      clear hc hA
      by_cases hr : ctx (m + 1) xss[k]
      · rw [ctxB_yes hr] at hf
        have HF := Lib.hid hf
        have HR := Lib.hid hr
        clear hf hr
        go_wp2_with fail
        go_quiet ((go_at_call 149; go_must (exact ints.quiet_at (HF.out _ (fun a u h => below_cell (below_al (Below.refl _ _) _) a u h)))))
        go_wp2_with fail
        go_roundw
        case rel =>
          refine ⟨k + 1, by omega, by go_num, rfl, fun j hj hj' => ?_, _, by first | rfl | exact ints.drewN_drewN _ _ _⟩
          by_cases e : j = k
          · subst e; exact HR.out
          · exact hH.out j hj (by omega)
        case measure => simp [intOf]; omega
      · have HN : Hid (¬ okScene x xss ws) := Lib.hid (fun h => hr (by rw [HM.out h.ev0 h.ev1]; exact h.ctx k hlt))
        rw [ctxB_no hr] at hf
        have HF := Lib.hid hf
        clear hf hr
        go_wp2_with fail
        go_quiet ((go_at_call 149; go_must (exact ints.quiet_at (HF.out _ (fun a u h => below_cell (below_al (Below.refl _ _) _) a u h)))))
        go_wp2_with fail
        go_ret
        exact ⟨ret_b (sceneB_no HN.out).symm, below_drewN (below_drewN (below_al (Below.refl _ _) _) _) _⟩
    · have hkz : ¬ (k : Int) < (xss.length : Int) := by omega
      clear hc hA
      by_cases hx : 0 ≤ x ∧ x ≤ 12
      · obtain ⟨x0, x1⟩ := hx
        by_cases hl : xss.length ≤ 10
        · have dl : decide ((xss.length : Int) ≤ 10) = true := by simp; omega
          by_cases hb : within xss.length 0 1 ws
          · have HN : Hid (okScene x xss ws) := Lib.hid ⟨x0, x1, hl, hb, fun j hj => by rw [← HM.out x0 x1]; exact hH.out j hj (by omega)⟩
            have HB := Lib.hid (withinB_yes hb)
            clear hb hl
            go_wp2_with fail
            refine (val.in_yes _ _ _ _ x0 x1).mono ?_
            rintro e w' ⟨rfl, rfl⟩
            go_wp2_with fail
            refine (play.spec_bits _ ws _ _ (HI.out.below (below_drewN (below_al (Below.refl _ _) _) _))).mono ?_
            rintro e w' ⟨rfl, rfl⟩
            rw [HB.out]
            go_wp2_with fail
            go_ret
            exact ⟨ret_b (sceneB_yes HN.out).symm, below_drewN (below_al (Below.refl _ _) _) _⟩
          · have HN : Hid (¬ okScene x xss ws) := Lib.hid (fun h => hb h.sums)
            have HB := Lib.hid (withinB_no hb)
            clear hb hl
            go_wp2_with fail
            refine (val.in_yes _ _ _ _ x0 x1).mono ?_
            rintro e w' ⟨rfl, rfl⟩
            go_wp2_with fail
            refine (play.spec_bits _ ws _ _ (HI.out.below (below_drewN (below_al (Below.refl _ _) _) _))).mono ?_
            rintro e w' ⟨rfl, rfl⟩
            rw [HB.out]
            go_wp2_with fail
            go_ret
            exact ⟨ret_b (sceneB_no HN.out).symm, below_drewN (below_al (Below.refl _ _) _) _⟩
        · have dl : decide ((xss.length : Int) ≤ 10) = false := by simp; omega
          have HN : Hid (¬ okScene x xss ws) := Lib.hid (fun h => hl h.len)
          clear hl
          go_wp2_with fail
          refine (val.in_yes _ _ _ _ x0 x1).mono ?_
          rintro e w' ⟨rfl, rfl⟩
          go_wp2_with fail
          go_ret
          exact ⟨ret_b (sceneB_no HN.out).symm, below_drewN (below_al (Below.refl _ _) _) _⟩
      · have hbad : x < 0 ∨ 12 < x := by omega
        have HN : Hid (¬ okScene x xss ws) := Lib.hid (fun h => hx ⟨h.ev0, h.ev1⟩)
        clear hx
        go_wp2_with fail
        refine (val.in_no _ _ _ _ hbad).mono ?_
        rintro e w' ⟨rfl, rfl⟩
        clear hbad
        go_wp2_with fail
        go_ret
        exact ⟨ret_b (sceneB_no HN.out).symm, below_drewN (below_al (Below.refl _ _) _) _⟩





set_option maxHeartbeats 2000000 in
theorem impl_scene (x : Int) (u : Value) (xss : List (List Int)) (v : Value) (ws : List Int) (w : World) (h : scene.GV w v ws u xss) (hm : total xss ≤ 1048576) :
    Calls Try.prog 81 #[.agg #[.int .i64 x, u, v]] w fun e w' => e = .returned (.bool (sceneB x xss ws)) ∧ Below w.heap.size w w' := by
  obtain ⟨A, b, o, cap, R, rfl, hcap, hmax, hA, hc⟩ := h.rows.form
  have HI := Lib.hid h.ints
  obtain ⟨C, cap', rfl⟩ : ∃ C c, v = .slice C ws.length c := by obtain ⟨C, c, hv, _⟩ := h.ints; exact ⟨C, c, by rw [hv, len_i64s]⟩
  have hlen : xss.length ≤ 1048576 := by unfold total at hm; omega
  clear h hmax
  by_cases x0 : 0 ≤ x
  · have d0 : decide (x < 0) = false := by simp; omega
    by_cases x1 : x ≤ 12
    · have d1 : decide (12 < x) = false := by simp; omega
      by_cases hl : xss.length ≤ 10
      · have dl : decide ((10 : Int) < (xss.length : Int)) = false := by simp; omega
        by_cases hb : within xss.length 0 1 ws
        · have HW := Lib.hid hb
          have HB := Lib.hid (withinB_yes hb)
          clear hb
          go_enter Try.func81, Try.ntmps81
          go_wp2_with fail
          refine (play.impl_bits _ ws _ _ (HI.out.below (below_al (Below.refl _ _) _))).mono ?_
          rintro e w' ⟨rfl, rfl⟩
          rw [HB.out]
          go_wp2_with fail
          go_loopw [2, 4, 31] (fun q z i wr => ∃ k : Nat, k ≤ xss.length ∧ i = .int .i64 k ∧ q = .bool false ∧ (∃ z', z = z') ∧ Hid (∀ j (h : j < xss.length), j < k → ctx x xss[j]) ∧ wr = (w.alloc (.cells #[.int .i64 x, .slice A xss.length cap, .slice C ws.length cap'] 43))) (fun _ _ i _ => xss.length - (intOf i).toNat)
          case atStart => exact ⟨0, Nat.zero_le _, rfl, rfl, ⟨_, rfl⟩, fun j _ hj => by omega, rfl⟩
          case round =>
            obtain ⟨k, hk, rfl, rfl, ⟨z', rfl⟩, hH, rfl⟩ := hrel
            by_cases hlt : k < xss.length
            · have hkz : (k : Int) < (xss.length : Int) := by omega
              obtain rfl := hA (by omega)
              have g0 := (hc k hlt).1
              have gl := World.block_lt_of_cell? _ _ g0
              have hf : ∀ W : World, (∀ a u, w.cell? a = some u → W.cell? a = some u) → Calls Try.prog 152 #[R k, .int .i64 x] W fun e w' => e = .returned (.bool (risingB 0 (x - 1) xss[k])) ∧ W = w' := fun W hW =>
                impl_places (R k) xss[k] x W ((hc k hlt).2.keep hW)
              obtain ⟨A2, cap2, hR2⟩ : ∃ C c, R k = .slice C xss[k].length c := by obtain ⟨C, c, hv, _⟩ := (hc k hlt).2; exact ⟨C, c, by rw [hv, len_i64s]⟩
              rw [hR2] at g0 hf
              have HC := Lib.hid hc
              clear hc hA hR2
              by_cases he : xss[k].length = 0
              · have HN : Hid (¬ okScene x xss ws) := Lib.hid (fun h => by have := (h.ctx k hlt).1; omega)
                rw [he] at g0
                clear he hf
                go_wp2_with fail
                go_ret
                exact ⟨ret_b (sceneB_no HN.out).symm, below_al (Below.refl _ _) _⟩
              · have dz : ((xss[k].length : Int) == 0) = false := by simp; intro h; exact he (by rw [h]; rfl)
                by_cases hr : rising 0 (x - 1) xss[k]
                · rw [risingB_yes hr] at hf
                  have HF := Lib.hid hf
                  have HR : Hid (ctx x xss[k]) := Lib.hid ⟨by omega, hr⟩
                  clear hf hr he
                  go_wp2_with fail
                  refine (HF.out _ (fun a u h => below_cell (below_al (Below.refl _ _) _) a u h)).mono ?_
                  rintro e w' ⟨rfl, rfl⟩
                  go_wp2_with fail
                  go_roundw
                  case rel =>
                    refine ⟨k + 1, by omega, by go_num, rfl, ⟨_, rfl⟩, fun j hj hj' => ?_, by first | rfl | trivial⟩
                    by_cases e : j = k
                    · subst e; exact HR.out
                    · exact hH.out j hj (by omega)
                  case measure => simp [intOf]; omega
                · rw [risingB_no hr] at hf
                  have HF := Lib.hid hf
                  have HN : Hid (¬ okScene x xss ws) := Lib.hid (fun h => hr (h.ctx k hlt).2)
                  clear hf hr he
                  go_wp2_with fail
                  refine (HF.out _ (fun a u h => below_cell (below_al (Below.refl _ _) _) a u h)).mono ?_
                  rintro e w' ⟨rfl, rfl⟩
                  go_wp2_with fail
                  go_ret
                  exact ⟨ret_b (sceneB_no HN.out).symm, below_al (Below.refl _ _) _⟩
            · have hkz : ¬ (k : Int) < (xss.length : Int) := by omega
              have HN : Hid (okScene x xss ws) := Lib.hid ⟨x0, x1, hl, HW.out, fun j hj => hH.out j hj (by omega)⟩
              clear hc hA
              go_wp2_with fail
              go_ret
              exact ⟨ret_b (sceneB_yes HN.out).symm, below_al (Below.refl _ _) _⟩
        · have HN : Hid (¬ okScene x xss ws) := Lib.hid (fun h => hb h.sums)
          have HB := Lib.hid (withinB_no hb)
          clear hb hc hA
          go_enter Try.func81, Try.ntmps81
          go_wp2_with fail
          refine (play.impl_bits _ ws _ _ (HI.out.below (below_al (Below.refl _ _) _))).mono ?_
          rintro e w' ⟨rfl, rfl⟩
          rw [HB.out]
          go_wp2_with fail
          go_ret
          exact ⟨ret_b (sceneB_no HN.out).symm, below_al (Below.refl _ _) _⟩
      · have dl : decide ((10 : Int) < (xss.length : Int)) = true := by simp; omega
        have HN : Hid (¬ okScene x xss ws) := Lib.hid (fun h => hl h.len)
        clear hl hc hA
        go_enter Try.func81, Try.ntmps81
        go_wp2_with fail
        go_ret
        exact ⟨ret_b (sceneB_no HN.out).symm, below_al (Below.refl _ _) _⟩
    · have d1 : decide (12 < x) = true := by simp; omega
      have HN : Hid (¬ okScene x xss ws) := Lib.hid (fun h => x1 h.ev1)
      clear x1 hc hA
      go_enter Try.func81, Try.ntmps81
      go_wp2_with fail
      go_ret
      exact ⟨ret_b (sceneB_no HN.out).symm, below_al (Below.refl _ _) _⟩
  · have d0 : decide (x < 0) = true := by simp; omega
    have HN : Hid (¬ okScene x xss ws) := Lib.hid (fun h => x0 h.ev0)
    clear x0 hc hA
    go_enter Try.func81, Try.ntmps81
    go_wp2_with fail
    go_ret
    exact ⟨ret_b (sceneB_no HN.out).symm, below_al (Below.refl _ _) _⟩


end Go.Proofs.Ytiigfhigmdjooaa.scv
