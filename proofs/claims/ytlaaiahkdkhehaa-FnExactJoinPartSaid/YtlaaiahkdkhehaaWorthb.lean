/- Functionals are told by both sides. -/
import Derived.Test.YtlaaiahkdkhehaaWorth
namespace Go.Proofs.Ytlaaiahkdkhehaa.worth
open Go.RowKit Go.Deep Go.Proofs.Ytlaaiahkdkhehaa.base
open Go.Proofs.Ytlaaiahkdkhehaa.val (okSizes okBox ret_b mul_small)
open Go.Proofs.Ytlaaiahkdkhehaa.play (within withinB withinB_yes withinB_no)
open Go.Proofs.Ytlaaiahkdkhehaa.row (nn)
open Go.Proofs.Ytlaaiahkdkhehaa.rws (total)


set_option maxHeartbeats 1000000 in
theorem spec_fun (x y : Int) (v : Value) (fss : List (List Int)) (w : World) (h : IRows w v fss) (hn : total fss ≤ 1048576) :
    Calls Try.prog 96 #[.int .i64 x, .int .i64 y, v] w fun e w' => e = .returned (.bool (funB x y fss)) ∧ w = w' := by
  obtain ⟨A, b, o, cap, R, rfl, hcap, hmax, hA, hc⟩ := h.form
  clear h hmax
  have hlen : fss.length ≤ 1048576 := by unfold total at hn; omega
  by_cases hs : okSizes x y
  · obtain ⟨hm1, hm2⟩ := mul_small hs
    have HSz := Lib.hid hs
    clear hs
    by_cases hl : (fss.length : Int) = x * y
    · have dl : ((fss.length : Int) != x * y) = false := by simp [hl]
      have HL := Lib.hid hl
      clear hl
      go_enter Try.func96, Try.ntmps96
      go_wp2_with fail
      refine (val.sizes_yes _ _ _ HSz.out).mono ?_
      rintro e w' ⟨rfl, rfl⟩
      go_wp2_with fail
      clear dl
      go_loopw [6, 7, 8] (fun q i c wr => ∃ k : Nat, k ≤ fss.length ∧ i = .int .i64 k ∧ q = .bool false ∧ (∃ z, c = z) ∧ Hid (∀ j (h : j < fss.length), j < k → within 4 (-99) 99 fss[j]) ∧ w = wr) (fun _ i _ _ => fss.length - (intOf i).toNat)
      case atStart => exact ⟨0, Nat.zero_le _, rfl, rfl, ⟨_, rfl⟩, fun j _ hj => by omega, rfl⟩
      case round =>
        obtain ⟨k, hk, rfl, rfl, ⟨z, rfl⟩, hH, rfl⟩ := hrel
        by_cases hlt : k < fss.length
        · have hkz : (k : Int) < (fss.length : Int) := by omega
          obtain rfl := hA (by omega)
          have g0 := (hc k hlt).1
          obtain ⟨A2, b2, o2, cap2, hR, hcap2, hmax2, hA2, hc2⟩ := (hc k hlt).2.form
          rw [hR] at g0
          have hrl := rws.len_le_total fss k hlt
          have HC := Lib.hid hc
          clear hc hA hmax2 hR
          go_wp2_with fail
          go_loopw [6, 8] (fun q i wr => ∃ c : Nat, c ≤ fss[k].length ∧ i = .int .i64 c ∧ q = .bool false ∧ Hid (∀ j (h : j < fss[k].length), j < c → -99 ≤ fss[k][j] ∧ fss[k][j] ≤ 99) ∧ w = wr) (fun _ i _ => fss[k].length - (intOf i).toNat)
          case atStart => exact ⟨0, Nat.zero_le _, rfl, rfl, fun j _ hj => by omega, rfl⟩
          case round =>
            obtain ⟨c, hcl, rfl, rfl, hH2, rfl⟩ := hrel
            by_cases hlc : c < fss[k].length
            · have hcz : (c : Int) < (fss[k].length : Int) := by omega
              obtain rfl := hA2 (by omega)
              have g1 := hc2 c hlc
              have HC2 := Lib.hid hc2
              clear hc2 hA2
              by_cases hin : -99 ≤ fss[k][c] ∧ fss[k][c] ≤ 99
              · obtain ⟨i1, i2⟩ := hin
                go_wp2_with fail
                refine (val.in_yes _ _ _ _ i1 i2).mono ?_
                rintro e w' ⟨rfl, rfl⟩
                go_wp2_with fail
                go_roundw
                case rel =>
                  refine ⟨c + 1, by omega, by go_num, rfl, fun j hj hj' => ?_, by first | rfl | trivial⟩
                  by_cases e : j = c
                  · subst e; exact ⟨i1, i2⟩
                  · exact hH2.out j hj (by omega)
                case measure => simp [intOf]; omega
              · have hbad : fss[k][c] < -99 ∨ 99 < fss[k][c] := by omega
                have HN : Hid (¬ okFun x y fss) := Lib.hid (fun h => hin ((h.2.2 k hlt).2 c hlc))
                clear hin
                go_wp2_with fail
                refine (val.in_no _ _ _ _ hbad).mono ?_
                rintro e w' ⟨rfl, rfl⟩
                clear hbad
                go_wp2_with fail
                go_ret
                exact ⟨ret_b (funB_no HN.out).symm, rfl⟩
            · have hcz : ¬ (c : Int) < (fss[k].length : Int) := by omega
              clear hc2 hA2
              by_cases h4 : fss[k].length = 4
              · have d4 : ((fss[k].length : Int) != 4) = false := by simp; omega
                have HW : Hid (within 4 (-99) 99 fss[k]) := Lib.hid ⟨by omega, fun j hj => hH2.out j hj (by omega)⟩
                clear h4
                go_wp2_with fail
                go_roundw
                case rel =>
                  refine ⟨k + 1, by omega, by go_num, rfl, ⟨_, rfl⟩, fun j hj hj' => ?_, by first | rfl | trivial⟩
                  by_cases e : j = k
                  · subst e; exact HW.out
                  · exact hH.out j hj (by omega)
                case measure => simp [intOf]; omega
              · have d4 : ((fss[k].length : Int) != 4) = true := by simp; omega
                have HN : Hid (¬ okFun x y fss) := Lib.hid (fun h => h4 (by have := (h.2.2 k hlt).1; omega))
                clear h4
                go_wp2_with fail
                go_ret
                exact ⟨ret_b (funB_no HN.out).symm, rfl⟩
        · have hkz : ¬ (k : Int) < (fss.length : Int) := by omega
          have HN : Hid (okFun x y fss) := Lib.hid ⟨HSz.out, HL.out, fun j hj => hH.out j hj (by omega)⟩
          clear hc hA
          go_wp2_with fail
          go_ret
          exact ⟨ret_b (funB_yes HN.out).symm, rfl⟩
    · have dl : ((fss.length : Int) != x * y) = true := by simp [hl]
      have HN : Hid (¬ okFun x y fss) := Lib.hid (fun h => hl h.2.1)
      clear hl hc hA
      go_enter Try.func96, Try.ntmps96
      go_wp2_with fail
      refine (val.sizes_yes _ _ _ HSz.out).mono ?_
      rintro e w' ⟨rfl, rfl⟩
      go_wp2_with fail
      go_ret
      exact ⟨ret_b (funB_no HN.out).symm, rfl⟩
  · have HN : Hid (¬ okFun x y fss) := Lib.hid (fun h => hs h.1)
    have HSz := Lib.hid hs
    clear hs hc hA
    go_enter Try.func96, Try.ntmps96
    go_wp2_with fail
    refine (val.sizes_no _ _ _ HSz.out).mono ?_
    rintro e w' ⟨rfl, rfl⟩
    go_wp2_with fail
    go_ret
    exact ⟨ret_b (funB_no HN.out).symm, rfl⟩


set_option maxHeartbeats 1000000 in
theorem impl_fun (x y : Int) (v : Value) (fss : List (List Int)) (w : World) (h : IRows w v fss) (hn : total fss ≤ 1048576) :
    Calls Try.prog 153 #[.int .i64 x, .int .i64 y, v] w fun e w' => e = .returned (.bool (funB x y fss)) ∧ w = w' := by
  obtain ⟨A, b, o, cap, R, rfl, hcap, hmax, hA, hc⟩ := h.form
  clear h hmax
  have hlen : fss.length ≤ 1048576 := by unfold total at hn; omega
  by_cases hs : okSizes x y
  · obtain ⟨hm1, hm2⟩ := mul_small hs
    have HSz := Lib.hid hs
    clear hs
    by_cases hl : (fss.length : Int) = x * y
    · have dl : ((fss.length : Int) != x * y) = false := by simp [hl]
      have HL := Lib.hid hl
      clear hl
      go_enter Try.func153, Try.ntmps153
      go_wp2_with fail
      refine (val.isizes_yes _ _ _ HSz.out).mono ?_
      rintro e w' ⟨rfl, rfl⟩
      go_wp2_with fail
      clear dl
      go_loopw [6, 8, 23] (fun q c i wr => ∃ k : Nat, k ≤ fss.length ∧ i = .int .i64 k ∧ q = .bool false ∧ (∃ z, c = z) ∧ Hid (∀ j (h : j < fss.length), j < k → within 4 (-99) 99 fss[j]) ∧ w = wr) (fun _ _ i _ => fss.length - (intOf i).toNat)
      case atStart => exact ⟨0, Nat.zero_le _, rfl, rfl, ⟨_, rfl⟩, fun j _ hj => by omega, rfl⟩
      case round =>
        obtain ⟨k, hk, rfl, rfl, ⟨z, rfl⟩, hH, rfl⟩ := hrel
        by_cases hlt : k < fss.length
        · have hkz : (k : Int) < (fss.length : Int) := by omega
          obtain rfl := hA (by omega)
          have g0 := (hc k hlt).1
          have HI := Lib.hid (hc k hlt).2
          have hcall := play.impl_within (R k) fss[k] 4 (-99) 99 w (hc k hlt).2
          obtain ⟨ua, ul, uc, hR⟩ := (hc k hlt).2.shape
          rw [hR] at g0 hcall
          have HC := Lib.hid hc
          clear hc hA
          by_cases hwi : within 4 (-99) 99 fss[k]
          · rw [withinB_yes hwi] at hcall
            have HCA := Lib.hid hcall
            have HW := Lib.hid hwi
            clear hcall hwi
            go_wp2_with fail
            refine HCA.out.mono ?_
            rintro e w' ⟨rfl, rfl⟩
            go_wp2_with fail
            go_roundw
            case rel =>
              refine ⟨k + 1, by omega, by go_num, rfl, ⟨_, rfl⟩, fun j hj hj' => ?_, by first | rfl | trivial⟩
              by_cases e : j = k
              · subst e; exact HW.out
              · exact hH.out j hj (by omega)
            case measure => simp [intOf]; omega
          · rw [withinB_no hwi] at hcall
            have HCA := Lib.hid hcall
            have HN : Hid (¬ okFun x y fss) := Lib.hid (fun h => hwi (h.2.2 k hlt))
            clear hcall hwi
            go_wp2_with fail
            refine HCA.out.mono ?_
            rintro e w' ⟨rfl, rfl⟩
            go_wp2_with fail
            go_ret
            exact ⟨ret_b (funB_no HN.out).symm, rfl⟩
        · have hkz : ¬ (k : Int) < (fss.length : Int) := by omega
          have HN : Hid (okFun x y fss) := Lib.hid ⟨HSz.out, HL.out, fun j hj => hH.out j hj (by omega)⟩
          clear hc hA
          go_wp2_with fail
          go_ret
          exact ⟨ret_b (funB_yes HN.out).symm, rfl⟩
    · have dl : ((fss.length : Int) != x * y) = true := by simp [hl]
      have HN : Hid (¬ okFun x y fss) := Lib.hid (fun h => hl h.2.1)
      clear hl hc hA
      go_enter Try.func153, Try.ntmps153
      go_wp2_with fail
      refine (val.isizes_yes _ _ _ HSz.out).mono ?_
      rintro e w' ⟨rfl, rfl⟩
      go_wp2_with fail
      go_ret
      exact ⟨ret_b (funB_no HN.out).symm, rfl⟩
  · have HN : Hid (¬ okFun x y fss) := Lib.hid (fun h => hs h.1)
    have HSz := Lib.hid hs
    clear hs hc hA
    go_enter Try.func153, Try.ntmps153
    go_wp2_with fail
    refine (val.isizes_no _ _ _ HSz.out).mono ?_
    rintro e w' ⟨rfl, rfl⟩
    go_wp2_with fail
    go_ret
    exact ⟨ret_b (funB_no HN.out).symm, rfl⟩

end Go.Proofs.Ytlaaiahkdkhehaa.worth
