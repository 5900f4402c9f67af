/- Functionals are told by both sides. -/
import Derived.Test.YtimfnhejiiagmaaWorth
namespace Go.Proofs.Ytimfnhejiiagmaa.worth
open Go.RowKit Go.Deep Go.Proofs.Ytimfnhejiiagmaa.base
open Go.Proofs.Ytimfnhejiiagmaa.val (okSizes okBox ret_b mul_small)
open Go.Proofs.Ytimfnhejiiagmaa.play (within withinB withinB_yes withinB_no)
open Go.Proofs.Ytimfnhejiiagmaa.row (nn)
open Go.Proofs.Ytimfnhejiiagmaa.rws (total)




set_option maxHeartbeats 1000000 in
theorem impl_fun (x y : Int) (v : Value) (fss : List (List Int)) (w : World) (h : IRows w v fss) (hn : total fss ≤ 1048576) :
    Calls Try.prog 207 #[.int .i64 x, .int .i64 y, v] w fun e w' => e = .returned (.bool (funB x y fss)) ∧ w = w' := by
  obtain ⟨A, b, o, cap, R, rfl, hcap, hmax, hA, hc⟩ := h.form
  clear h hmax
  have hlen : fss.length ≤ 1048576 := by unfold total at hn; omega
  by_cases hs : okSizes x y
  · obtain ⟨hm1, hm2⟩ := mul_small hs
    have HSz := Lib.hid hs
    clear hs
    by_cases hl : (fss.length : Int) = x * y
    · have dl : ((fss.length : Int) != x * y) = false := by simp [hl]
      have HL := Lib.hid hl
      clear hl
      go_enter Try.func207, Try.ntmps207
      go_wp2_with fail
      refine (val.isizes_yes _ _ _ HSz.out).mono ?_
      rintro e w' ⟨rfl, rfl⟩
      go_wp2_with fail
      clear dl
      go_loopw [6, 8, 23] (fun q c i wr => ∃ k : Nat, k ≤ fss.length ∧ i = .int .i64 k ∧ q = .bool false ∧ (∃ z, c = z) ∧ Hid (∀ j (h : j < fss.length), j < k → within 4 (-99) 99 fss[j]) ∧ w = wr) (fun _ _ i _ => fss.length - (intOf i).toNat)
      case atStart => exact ⟨0, Nat.zero_le _, rfl, rfl, ⟨_, rfl⟩, fun j _ hj => by omega, rfl⟩
      case round =>
        obtain ⟨k, hk, rfl, rfl, ⟨z, rfl⟩, hH, rfl⟩ := hrel
        by_cases hlt : k < fss.length
        · have hkz : (k : Int) < (fss.length : Int) := by omega
          obtain rfl := hA (by omega)
          have g0 := (hc k hlt).1
          have HI := Lib.hid (hc k hlt).2
          have hcall := play.impl_within (R k) fss[k] 4 (-99) 99 w (hc k hlt).2
          obtain ⟨ua, ul, uc, hR⟩ := (hc k hlt).2.shape
          rw [hR] at g0 hcall
          have HC := Lib.hid hc
          clear hc hA
          by_cases hwi : within 4 (-99) 99 fss[k]
          · rw [withinB_yes hwi] at hcall
            have HCA := Lib.hid hcall
            have HW := Lib.hid hwi
            clear hcall hwi
            go_wp2_with fail
            refine HCA.out.mono ?_
            rintro e w' ⟨rfl, rfl⟩
            go_wp2_with fail
            go_roundw
            case rel =>
              refine ⟨k + 1, by omega, by go_num, rfl, ⟨_, rfl⟩, fun j hj hj' => ?_, by first | rfl | trivial⟩
              by_cases e : j = k
              · subst e; exact HW.out
              · exact hH.out j hj (by omega)
            case measure => simp [intOf]; omega
          · rw [withinB_no hwi] at hcall
            have HCA := Lib.hid hcall
            have HN : Hid (¬ okFun x y fss) := Lib.hid (fun h => hwi (h.2.2 k hlt))
            clear hcall hwi
            go_wp2_with fail
            refine HCA.out.mono ?_
            rintro e w' ⟨rfl, rfl⟩
            go_wp2_with fail
            go_ret
            exact ⟨ret_b (funB_no HN.out).symm, rfl⟩
        · have hkz : ¬ (k : Int) < (fss.length : Int) := by omega
          have HN : Hid (okFun x y fss) := Lib.hid ⟨HSz.out, HL.out, fun j hj => hH.out j hj (by omega)⟩
          clear hc hA
          go_wp2_with fail
          go_ret
          exact ⟨ret_b (funB_yes HN.out).symm, rfl⟩
    · have dl : ((fss.length : Int) != x * y) = true := by simp [hl]
      have HN : Hid (¬ okFun x y fss) := Lib.hid (fun h => hl h.2.1)
      clear hl hc hA
      go_enter Try.func207, Try.ntmps207
      go_wp2_with fail
      refine (val.isizes_yes _ _ _ HSz.out).mono ?_
      rintro e w' ⟨rfl, rfl⟩
      go_wp2_with fail
      go_ret
      exact ⟨ret_b (funB_no HN.out).symm, rfl⟩
  · have HN : Hid (¬ okFun x y fss) := Lib.hid (fun h => hs h.1)
    have HSz := Lib.hid hs
    clear hs hc hA
    go_enter Try.func207, Try.ntmps207
    go_wp2_with fail
    refine (val.isizes_no _ _ _ HSz.out).mono ?_
    rintro e w' ⟨rfl, rfl⟩
    go_wp2_with fail
    go_ret
    exact ⟨ret_b (funB_no HN.out).symm, rfl⟩


end Go.Proofs.Ytimfnhejiiagmaa.worth
