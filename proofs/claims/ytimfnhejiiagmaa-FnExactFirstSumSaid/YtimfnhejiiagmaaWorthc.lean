/- WorthOf of the model and of the program. -/
import Derived.Test.YtimfnhejiiagmaaWorthb
namespace Go.Proofs.Ytimfnhejiiagmaa.worth
open Go.RowKit Go.Deep Go.Proofs.Ytimfnhejiiagmaa.base
open Go.Proofs.Ytimfnhejiiagmaa.val (okSizes okBox ret_b mul_small boxB boxB_yes boxB_no)
open Go.Proofs.Ytimfnhejiiagmaa.play (within withinB withinB_yes withinB_no)
open Go.Proofs.Ytimfnhejiiagmaa.row (nn)
open Go.Proofs.Ytimfnhejiiagmaa.rws (total)
open Go.Proofs.Ytimfnhejiiagmaa.ints (ret_int)

/-- the cells of a row of four -/
theorem row4 {W : World} {u : Value} {xss : List (List Int)} {r : Nat} (hr : r < xss.length) (hl : xss[r].length = 4) (hu : Ints W u xss[r]) :
    ∃ b o cap, u = .slice (some ⟨b, o, none⟩) 4 cap ∧ 4 ≤ cap ∧ b < W.heap.size ∧ ∀ c, c < 4 → W.cell? ⟨b, o + c, none⟩ = some (.int .i64 (nn xss r c)) := by
  obtain ⟨A, b, o, cap, hv, h1, h2, h3, hc⟩ := hu.form
  rw [hl] at hv h1 h3
  have hA := h3 (by omega)
  have g : ∀ c, c < 4 → W.cell? ⟨b, o + c, none⟩ = some (.int .i64 (nn xss r c)) := fun c hcl => by
    rw [hc c (by omega)]
    exact congrArg (fun z => some (Value.int .i64 z)) (nn_row xss hr (by omega))
  exact ⟨b, o, cap, by rw [hv, hA], h1, World.block_lt_of_cell? _ _ (g 0 (by omega)), g⟩
theorem fun_len {x y : Int} {fss : List (List Int)} (h : okFun x y fss) {r : Nat} (hr : r < fss.length) : fss[r].length = 4 := by
  have := (h.2.2 r hr).1; omega
theorem box_len {x y wh : Int} {xss : List (List Int)} (h : okBox x y wh xss) {r : Nat} (hr : r < xss.length) : xss[r].length = 4 := (h.2.2.2 r hr).1






set_option maxHeartbeats 1000000 in
theorem impl_any (x y wh : Int) (vf v : Value) (fss xss : List (List Int)) (w : World) (hf : IRows w vf fss) (h : IRows w v xss) (hnf : total fss ≤ 1048576) (hn : total xss ≤ 1048576) :
    Calls Try.prog 182 #[vf, .agg #[.int .i64 x, .int .i64 y, .int .i64 wh, v]] w fun e w' => e = .returned (.tuple #[.int .i64 (res x y wh fss xss).1, .bool (res x y wh fss xss).2]) ∧ Below w.heap.size w w' := by
  have HV0 := Lib.hid h
  have HF0 := Lib.hid hf
  obtain ⟨va, vn, vc, rfl⟩ := h.shape
  obtain ⟨fa, fn, fc, rfl⟩ := hf.shape
  clear h hf
  have B0 := Lib.hid (below_al (Below.refl w.heap.size w) (.cells #[.int .i64 x, .int .i64 y, .int .i64 wh, .slice va vn vc] 29))
  have P0 := Lib.hid (Blk.new w 29 #[.int .i64 x, .int .i64 y, .int .i64 wh, .slice va vn vc])
  have CP := Lib.hid (val.impl_any x y wh _ xss _ (HV0.out.below B0.out) hn)
  by_cases hs : okBox x y wh xss
  · have EB := Lib.hid (boxB_yes hs)
    by_cases hg : okFun x y fss
    · have HA := Lib.hid (show all x y wh fss xss from ⟨hs, hg⟩)
      have EF := Lib.hid (funB_yes hg)
      rw [res_yes HA.out]
      have hl9 := val.ok_len hs
      have hll : fss.length = xss.length := by have := hs.2.2.1; have := hg.2.1; omega
      have HLL := Lib.hid hll
      clear hs hg hll
      go_enter Try.func182, Try.ntmps182
      go_wp2_with fail
      refine CP.out.mono ?_
      rintro e w1 ⟨rfl, hb⟩
      have B1 := Lib.hid (below_tr B0.out hb)
      have P1 := Lib.hid (P0.out.below hb)
      obtain ⟨c0, c1, c2, c3, c4⟩ := four_cells P1.out
      clear hb
      rw [EB.out]
      go_wp2_with fail
      refine (impl_fun x y _ fss _ (HF0.out.below B1.out) hnf).mono ?_
      rintro e w' ⟨rfl, rfl⟩
      rw [EF.out]
      have HX := Lib.hid (HV0.out.below B1.out)
      have HY := Lib.hid (HF0.out.below B1.out)
      obtain ⟨A, b, o, cap, R, hv, hcap, hmax, hA, hc⟩ := HX.out.form
      obtain ⟨A', b', o', cap', R', hv', hcap', hmax', hA', hc'⟩ := HY.out.form
      injection hv with e1 e2 e3
      injection hv' with e4 e5 e6
      subst e1; subst e2; subst e3; subst e4; subst e5; subst e6
      clear HX HY hmax hmax' CP P0
      go_wp2_with fail
      clear P1 c0 c1 c2 c3 c4
      go_loopw [6, 7, 8, 9, 10, 26] (fun s a1 a2 a3 a4 i wr => ∃ r : Nat, ∃ c : Int, r ≤ xss.length ∧ i = .int .i64 r ∧ s = .int .i64 c ∧ (∃ z, a1 = z) ∧ (∃ z, a2 = z) ∧ (∃ z, a3 = z) ∧ (∃ z, a4 = z) ∧ Hid (c = cum (term fss xss) (4 * r)) ∧ w1 = wr) (fun _ _ _ _ _ i _ => xss.length - (intOf i).toNat)
      case atStart => exact ⟨0, 0, Nat.zero_le _, rfl, rfl, ⟨_, rfl⟩, ⟨_, rfl⟩, ⟨_, rfl⟩, ⟨_, rfl⟩, rfl, rfl⟩
      case round =>
        obtain ⟨r, c, hk, rfl, rfl, ⟨z1, rfl⟩, ⟨z2, rfl⟩, ⟨z3, rfl⟩, ⟨z4, rfl⟩, hC, rfl⟩ := hrel
        by_cases hlt : r < xss.length
        · have hkz : (r : Int) < (xss.length : Int) := by omega
          have hlt' : r < fss.length := by have := HLL.out; omega
          have hkz' : (r : Int) < (fss.length : Int) := by omega
          obtain rfl := hA (by omega)
          obtain rfl := hA' (by omega)
          have g0 := (hc r hlt).1
          have f0 := (hc' r hlt').1
          obtain ⟨b2, o2, cap2, hR, hcap2, hl2, hc2⟩ := row4 hlt (box_len HA.out.1 hlt) (hc r hlt).2
          obtain ⟨b3, o3, cap3, hR', hcap3, hl3, hc3⟩ := row4 hlt' (fun_len HA.out.2 hlt') (hc' r hlt').2
          rw [hR] at g0
          rw [hR'] at f0
          have HC := Lib.hid hc
          have HC' := Lib.hid hc'
          clear hc hc' hA hA' hR hR'
          go_wp2_with fail
          go_loopw [6, 9, 10, 33] (fun s a1 a2 k wr => ∃ d : Nat, ∃ c : Int, d ≤ 4 ∧ k = .int .i64 d ∧ s = .int .i64 c ∧ (∃ z, a1 = z) ∧ (∃ z, a2 = z) ∧ Hid (c = cum (term fss xss) (4 * r + d)) ∧ w1 = wr) (fun _ _ _ k _ => 4 - (intOf k).toNat)
          case atStart => exact ⟨0, c, Nat.zero_le _, rfl, rfl, ⟨_, rfl⟩, ⟨_, rfl⟩, hC, rfl⟩
          case round =>
            clear hC
            obtain ⟨d, c, hd, rfl, rfl, ⟨z1, rfl⟩, ⟨z2, rfl⟩, hC, rfl⟩ := hrel
            by_cases hdl : d < 4
            · have hdz : (d : Int) < 4 := by omega
              have g1 := hc2 d hdl
              have f1 := hc3 d hdl
              obtain ⟨k1, k2⟩ := step_bd HA.out.2 HA.out.1 hlt hdl
              rw [← hC.out] at k2
              have HN : Hid (c + nn fss r d * nn xss r d = cum (term fss xss) (4 * r + (d + 1))) := Lib.hid (by rw [cum_at _ _ hdl, hC.out])
              generalize nn fss r d = nf at *
              generalize nn xss r d = nx at *
              have HC2 := Lib.hid hc2
              have HC3 := Lib.hid hc3
              clear hc2 hc3
              go_wp2_with fail
              go_roundw
              case rel => exact ⟨d + 1, _, by omega, by go_num, rfl, ⟨_, rfl⟩, ⟨_, rfl⟩, HN, by first | rfl | trivial⟩
              case measure => simp [intOf]; omega
            · have hdz : ¬ (d : Int) < 4 := by omega
              obtain rfl : d = 4 := by omega
              clear hc2 hc3
              go_wp2_with fail
              go_roundw
              case rel => exact ⟨r + 1, c, by omega, by go_num, rfl, ⟨_, rfl⟩, ⟨_, rfl⟩, ⟨_, rfl⟩, ⟨_, rfl⟩, hC, by first | rfl | trivial⟩
              case measure => simp [intOf]; omega
        · have hkz : ¬ (r : Int) < (xss.length : Int) := by omega
          have HE : Hid (worth fss xss = c) := Lib.hid (by rw [hC.out]; unfold worth; rw [show r = xss.length from by omega])
          clear hc hc' hA hA'
          go_wp2_with fail
          rw [HE.out]
          go_ret2
          exact ⟨rfl, B1.out⟩
    · have EF := Lib.hid (funB_no hg)
      rw [res_no (fun h => hg h.2)]
      clear hs hg
      go_enter Try.func182, Try.ntmps182
      go_wp2_with fail
      refine CP.out.mono ?_
      rintro e w1 ⟨rfl, hb⟩
      have B1 := Lib.hid (below_tr B0.out hb)
      have P1 := Lib.hid (P0.out.below hb)
      obtain ⟨c0, c1, c2, c3, c4⟩ := four_cells P1.out
      clear hb
      rw [EB.out]
      go_wp2_with fail
      refine (impl_fun x y _ fss _ (HF0.out.below B1.out) hnf).mono ?_
      rintro e w' ⟨rfl, rfl⟩
      rw [EF.out]
      go_wp2_with fail
      go_ret2
      exact ⟨rfl, B1.out⟩
  · have EB := Lib.hid (boxB_no hs)
    rw [res_no (fun h => hs h.1)]
    clear hs
    go_enter Try.func182, Try.ntmps182
    go_wp2_with fail
    refine CP.out.mono ?_
    rintro e w1 ⟨rfl, hb⟩
    have B1 := Lib.hid (below_tr B0.out hb)
    clear hb
    rw [EB.out]
    go_wp2_with fail
    go_ret2
    exact ⟨rfl, B1.out⟩


end Go.Proofs.Ytimfnhejiiagmaa.worth
