/- Boxes with as many questions, Boxes that are alike: both sides. -/
import Derived.Test.YtggodllfaggjiacWorthc
namespace Go.Proofs.Ytggodllfaggjiac.alike
open Go.RowKit Go.Deep Go.Proofs.Ytggodllfaggjiac.base
open Go.Proofs.Ytggodllfaggjiac.val (okSizes okBox ret_b mul_small boxB boxB_yes boxB_no)
open Go.Proofs.Ytggodllfaggjiac.row (nn)
open Go.Proofs.Ytggodllfaggjiac.rws (total)
open Go.Proofs.Ytggodllfaggjiac.worth (row4 box_len)
open Go.Proofs.Ytggodllfaggjiac.play (ret_bb)

def same (x y wh : Int) (xss : List (List Int)) (x' y' wh' : Int) (yss : List (List Int)) : Prop := okBox x y wh xss ∧ okBox x' y' wh' yss ∧ x = x' ∧ y = y'
open Classical in
noncomputable def sameB (x y wh : Int) (xss : List (List Int)) (x' y' wh' : Int) (yss : List (List Int)) : Bool := if same x y wh xss x' y' wh' yss then true else false
theorem sameB_yes {x y wh : Int} {xss : List (List Int)} {x' y' wh' : Int} {yss : List (List Int)} (h : same x y wh xss x' y' wh' yss) : sameB x y wh xss x' y' wh' yss = true := if_pos h
theorem sameB_no {x y wh : Int} {xss : List (List Int)} {x' y' wh' : Int} {yss : List (List Int)} (h : ¬ same x y wh xss x' y' wh' yss) : sameB x y wh xss x' y' wh' yss = false := if_neg h
/-- alike: each number the same part of the whole -/
def alike (wh : Int) (xss : List (List Int)) (wh' : Int) (yss : List (List Int)) : Prop := ∀ r k, r < xss.length → k < 4 → nn xss r k * wh' = nn yss r k * wh
open Classical in
noncomputable def alikeB (wh : Int) (xss : List (List Int)) (wh' : Int) (yss : List (List Int)) : Bool := if alike wh xss wh' yss then true else false
theorem alikeB_yes {wh : Int} {xss : List (List Int)} {wh' : Int} {yss : List (List Int)} (h : alike wh xss wh' yss) : alikeB wh xss wh' yss = true := if_pos h
theorem alikeB_no {wh : Int} {xss : List (List Int)} {wh' : Int} {yss : List (List Int)} (h : ¬ alike wh xss wh' yss) : alikeB wh xss wh' yss = false := if_neg h
open Classical in
/-- what AreAlike answers -/
noncomputable def res (x y wh : Int) (xss : List (List Int)) (x' y' wh' : Int) (yss : List (List Int)) : Bool × Bool := if same x y wh xss x' y' wh' yss then (alikeB wh xss wh' yss, true) else (false, false)
theorem res_yes {x y wh : Int} {xss : List (List Int)} {x' y' wh' : Int} {yss : List (List Int)} (h : same x y wh xss x' y' wh' yss) : res x y wh xss x' y' wh' yss = (alikeB wh xss wh' yss, true) := if_pos h
theorem res_no {x y wh : Int} {xss : List (List Int)} {x' y' wh' : Int} {yss : List (List Int)} (h : ¬ same x y wh xss x' y' wh' yss) : res x y wh xss x' y' wh' yss = (false, false) := if_neg h
theorem mulw {n wh : Int} (h0 : 0 ≤ n) (h1 : n ≤ 1000) (k0 : 1 ≤ wh) (k1 : wh ≤ 1000) : IntKind.i64.wrap (n * wh) = n * wh := by
  have : 0 ≤ n * wh ∧ n * wh ≤ 1000000 := ⟨Int.mul_nonneg h0 (by omega), Int.le_trans (Int.mul_le_mul h1 k1 (by omega) (by omega)) (by omega)⟩
  exact IntWalk.i64_in _ (by omega)
theorem same_len {x y wh : Int} {xss : List (List Int)} {x' y' wh' : Int} {yss : List (List Int)} (h : same x y wh xss x' y' wh' yss) : yss.length = xss.length := by
  obtain ⟨h1, h2, rfl, rfl⟩ := h
  have := h1.2.2.1; have := h2.2.2.1; omega




set_option maxHeartbeats 1000000 in
theorem impl_same (x y wh : Int) (v : Value) (xss : List (List Int)) (x' y' wh' : Int) (v' : Value) (yss : List (List Int)) (w : World) (h : IRows w v xss) (h' : IRows w v' yss) (hn : total xss ≤ 1048576) (hn' : total yss ≤ 1048576) :
    Calls Try.prog 101 #[.agg #[.int .i64 x, .int .i64 y, .int .i64 wh, v], .agg #[.int .i64 x', .int .i64 y', .int .i64 wh', v']] w fun e w' => e = .returned (.bool (sameB x y wh xss x' y' wh' yss)) ∧ Below w.heap.size w w' := by
  have HV := Lib.hid h
  have HV' := Lib.hid h'
  obtain ⟨va, vn, vc, rfl⟩ := h.shape
  obtain ⟨ua, un, uc, rfl⟩ := h'.shape
  clear h h'
  have B0 := Lib.hid (below_al (below_al (Below.refl w.heap.size w) (.cells #[.int .i64 x, .int .i64 y, .int .i64 wh, .slice va vn vc] 29)) (.cells #[.int .i64 x', .int .i64 y', .int .i64 wh', .slice ua un uc] 29))
  have P0 := Lib.hid ((Blk.new w 29 #[.int .i64 x, .int .i64 y, .int .i64 wh, .slice va vn vc]).alloc (.cells #[.int .i64 x', .int .i64 y', .int .i64 wh', .slice ua un uc] 29))
  have Q0 : Hid (Blk ((w.alloc (.cells #[.int .i64 x, .int .i64 y, .int .i64 wh, .slice va vn vc] 29)).alloc (.cells #[.int .i64 x', .int .i64 y', .int .i64 wh', .slice ua un uc] 29)) (w.heap.size + 1) 29 #[.int .i64 x', .int .i64 y', .int .i64 wh', .slice ua un uc]) := Lib.hid (by
    have := Blk.new (w.alloc (.cells #[.int .i64 x, .int .i64 y, .int .i64 wh, .slice va vn vc] 29)) 29 #[.int .i64 x', .int .i64 y', .int .i64 wh', .slice ua un uc]
    simpa using this)
  have CP := Lib.hid (val.impl_any x y wh _ xss _ (HV.out.below B0.out) hn)
  by_cases hs : okBox x y wh xss
  · have EB := Lib.hid (boxB_yes hs)
    by_cases hs' : okBox x' y' wh' yss
    · have EC := Lib.hid (boxB_yes hs')
      by_cases ex : x = x'
      · have tx : (x == x') = true := by simp [ex]
        by_cases ey : y = y'
        · have ty : (y == y') = true := by simp [ey]
          have HN := Lib.hid (sameB_yes (⟨hs, hs', ex, ey⟩ : same x y wh xss x' y' wh' yss))
          clear hs hs' ex ey
          go_enter Try.func101, Try.ntmps101
          go_wp2_with fail
          refine CP.out.mono ?_
          rintro e w1 ⟨rfl, hb⟩
          have B1 := Lib.hid (below_tr B0.out hb)
          have P1 := Lib.hid (P0.out.below hb)
          have Q1 := Lib.hid (Q0.out.below hb)
          obtain ⟨c0, c1, c2, c3, c4⟩ := four_cells P1.out
          obtain ⟨d0, d1, d2, d3, d4⟩ := four_cells Q1.out
          clear hb
          rw [EB.out]
          go_wp2_with fail
          refine (val.impl_any x' y' wh' _ yss _ (HV'.out.below B1.out) hn').mono ?_
          rintro e w2 ⟨rfl, hb⟩
          have B2 := Lib.hid (below_tr B1.out hb)
          have P2 := Lib.hid (P1.out.below hb)
          have Q2 := Lib.hid (Q1.out.below hb)
          clear hb c0 c1 c2 c3 c4 d0 d1 d2 d3 d4
          obtain ⟨c0, c1, c2, c3, c4⟩ := four_cells P2.out
          obtain ⟨d0, d1, d2, d3, d4⟩ := four_cells Q2.out
          rw [EC.out]
          go_wp2_with fail
          go_ret
          exact ⟨ret_b HN.out.symm, B2.out⟩
        · have ty : (y == y') = false := by simp [ey]
          have HN := Lib.hid (sameB_no (fun h => ey h.2.2.2 : ¬ same x y wh xss x' y' wh' yss))
          clear hs hs' ex ey
          go_enter Try.func101, Try.ntmps101
          go_wp2_with fail
          refine CP.out.mono ?_
          rintro e w1 ⟨rfl, hb⟩
          have B1 := Lib.hid (below_tr B0.out hb)
          have P1 := Lib.hid (P0.out.below hb)
          have Q1 := Lib.hid (Q0.out.below hb)
          obtain ⟨c0, c1, c2, c3, c4⟩ := four_cells P1.out
          obtain ⟨d0, d1, d2, d3, d4⟩ := four_cells Q1.out
          clear hb
          rw [EB.out]
          go_wp2_with fail
          refine (val.impl_any x' y' wh' _ yss _ (HV'.out.below B1.out) hn').mono ?_
          rintro e w2 ⟨rfl, hb⟩
          have B2 := Lib.hid (below_tr B1.out hb)
          have P2 := Lib.hid (P1.out.below hb)
          have Q2 := Lib.hid (Q1.out.below hb)
          clear hb c0 c1 c2 c3 c4 d0 d1 d2 d3 d4
          obtain ⟨c0, c1, c2, c3, c4⟩ := four_cells P2.out
          obtain ⟨d0, d1, d2, d3, d4⟩ := four_cells Q2.out
          rw [EC.out]
          go_wp2_with fail
          go_ret
          exact ⟨ret_b HN.out.symm, B2.out⟩
      · have tx : (x == x') = false := by simp [ex]
        have HN := Lib.hid (sameB_no (fun h => ex h.2.2.1 : ¬ same x y wh xss x' y' wh' yss))
        clear hs hs' ex
        go_enter Try.func101, Try.ntmps101
        go_wp2_with fail
        refine CP.out.mono ?_
        rintro e w1 ⟨rfl, hb⟩
        have B1 := Lib.hid (below_tr B0.out hb)
        have P1 := Lib.hid (P0.out.below hb)
        have Q1 := Lib.hid (Q0.out.below hb)
        obtain ⟨c0, c1, c2, c3, c4⟩ := four_cells P1.out
        obtain ⟨d0, d1, d2, d3, d4⟩ := four_cells Q1.out
        clear hb
        rw [EB.out]
        go_wp2_with fail
        refine (val.impl_any x' y' wh' _ yss _ (HV'.out.below B1.out) hn').mono ?_
        rintro e w2 ⟨rfl, hb⟩
        have B2 := Lib.hid (below_tr B1.out hb)
        have P2 := Lib.hid (P1.out.below hb)
        have Q2 := Lib.hid (Q1.out.below hb)
        clear hb c0 c1 c2 c3 c4 d0 d1 d2 d3 d4
        obtain ⟨c0, c1, c2, c3, c4⟩ := four_cells P2.out
        obtain ⟨d0, d1, d2, d3, d4⟩ := four_cells Q2.out
        rw [EC.out]
        go_wp2_with fail
        go_ret
        exact ⟨ret_b HN.out.symm, B2.out⟩
    · have EC := Lib.hid (boxB_no hs')
      have HN := Lib.hid (sameB_no (fun h => hs' h.2.1 : ¬ same x y wh xss x' y' wh' yss))
      clear hs hs'
      go_enter Try.func101, Try.ntmps101
      go_wp2_with fail
      refine CP.out.mono ?_
      rintro e w1 ⟨rfl, hb⟩
      have B1 := Lib.hid (below_tr B0.out hb)
      have P1 := Lib.hid (P0.out.below hb)
      have Q1 := Lib.hid (Q0.out.below hb)
      obtain ⟨c0, c1, c2, c3, c4⟩ := four_cells P1.out
      obtain ⟨d0, d1, d2, d3, d4⟩ := four_cells Q1.out
      clear hb
      rw [EB.out]
      go_wp2_with fail
      refine (val.impl_any x' y' wh' _ yss _ (HV'.out.below B1.out) hn').mono ?_
      rintro e w2 ⟨rfl, hb⟩
      have B2 := Lib.hid (below_tr B1.out hb)
      have P2 := Lib.hid (P1.out.below hb)
      have Q2 := Lib.hid (Q1.out.below hb)
      clear hb c0 c1 c2 c3 c4 d0 d1 d2 d3 d4
      obtain ⟨c0, c1, c2, c3, c4⟩ := four_cells P2.out
      obtain ⟨d0, d1, d2, d3, d4⟩ := four_cells Q2.out
      rw [EC.out]
      go_wp2_with fail
      go_ret
      exact ⟨ret_b HN.out.symm, B2.out⟩
  · have EB := Lib.hid (boxB_no hs)
    have HN := Lib.hid (sameB_no (fun h => hs h.1 : ¬ same x y wh xss x' y' wh' yss))
    clear hs
    go_enter Try.func101, Try.ntmps101
    go_wp2_with fail
    refine CP.out.mono ?_
    rintro e w1 ⟨rfl, hb⟩
    have B1 := Lib.hid (below_tr B0.out hb)
    have P1 := Lib.hid (P0.out.below hb)
    have Q1 := Lib.hid (Q0.out.below hb)
    obtain ⟨c0, c1, c2, c3, c4⟩ := four_cells P1.out
    obtain ⟨d0, d1, d2, d3, d4⟩ := four_cells Q1.out
    clear hb
    rw [EB.out]
    go_wp2_with fail
    go_ret
    exact ⟨ret_b HN.out.symm, B1.out⟩



set_option maxHeartbeats 1000000 in
theorem l2alike (x y wh : Int) (v : Value) (xss : List (List Int)) (x' y' wh' : Int) (v' : Value) (yss : List (List Int)) (w : World) (h : IRows w v xss) (h' : IRows w v' yss) (hs : same x y wh xss x' y' wh' yss) :
    Calls Try.prog 55 #[.agg #[.int .i64 x, .int .i64 y, .int .i64 wh, v], .agg #[.int .i64 x', .int .i64 y', .int .i64 wh', v']] w fun e w' => e = .returned (.bool (alikeB wh xss wh' yss)) ∧ Below w.heap.size w w' := by
  obtain ⟨A, b, o, cap, R, rfl, hcap, hmax, hA, hc⟩ := h.form
  obtain ⟨A', b', o', cap', R', rfl, hcap', hmax', hA', hc'⟩ := h'.form
  have hl9 := val.ok_len hs.1
  have HLL := Lib.hid (same_len hs)
  have HS := Lib.hid hs
  have w1 := hs.1.2.1
  have w2 := hs.2.1.2.1
  clear h h' hmax hmax' hs
  go_enter Try.func55, Try.ntmps55
  go_wp2_with fail
  go_loopw [4, 5, 6] (fun s i k wr => ∃ r : Nat, r ≤ xss.length ∧ i = .int .i64 r ∧ s = .bool false ∧ (∃ z, k = z) ∧ Hid (∀ j k, j < r → k < 4 → nn xss j k * wh' = nn yss j k * wh) ∧ ∃ q, wr = ((w.alloc (.cells #[.int .i64 x, .int .i64 y, .int .i64 wh, .slice A xss.length cap] 29)).alloc (.cells #[.int .i64 x', .int .i64 y', .int .i64 wh', .slice A' yss.length cap'] 29)).drewN q) (fun _ i _ _ => xss.length - (intOf i).toNat)
  case atStart => exact ⟨0, Nat.zero_le _, rfl, rfl, ⟨_, rfl⟩, fun j k hj => by omega, 0, rfl⟩
  case round =>
    obtain ⟨r, hk, rfl, rfl, ⟨z, rfl⟩, hC, q, rfl⟩ := hrel
    by_cases hlt : r < xss.length
    · have hkz : (r : Int) < (xss.length : Int) := by omega
      have hlt' : r < yss.length := by have := HLL.out; omega
      have hkz' : (r : Int) < (yss.length : Int) := by omega
      obtain rfl := hA (by omega)
      obtain rfl := hA' (by omega)
      have g0 := (hc r hlt).1
      have gl := World.block_lt_of_cell? _ _ g0
      have f0 := (hc' r hlt').1
      have fl := World.block_lt_of_cell? _ _ f0
      obtain ⟨b2, o2, cap2, hR, hcap2, hl2, hc2⟩ := row4 hlt (box_len HS.out.1 hlt) (hc r hlt).2
      obtain ⟨b3, o3, cap3, hR', hcap3, hl3, hc3⟩ := row4 hlt' (box_len HS.out.2.1 hlt') (hc' r hlt').2
      rw [hR] at g0
      rw [hR'] at f0
      have HC := Lib.hid hc
      have HC' := Lib.hid hc'
      clear hc hc' hA hA' hR hR'
      go_wp2_with fail
      go_loopw [4, 6] (fun s k wr => ∃ d : Nat, d ≤ 4 ∧ k = .int .i64 d ∧ s = .bool false ∧ Hid (∀ k, k < d → nn xss r k * wh' = nn yss r k * wh) ∧ ∃ q, wr = ((w.alloc (.cells #[.int .i64 x, .int .i64 y, .int .i64 wh, .slice (some ⟨b, o, none⟩) xss.length cap] 29)).alloc (.cells #[.int .i64 x', .int .i64 y', .int .i64 wh', .slice (some ⟨b', o', none⟩) yss.length cap'] 29)).drewN q) (fun _ k _ => 4 - (intOf k).toNat)
      case atStart => exact ⟨0, Nat.zero_le _, rfl, rfl, fun k hk => by omega, q, rfl⟩
      case round =>
        obtain ⟨d, hd, rfl, rfl, hD, q, rfl⟩ := hrel
        by_cases hdl : d < 4
        · have hdz : (d : Int) < 4 := by omega
          have g1 := hc2 d hdl
          have f1 := hc3 d hdl
          have e1 := row.nn_bd HS.out.1 hlt hdl
          have e2 := row.nn_bd HS.out.2.1 hlt' hdl
          have k1 := mulw e1.1 e1.2 w2.1 w2.2
          have k2 := mulw e2.1 e2.2 w1.1 w1.2
          have HC2 := Lib.hid hc2
          have HC3 := Lib.hid hc3
          by_cases he : nn xss r d * wh' = nn yss r d * wh
          · have t : (nn xss r d * wh' != nn yss r d * wh) = false := by simp [he]
            have HE := Lib.hid he
            clear he hc2 hc3 e1 e2
            have HN : Hid (∀ k, k < d + 1 → nn xss r k * wh' = nn yss r k * wh) := Lib.hid (fun k hk => by
              by_cases e : k = d
              · rw [e]; exact HE.out
              · exact hD.out k (by omega))
            generalize nn xss r d = nf at *
            generalize nn yss r d = nx at *
            go_wp2_with fail
            go_quiet (fail)
            go_wp2_with fail
            go_roundw
            case rel => exact ⟨d + 1, by omega, by go_num, rfl, HN, _, rfl⟩
            case measure => simp [intOf]; omega
          · have t : (nn xss r d * wh' != nn yss r d * wh) = true := by simp [he]
            have HN : Hid (¬ alike wh xss wh' yss) := Lib.hid (fun h => he (h r d hlt hdl))
            clear he hc2 hc3 e1 e2
            generalize nn xss r d = nf at *
            generalize nn yss r d = nx at *
            go_wp2_with fail
            go_quiet (fail)
            go_wp2_with fail
            go_ret
            exact ⟨ret_b (alikeB_no HN.out).symm, below_drewN (below_drewN (below_al (below_al (Below.refl _ _) _) _) _) _⟩
        · have hdz : ¬ (d : Int) < 4 := by omega
          clear hc2 hc3
          go_wp2_with fail
          go_roundw
          case rel =>
            refine ⟨r + 1, by omega, by go_num, rfl, ⟨_, rfl⟩, fun j k hj hk => ?_, _, rfl⟩
            by_cases e : j = r
            · rw [e]; exact hD.out k (by omega)
            · exact hC.out j k (by omega) hk
          case measure => simp [intOf]; omega
    · have hkz : ¬ (r : Int) < (xss.length : Int) := by omega
      have HE : Hid (alike wh xss wh' yss) := Lib.hid (fun j k hj hk => hC.out j k (by omega) hk)
      clear hc hc' hA hA'
      go_wp2_with fail
      go_ret
      exact ⟨ret_b (alikeB_yes HE.out).symm, below_drewN (below_al (below_al (Below.refl _ _) _) _) _⟩





set_option maxHeartbeats 1000000 in
theorem impl_any (x y wh : Int) (v : Value) (xss : List (List Int)) (x' y' wh' : Int) (v' : Value) (yss : List (List Int)) (w : World) (h : IRows w v xss) (h' : IRows w v' yss) (hn : total xss ≤ 1048576) (hn' : total yss ≤ 1048576) :
    Calls Try.prog 58 #[.agg #[.int .i64 x, .int .i64 y, .int .i64 wh, v], .agg #[.int .i64 x', .int .i64 y', .int .i64 wh', v']] w fun e w' => e = .returned (.tuple #[.bool (res x y wh xss x' y' wh' yss).1, .bool (res x y wh xss x' y' wh' yss).2]) ∧ Below w.heap.size w w' := by
  have HV := Lib.hid h
  have HV' := Lib.hid h'
  obtain ⟨va, vn, vc, rfl⟩ := h.shape
  obtain ⟨ua, un, uc, rfl⟩ := h'.shape
  clear h h'
  have B0 := Lib.hid (below_al (below_al (Below.refl w.heap.size w) (.cells #[.int .i64 x, .int .i64 y, .int .i64 wh, .slice va vn vc] 29)) (.cells #[.int .i64 x', .int .i64 y', .int .i64 wh', .slice ua un uc] 29))
  have P0 := Lib.hid ((Blk.new w 29 #[.int .i64 x, .int .i64 y, .int .i64 wh, .slice va vn vc]).alloc (.cells #[.int .i64 x', .int .i64 y', .int .i64 wh', .slice ua un uc] 29))
  have Q0 : Hid (Blk ((w.alloc (.cells #[.int .i64 x, .int .i64 y, .int .i64 wh, .slice va vn vc] 29)).alloc (.cells #[.int .i64 x', .int .i64 y', .int .i64 wh', .slice ua un uc] 29)) (w.heap.size + 1) 29 #[.int .i64 x', .int .i64 y', .int .i64 wh', .slice ua un uc]) := Lib.hid (by
    have := Blk.new (w.alloc (.cells #[.int .i64 x, .int .i64 y, .int .i64 wh, .slice va vn vc] 29)) 29 #[.int .i64 x', .int .i64 y', .int .i64 wh', .slice ua un uc]
    simpa using this)
  have CP := Lib.hid (impl_same x y wh _ xss x' y' wh' _ yss _ (HV.out.below B0.out) (HV'.out.below B0.out) hn hn')
  by_cases hs : same x y wh xss x' y' wh' yss
  · have EB := Lib.hid (sameB_yes hs)
    have HS := Lib.hid hs
    rw [res_yes hs]
    have hl9 := val.ok_len hs.1
    have HLL := Lib.hid (same_len hs)
    have w1b := hs.1.2.1
    have w2b := hs.2.1.2.1
    clear hs
    go_enter Try.func58, Try.ntmps58
    go_wp2_with fail
    refine CP.out.mono ?_
    rintro e w1 ⟨rfl, hb⟩
    have B1 := Lib.hid (below_tr B0.out hb)
    have P1 := Lib.hid (P0.out.below hb)
    have Q1 := Lib.hid (Q0.out.below hb)
    obtain ⟨c0, c1, c2, c3, c4⟩ := four_cells P1.out
    obtain ⟨d0, d1, d2, d3, d4⟩ := four_cells Q1.out
    clear hb
    rw [EB.out]
    have HX := Lib.hid (HV.out.below B1.out)
    have HY := Lib.hid (HV'.out.below B1.out)
    obtain ⟨A, b, o, cap, R, hv, hcap, hmax, hA, hc⟩ := HX.out.form
    obtain ⟨A', b', o', cap', R', hv', hcap', hmax', hA', hc'⟩ := HY.out.form
    injection hv with e1 e2 e3
    injection hv' with e4 e5 e6
    subst e1; subst e2; subst e3; subst e4; subst e5; subst e6
    clear HX HY hmax hmax' CP P0 Q0
    go_wp2_with fail
    go_loopw [4, 5, 6, 7, 8, 9, 17] (fun p1 p2 a1 a2 a3 a4 i wr => ∃ r : Nat, r ≤ xss.length ∧ i = .int .i64 r ∧ p1 = .bool false ∧ p2 = .bool false ∧ (∃ z, a1 = z) ∧ (∃ z, a2 = z) ∧ (∃ z, a3 = z) ∧ (∃ z, a4 = z) ∧ Hid (∀ j k, j < r → k < 4 → nn xss j k * wh' = nn yss j k * wh) ∧ ∃ q, wr = w1.drewN q) (fun _ _ _ _ _ _ i _ => xss.length - (intOf i).toNat)
    case atStart => exact ⟨0, Nat.zero_le _, rfl, rfl, rfl, ⟨_, rfl⟩, ⟨_, rfl⟩, ⟨_, rfl⟩, ⟨_, rfl⟩, fun j k hj => by omega, 0, rfl⟩
    case round =>
      obtain ⟨r, hk, rfl, rfl, rfl, ⟨z1, rfl⟩, ⟨z2, rfl⟩, ⟨z3, rfl⟩, ⟨z4, rfl⟩, hC, q, rfl⟩ := hrel
      by_cases hlt : r < xss.length
      · have hkz : (r : Int) < (xss.length : Int) := by omega
        have hlt' : r < yss.length := by have := HLL.out; omega
        have hkz' : (r : Int) < (yss.length : Int) := by omega
        obtain rfl := hA (by omega)
        obtain rfl := hA' (by omega)
        have g0 := (hc r hlt).1
        have f0 := (hc' r hlt').1
        obtain ⟨b2, o2, cap2, hR, hcap2, hl2, hc2⟩ := row4 hlt (box_len HS.out.1 hlt) (hc r hlt).2
        obtain ⟨b3, o3, cap3, hR', hcap3, hl3, hc3⟩ := row4 hlt' (box_len HS.out.2.1 hlt') (hc' r hlt').2
        rw [hR] at g0
        rw [hR'] at f0
        have HC := Lib.hid hc
        have HC' := Lib.hid hc'
        clear hc hc' hA hA' hR hR'
        go_wp2_with fail
        go_loopw [4, 5, 8, 9, 24] (fun p1 p2 a1 a2 k wr => ∃ d : Nat, d ≤ 4 ∧ k = .int .i64 d ∧ p1 = .bool false ∧ p2 = .bool false ∧ (∃ z, a1 = z) ∧ (∃ z, a2 = z) ∧ Hid (∀ k, k < d → nn xss r k * wh' = nn yss r k * wh) ∧ ∃ q, wr = w1.drewN q) (fun _ _ _ _ k _ => 4 - (intOf k).toNat)
        case atStart => exact ⟨0, Nat.zero_le _, rfl, rfl, rfl, ⟨_, rfl⟩, ⟨_, rfl⟩, fun k hk => by omega, q, rfl⟩
        case round =>
          obtain ⟨d, hd, rfl, rfl, rfl, ⟨z1, rfl⟩, ⟨z2, rfl⟩, hD, q, rfl⟩ := hrel
          by_cases hdl : d < 4
          · have hdz : (d : Int) < 4 := by omega
            have g1 := hc2 d hdl
            have f1 := hc3 d hdl
            have e1 := row.nn_bd HS.out.1 hlt hdl
            have e2 := row.nn_bd HS.out.2.1 hlt' hdl
            have k1 := mulw e1.1 e1.2 w2b.1 w2b.2
            have k2 := mulw e2.1 e2.2 w1b.1 w1b.2
            have HC2 := Lib.hid hc2
            have HC3 := Lib.hid hc3
            by_cases he : nn xss r d * wh' = nn yss r d * wh
            · have t : (nn xss r d * wh' != nn yss r d * wh) = false := by simp [he]
              have HE := Lib.hid he
              clear he hc2 hc3 e1 e2
              have HN : Hid (∀ k, k < d + 1 → nn xss r k * wh' = nn yss r k * wh) := Lib.hid (fun k hk => by
                by_cases e : k = d
                · rw [e]; exact HE.out
                · exact hD.out k (by omega))
              generalize nn xss r d = nf at *
              generalize nn yss r d = nx at *
              go_wp2_with fail
              go_quiet (fail)
              go_wp2_with fail
              go_roundw
              case rel => exact ⟨d + 1, by omega, by go_num, rfl, rfl, ⟨_, rfl⟩, ⟨_, rfl⟩, HN, _, rfl⟩
              case measure => simp [intOf]; omega
            · have t : (nn xss r d * wh' != nn yss r d * wh) = true := by simp [he]
              have HN : Hid (alikeB wh xss wh' yss = false) := Lib.hid (alikeB_no (fun h => he (h r d hlt hdl)))
              clear he hc2 hc3 e1 e2
              generalize nn xss r d = nf at *
              generalize nn yss r d = nx at *
              go_wp2_with fail
              go_quiet (fail)
              go_wp2_with fail
              rw [HN.out]
              go_ret2
              exact ⟨rfl, below_drewN (below_drewN B1.out _) _⟩
          · have hdz : ¬ (d : Int) < 4 := by omega
            clear hc2 hc3
            go_wp2_with fail
            go_roundw
            case rel =>
              refine ⟨r + 1, by omega, by go_num, rfl, rfl, ⟨_, rfl⟩, ⟨_, rfl⟩, ⟨_, rfl⟩, ⟨_, rfl⟩, fun j k hj hk => ?_, _, rfl⟩
              by_cases e : j = r
              · rw [e]; exact hD.out k (by omega)
              · exact hC.out j k (by omega) hk
            case measure => simp [intOf]; omega
      · have hkz : ¬ (r : Int) < (xss.length : Int) := by omega
        have HE : Hid (alikeB wh xss wh' yss = true) := Lib.hid (alikeB_yes (fun j k hj hk => hC.out j k (by omega) hk))
        clear hc hc' hA hA'
        go_wp2_with fail
        rw [HE.out]
        go_ret2
        exact ⟨rfl, below_drewN B1.out _⟩
  · have EB := Lib.hid (sameB_no hs)
    rw [res_no hs]
    clear hs
    go_enter Try.func58, Try.ntmps58
    go_wp2_with fail
    refine CP.out.mono ?_
    rintro e w1 ⟨rfl, hb⟩
    have B1 := Lib.hid (below_tr B0.out hb)
    clear hb
    rw [EB.out]
    go_wp2_with fail
    go_ret2
    exact ⟨rfl, B1.out⟩


end Go.Proofs.Ytggodllfaggjiac.alike
