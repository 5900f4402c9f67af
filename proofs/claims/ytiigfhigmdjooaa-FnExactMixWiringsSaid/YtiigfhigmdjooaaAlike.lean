/- Boxes with as many questions, Boxes that are alike: both sides. -/
import Derived.Test.YtiigfhigmdjooaaWorthc
namespace Go.Proofs.Ytiigfhigmdjooaa.alike
open Go.RowKit Go.Deep Go.Proofs.Ytiigfhigmdjooaa.base
open Go.Proofs.Ytiigfhigmdjooaa.val (okSizes okBox ret_b mul_small boxB boxB_yes boxB_no)
open Go.Proofs.Ytiigfhigmdjooaa.row (nn)
open Go.Proofs.Ytiigfhigmdjooaa.rws (total)
open Go.Proofs.Ytiigfhigmdjooaa.worth (row4 box_len)
open Go.Proofs.Ytiigfhigmdjooaa.play (ret_bb)

def same (x y wh : Int) (xss : List (List Int)) (x' y' wh' : Int) (yss : List (List Int)) : Prop := okBox x y wh xss ∧ okBox x' y' wh' yss ∧ x = x' ∧ y = y'
open Classical in
noncomputable def sameB (x y wh : Int) (xss : List (List Int)) (x' y' wh' : Int) (yss : List (List Int)) : Bool := if same x y wh xss x' y' wh' yss then true else false
theorem sameB_yes {x y wh : Int} {xss : List (List Int)} {x' y' wh' : Int} {yss : List (List Int)} (h : same x y wh xss x' y' wh' yss) : sameB x y wh xss x' y' wh' yss = true := if_pos h
theorem sameB_no {x y wh : Int} {xss : List (List Int)} {x' y' wh' : Int} {yss : List (List Int)} (h : ¬ same x y wh xss x' y' wh' yss) : sameB x y wh xss x' y' wh' yss = false := if_neg h
/-- alike: each number the same part of the whole -/
def alike (wh : Int) (xss : List (List Int)) (wh' : Int) (yss : List (List Int)) : Prop := ∀ r k, r < xss.length → k < 4 → nn xss r k * wh' = nn yss r k * wh
open Classical in
noncomputable def alikeB (wh : Int) (xss : List (List Int)) (wh' : Int) (yss : List (List Int)) : Bool := if alike wh xss wh' yss then true else false
theorem alikeB_yes {wh : Int} {xss : List (List Int)} {wh' : Int} {yss : List (List Int)} (h : alike wh xss wh' yss) : alikeB wh xss wh' yss = true := if_pos h
theorem alikeB_no {wh : Int} {xss : List (List Int)} {wh' : Int} {yss : List (List Int)} (h : ¬ alike wh xss wh' yss) : alikeB wh xss wh' yss = false := if_neg h
open Classical in
/-- what AreAlike answers -/
noncomputable def res (x y wh : Int) (xss : List (List Int)) (x' y' wh' : Int) (yss : List (List Int)) : Bool × Bool := if same x y wh xss x' y' wh' yss then (alikeB wh xss wh' yss, true) else (false, false)
theorem res_yes {x y wh : Int} {xss : List (List Int)} {x' y' wh' : Int} {yss : List (List Int)} (h : same x y wh xss x' y' wh' yss) : res x y wh xss x' y' wh' yss = (alikeB wh xss wh' yss, true) := if_pos h
theorem res_no {x y wh : Int} {xss : List (List Int)} {x' y' wh' : Int} {yss : List (List Int)} (h : ¬ same x y wh xss x' y' wh' yss) : res x y wh xss x' y' wh' yss = (false, false) := if_neg h
theorem mulw {n wh : Int} (h0 : 0 ≤ n) (h1 : n ≤ 1000) (k0 : 1 ≤ wh) (k1 : wh ≤ 1000) : IntKind.i64.wrap (n * wh) = n * wh := by
  have : 0 ≤ n * wh ∧ n * wh ≤ 1000000 := ⟨Int.mul_nonneg h0 (by omega), Int.le_trans (Int.mul_le_mul h1 k1 (by omega) (by omega)) (by omega)⟩
  exact IntWalk.i64_in _ (by omega)
theorem same_len {x y wh : Int} {xss : List (List Int)} {x' y' wh' : Int} {yss : List (List Int)} (h : same x y wh xss x' y' wh' yss) : yss.length = xss.length := by
  obtain ⟨h1, h2, rfl, rfl⟩ := h
  have := h1.2.2.1; have := h2.2.2.1; omega




set_option maxHeartbeats 1000000 in
theorem impl_same (x y wh : Int) (v : Value) (xss : List (List Int)) (x' y' wh' : Int) (v' : Value) (yss : List (List Int)) (w : World) (h : IRows w v xss) (h' : IRows w v' yss) (hn : total xss ≤ 1048576) (hn' : total yss ≤ 1048576) :
    Calls Try.prog 146 #[.agg #[.int .i64 x, .int .i64 y, .int .i64 wh, v], .agg #[.int .i64 x', .int .i64 y', .int .i64 wh', v']] w fun e w' => e = .returned (.bool (sameB x y wh xss x' y' wh' yss)) ∧ Below w.heap.size w w' := by
  have HV := Lib.hid h
  have HV' := Lib.hid h'
  obtain ⟨va, vn, vc, rfl⟩ := h.shape
  obtain ⟨ua, un, uc, rfl⟩ := h'.shape
  clear h h'
  have B0 := Lib.hid (below_al (below_al (Below.refl w.heap.size w) (.cells #[.int .i64 x, .int .i64 y, .int .i64 wh, .slice va vn vc] 28)) (.cells #[.int .i64 x', .int .i64 y', .int .i64 wh', .slice ua un uc] 28))
  have P0 := Lib.hid ((Blk.new w 28 #[.int .i64 x, .int .i64 y, .int .i64 wh, .slice va vn vc]).alloc (.cells #[.int .i64 x', .int .i64 y', .int .i64 wh', .slice ua un uc] 28))
  have Q0 : Hid (Blk ((w.alloc (.cells #[.int .i64 x, .int .i64 y, .int .i64 wh, .slice va vn vc] 28)).alloc (.cells #[.int .i64 x', .int .i64 y', .int .i64 wh', .slice ua un uc] 28)) (w.heap.size + 1) 28 #[.int .i64 x', .int .i64 y', .int .i64 wh', .slice ua un uc]) := Lib.hid (by
    have := Blk.new (w.alloc (.cells #[.int .i64 x, .int .i64 y, .int .i64 wh, .slice va vn vc] 28)) 28 #[.int .i64 x', .int .i64 y', .int .i64 wh', .slice ua un uc]
    simpa using this)
  have CP := Lib.hid (val.impl_any x y wh _ xss _ (HV.out.below B0.out) hn)
  by_cases hs : okBox x y wh xss
  · have EB := Lib.hid (boxB_yes hs)
    by_cases hs' : okBox x' y' wh' yss
    · have EC := Lib.hid (boxB_yes hs')
      by_cases ex : x = x'
      · have tx : (x == x') = true := by simp [ex]
        by_cases ey : y = y'
        · have ty : (y == y') = true := by simp [ey]
          have HN := Lib.hid (sameB_yes (⟨hs, hs', ex, ey⟩ : same x y wh xss x' y' wh' yss))
          clear hs hs' ex ey
          go_enter Try.func146, Try.ntmps146
          go_wp2_with fail
          refine CP.out.mono ?_
          rintro e w1 ⟨rfl, hb⟩
          have B1 := Lib.hid (below_tr B0.out hb)
          have P1 := Lib.hid (P0.out.below hb)
          have Q1 := Lib.hid (Q0.out.below hb)
          obtain ⟨c0, c1, c2, c3, c4⟩ := four_cells P1.out
          obtain ⟨d0, d1, d2, d3, d4⟩ := four_cells Q1.out
          clear hb
          rw [EB.out]
          go_wp2_with fail
          refine (val.impl_any x' y' wh' _ yss _ (HV'.out.below B1.out) hn').mono ?_
          rintro e w2 ⟨rfl, hb⟩
          have B2 := Lib.hid (below_tr B1.out hb)
          have P2 := Lib.hid (P1.out.below hb)
          have Q2 := Lib.hid (Q1.out.below hb)
          clear hb c0 c1 c2 c3 c4 d0 d1 d2 d3 d4
          obtain ⟨c0, c1, c2, c3, c4⟩ := four_cells P2.out
          obtain ⟨d0, d1, d2, d3, d4⟩ := four_cells Q2.out
          rw [EC.out]
          go_wp2_with fail
          go_ret
          exact ⟨ret_b HN.out.symm, B2.out⟩
        · have ty : (y == y') = false := by simp [ey]
          have HN := Lib.hid (sameB_no (fun h => ey h.2.2.2 : ¬ same x y wh xss x' y' wh' yss))
          clear hs hs' ex ey
          go_enter Try.func146, Try.ntmps146
          go_wp2_with fail
          refine CP.out.mono ?_
          rintro e w1 ⟨rfl, hb⟩
          have B1 := Lib.hid (below_tr B0.out hb)
          have P1 := Lib.hid (P0.out.below hb)
          have Q1 := Lib.hid (Q0.out.below hb)
          obtain ⟨c0, c1, c2, c3, c4⟩ := four_cells P1.out
          obtain ⟨d0, d1, d2, d3, d4⟩ := four_cells Q1.out
          clear hb
          rw [EB.out]
          go_wp2_with fail
          refine (val.impl_any x' y' wh' _ yss _ (HV'.out.below B1.out) hn').mono ?_
          rintro e w2 ⟨rfl, hb⟩
          have B2 := Lib.hid (below_tr B1.out hb)
          have P2 := Lib.hid (P1.out.below hb)
          have Q2 := Lib.hid (Q1.out.below hb)
          clear hb c0 c1 c2 c3 c4 d0 d1 d2 d3 d4
          obtain ⟨c0, c1, c2, c3, c4⟩ := four_cells P2.out
          obtain ⟨d0, d1, d2, d3, d4⟩ := four_cells Q2.out
          rw [EC.out]
          go_wp2_with fail
          go_ret
          exact ⟨ret_b HN.out.symm, B2.out⟩
      · have tx : (x == x') = false := by simp [ex]
        have HN := Lib.hid (sameB_no (fun h => ex h.2.2.1 : ¬ same x y wh xss x' y' wh' yss))
        clear hs hs' ex
        go_enter Try.func146, Try.ntmps146
        go_wp2_with fail
        refine CP.out.mono ?_
        rintro e w1 ⟨rfl, hb⟩
        have B1 := Lib.hid (below_tr B0.out hb)
        have P1 := Lib.hid (P0.out.below hb)
        have Q1 := Lib.hid (Q0.out.below hb)
        obtain ⟨c0, c1, c2, c3, c4⟩ := four_cells P1.out
        obtain ⟨d0, d1, d2, d3, d4⟩ := four_cells Q1.out
        clear hb
        rw [EB.out]
        go_wp2_with fail
        refine (val.impl_any x' y' wh' _ yss _ (HV'.out.below B1.out) hn').mono ?_
        rintro e w2 ⟨rfl, hb⟩
        have B2 := Lib.hid (below_tr B1.out hb)
        have P2 := Lib.hid (P1.out.below hb)
        have Q2 := Lib.hid (Q1.out.below hb)
        clear hb c0 c1 c2 c3 c4 d0 d1 d2 d3 d4
        obtain ⟨c0, c1, c2, c3, c4⟩ := four_cells P2.out
        obtain ⟨d0, d1, d2, d3, d4⟩ := four_cells Q2.out
        rw [EC.out]
        go_wp2_with fail
        go_ret
        exact ⟨ret_b HN.out.symm, B2.out⟩
    · have EC := Lib.hid (boxB_no hs')
      have HN := Lib.hid (sameB_no (fun h => hs' h.2.1 : ¬ same x y wh xss x' y' wh' yss))
      clear hs hs'
      go_enter Try.func146, Try.ntmps146
      go_wp2_with fail
      refine CP.out.mono ?_
      rintro e w1 ⟨rfl, hb⟩
      have B1 := Lib.hid (below_tr B0.out hb)
      have P1 := Lib.hid (P0.out.below hb)
      have Q1 := Lib.hid (Q0.out.below hb)
      obtain ⟨c0, c1, c2, c3, c4⟩ := four_cells P1.out
      obtain ⟨d0, d1, d2, d3, d4⟩ := four_cells Q1.out
      clear hb
      rw [EB.out]
      go_wp2_with fail
      refine (val.impl_any x' y' wh' _ yss _ (HV'.out.below B1.out) hn').mono ?_
      rintro e w2 ⟨rfl, hb⟩
      have B2 := Lib.hid (below_tr B1.out hb)
      have P2 := Lib.hid (P1.out.below hb)
      have Q2 := Lib.hid (Q1.out.below hb)
      clear hb c0 c1 c2 c3 c4 d0 d1 d2 d3 d4
      obtain ⟨c0, c1, c2, c3, c4⟩ := four_cells P2.out
      obtain ⟨d0, d1, d2, d3, d4⟩ := four_cells Q2.out
      rw [EC.out]
      go_wp2_with fail
      go_ret
      exact ⟨ret_b HN.out.symm, B2.out⟩
  · have EB := Lib.hid (boxB_no hs)
    have HN := Lib.hid (sameB_no (fun h => hs h.1 : ¬ same x y wh xss x' y' wh' yss))
    clear hs
    go_enter Try.func146, Try.ntmps146
    go_wp2_with fail
    refine CP.out.mono ?_
    rintro e w1 ⟨rfl, hb⟩
    have B1 := Lib.hid (below_tr B0.out hb)
    have P1 := Lib.hid (P0.out.below hb)
    have Q1 := Lib.hid (Q0.out.below hb)
    obtain ⟨c0, c1, c2, c3, c4⟩ := four_cells P1.out
    obtain ⟨d0, d1, d2, d3, d4⟩ := four_cells Q1.out
    clear hb
    rw [EB.out]
    go_wp2_with fail
    go_ret
    exact ⟨ret_b HN.out.symm, B1.out⟩








end Go.Proofs.Ytiigfhigmdjooaa.alike
