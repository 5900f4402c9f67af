/- BoxScore of both sides. -/
import Derived.Test.YtkajebhagkbcaabGfuns
import Derived.Test.YtkajebhagkbcaabWorthc
namespace Go.Proofs.Ytkajebhagkbcaab.bsc
open Go.RowKit Go.Deep Go.Proofs.Ytkajebhagkbcaab.base
open Go.Proofs.Ytkajebhagkbcaab.rws (total)
open Go.Proofs.Ytkajebhagkbcaab.val (okSizes okBox boxB boxB_yes boxB_no)
open Go.Proofs.Ytkajebhagkbcaab.gval (okGame gameB gameB_yes gameB_no)
open Go.Proofs.Ytkajebhagkbcaab.row (nn)
open Go.Proofs.Ytkajebhagkbcaab.gwon (wt wt_bd nn_bd)

theorem fun_ok {x y : Int} {ws : List Int} {xss : List (List Int)} (h : okGame x y ws xss) : worth.okFun x y (gfun.rows ws xss (x.toNat * y.toNat)) := by
  refine ⟨h.1, ?_, fun k hk => ?_⟩
  · unfold gfun.rows
    rw [make.len_rowsOf, Int.natCast_mul, Int.toNat_of_nonneg (by have := h.1.1; omega), Int.toNat_of_nonneg (by have := h.1.2; omega)]
  · have e : (gfun.rows ws xss (x.toNat * y.toNat))[k] = make.quad (gfun.N ws xss) k := by simp [gfun.rows, make.rowsOf]
    rw [e]
    have hb : ∀ c, -99 ≤ gfun.N ws xss k c ∧ gfun.N ws xss k c ≤ 99 := fun c => by
      have h1 := wt_bd h k
      have h2 := nn_bd h k c
      unfold gfun.N
      have hx : nn xss k c = 0 ∨ nn xss k c = 1 := by omega
      rcases hx with e | e <;> rw [e] <;> omega
    refine ⟨rfl, fun j hj => ?_⟩
    have hj' : j < 4 := hj
    match j, hj' with
    | 0, _ => exact hb 0
    | 1, _ => exact hb 1
    | 2, _ => exact hb 2
    | 3, _ => exact hb 3
open Classical in
noncomputable def res (x y : Int) (ws : List Int) (wss : List (List Int)) (bx bY wh : Int) (xss : List (List Int)) : Int × Bool := if okGame x y ws wss ∧ bx = x ∧ bY = y then worth.res x y wh (gfun.rows ws wss (x.toNat * y.toNat)) xss else (0, false)
theorem res_yes {x y wh : Int} {ws : List Int} {wss xss : List (List Int)} (h : okGame x y ws wss) : res x y ws wss x y wh xss = worth.res x y wh (gfun.rows ws wss (x.toNat * y.toNat)) xss := if_pos ⟨h, rfl, rfl⟩
theorem res_no {x y bx bY wh : Int} {ws : List Int} {wss xss : List (List Int)} (h : ¬ (okGame x y ws wss ∧ bx = x ∧ bY = y)) : res x y ws wss bx bY wh xss = (0, false) := if_neg h

set_option maxRecDepth 100000 in
set_option maxHeartbeats 4000000 in
theorem impl_any (x y : Int) (v : Value) (ws : List Int) (u : Value) (wss : List (List Int)) (bx bY wh : Int) (bu : Value) (xss : List (List Int)) (w : World) (h : game.GV w v ws u wss) (hv : IRows w bu xss) (hn : ws.length ≤ 1048576) (hm : total wss ≤ 1048576) (hx : total xss ≤ 1048576) :
    Calls Try.prog 50 #[.agg #[.int .i64 x, .int .i64 y, v, u], .agg #[.int .i64 bx, .int .i64 bY, .int .i64 wh, bu]] w fun e w' => e = .returned (.tuple #[.int .i64 (res x y ws wss bx bY wh xss).1, .bool (res x y ws wss bx bY wh xss).2]) ∧ Below w.heap.size w w' := by
  obtain ⟨va, vn, vc, ua, un, uc, rfl, rfl⟩ := h.shape
  obtain ⟨ba, bn, bc, rfl⟩ := hv.shape
  have H := Lib.hid h
  have HV := Lib.hid hv
  have B0 := Lib.hid (below_al (below_al (Below.refl w.heap.size w) (.cells #[.int .i64 x, .int .i64 y, .slice va vn vc, .slice ua un uc] 60)) (.cells #[.int .i64 bx, .int .i64 bY, .int .i64 wh, .slice ba bn bc] 36))
  have K0 := Lib.hid ((Blk.new w 60 #[.int .i64 x, .int .i64 y, .slice va vn vc, .slice ua un uc]).alloc (.cells #[.int .i64 bx, .int .i64 bY, .int .i64 wh, .slice ba bn bc] 36))
  have J0 : Hid (Blk ((w.alloc (.cells #[.int .i64 x, .int .i64 y, .slice va vn vc, .slice ua un uc] 60)).alloc (.cells #[.int .i64 bx, .int .i64 bY, .int .i64 wh, .slice ba bn bc] 36)) (w.heap.size + 1) 36 #[.int .i64 bx, .int .i64 bY, .int .i64 wh, .slice ba bn bc]) := Lib.hid (by
    have := Blk.new (w.alloc (.cells #[.int .i64 x, .int .i64 y, .slice va vn vc, .slice ua un uc] 60)) 36 #[.int .i64 bx, .int .i64 bY, .int .i64 wh, .slice ba bn bc]
    simpa using this)
  have HC := Lib.hid (gfun.impl_any x y _ ws _ wss _ (h.below B0.out) hn hm)
  clear h hv
  by_cases hok : okGame x y ws wss
  · have HE : Hid (gfun.res x y ws wss = (gfun.rows ws wss (x.toNat * y.toNat), true)) := Lib.hid (gfun.res_yes hok)
    by_cases hmt : bx = x ∧ bY = y
    · obtain ⟨rfl, rfl⟩ := hmt
      rw [res_yes hok]
      have HOK := Lib.hid hok
      have d1 : (bx != bx) = false := bne_self_eq_false _
      have d2 : (bY != bY) = false := bne_self_eq_false _
      clear hok
      go_enter Try.func50, Try.ntmps50
      go_wp2_with fail
      refine HC.out.mono ?_
      rintro e w1 ⟨u', rfl, hu, hb⟩
      rw [HE.out] at hu ⊢
      obtain ⟨ra, rn, rc, rfl⟩ := hu.rows.shape
      have B1 := Lib.hid (below_tr B0.out hb)
      obtain ⟨c0, c1, c2, c3, c4⟩ := four_cells (K0.out.below hb)
      obtain ⟨j0, j1, j2, j3, j4⟩ := four_cells (J0.out.below hb)
      have HU := Lib.hid hu.rows
      have HT : Hid (total (gfun.rows ws wss (bx.toNat * bY.toNat)) ≤ 1048576) := Lib.hid (by have := gfun.tot bx bY ws wss; rw [HE.out] at this; exact this)
      clear hb hu HC K0 J0
      go_wp2_with fail
      refine (worth.impl_any bx bY wh _ _ (gfun.rows ws wss (bx.toNat * bY.toNat)) xss _ HU.out (HV.out.below B1.out) HT.out hx).mono ?_
      rintro e w2 ⟨rfl, hb⟩
      have B2 := Lib.hid (below_tr B1.out hb)
      clear hb
      go_wp2_with fail
      go_ret2
      exact ⟨rfl, B2.out⟩
    · rw [res_no (fun h => hmt h.2)]
      clear hok
      by_cases e1 : bx = x
      · have e2 : ¬ bY = y := fun e => hmt ⟨e1, e⟩
        have d1 : (bx != x) = false := by simp [e1]
        have d2 : (bY != y) = true := by simp [e2]
        clear hmt e2 e1
        go_enter Try.func50, Try.ntmps50
        go_wp2_with fail
        refine HC.out.mono ?_
        rintro e w1 ⟨u', rfl, hu, hb⟩
        rw [HE.out] at hu ⊢
        obtain ⟨ra, rn, rc, rfl⟩ := hu.rows.shape
        have B1 := Lib.hid (below_tr B0.out hb)
        obtain ⟨c0, c1, c2, c3, c4⟩ := four_cells (K0.out.below hb)
        obtain ⟨j0, j1, j2, j3, j4⟩ := four_cells (J0.out.below hb)
        clear hb hu HC K0 J0
        go_wp2_with fail
        go_ret2
        exact ⟨rfl, B1.out⟩
      · have d1 : (bx != x) = true := by simp [e1]
        clear hmt e1
        go_enter Try.func50, Try.ntmps50
        go_wp2_with fail
        refine HC.out.mono ?_
        rintro e w1 ⟨u', rfl, hu, hb⟩
        rw [HE.out] at hu ⊢
        obtain ⟨ra, rn, rc, rfl⟩ := hu.rows.shape
        have B1 := Lib.hid (below_tr B0.out hb)
        obtain ⟨c0, c1, c2, c3, c4⟩ := four_cells (K0.out.below hb)
        obtain ⟨j0, j1, j2, j3, j4⟩ := four_cells (J0.out.below hb)
        clear hb hu HC K0 J0
        go_wp2_with fail
        go_ret2
        exact ⟨rfl, B1.out⟩
  · have HE : Hid (gfun.res x y ws wss = ([], false)) := Lib.hid (gfun.res_no hok)
    rw [res_no (fun h => hok h.1)]
    clear hok
    go_enter Try.func50, Try.ntmps50
    go_wp2_with fail
    refine HC.out.mono ?_
    rintro e w1 ⟨u', rfl, hu, hb⟩
    rw [HE.out] at hu ⊢
    obtain ⟨ra, rn, rc, rfl⟩ := hu.rows.shape
    have B1 := Lib.hid (below_tr B0.out hb)
    clear hb hu HC K0 J0
    go_wp2_with fail
    go_ret2
    exact ⟨rfl, B1.out⟩

set_option maxRecDepth 100000 in
set_option maxHeartbeats 4000000 in
theorem spec_any (x y : Int) (v : Value) (ws : List Int) (u : Value) (wss : List (List Int)) (bx bY wh : Int) (bu : Value) (xss : List (List Int)) (w : World) (h : game.GV w v ws u wss) (hv : IRows w bu xss) (hn : ws.length ≤ 1048576) (hm : total wss ≤ 1048576) (hx : total xss ≤ 1048576) :
    Calls Try.prog 49 #[.agg #[.int .i64 x, .int .i64 y, v, u], .agg #[.int .i64 bx, .int .i64 bY, .int .i64 wh, bu]] w fun e w' => e = .returned (.tuple #[.int .i64 (res x y ws wss bx bY wh xss).1, .bool (res x y ws wss bx bY wh xss).2]) ∧ Below w.heap.size w w' := by
  obtain ⟨va, vn, vc, ua, un, uc, rfl, rfl⟩ := h.shape
  obtain ⟨ba, bn, bc, rfl⟩ := hv.shape
  have H := Lib.hid h
  have HV := Lib.hid hv
  have B0 := Lib.hid (below_al (below_al (Below.refl w.heap.size w) (.cells #[.int .i64 x, .int .i64 y, .slice va vn vc, .slice ua un uc] 60)) (.cells #[.int .i64 bx, .int .i64 bY, .int .i64 wh, .slice ba bn bc] 36))
  have K0 := Lib.hid ((Blk.new w 60 #[.int .i64 x, .int .i64 y, .slice va vn vc, .slice ua un uc]).alloc (.cells #[.int .i64 bx, .int .i64 bY, .int .i64 wh, .slice ba bn bc] 36))
  have J0 : Hid (Blk ((w.alloc (.cells #[.int .i64 x, .int .i64 y, .slice va vn vc, .slice ua un uc] 60)).alloc (.cells #[.int .i64 bx, .int .i64 bY, .int .i64 wh, .slice ba bn bc] 36)) (w.heap.size + 1) 36 #[.int .i64 bx, .int .i64 bY, .int .i64 wh, .slice ba bn bc]) := Lib.hid (by
    have := Blk.new (w.alloc (.cells #[.int .i64 x, .int .i64 y, .slice va vn vc, .slice ua un uc] 60)) 36 #[.int .i64 bx, .int .i64 bY, .int .i64 wh, .slice ba bn bc]
    simpa using this)
  have HC := Lib.hid (gval.spec_any x y _ ws _ wss _ (h.below B0.out) hn hm)
  have HB := Lib.hid (fun (W : World) (hW : Below w.heap.size w W) => val.spec_any bx bY wh _ xss W (hv.below hW) hx)
  clear h hv
  by_cases hok : okGame x y ws wss
  · have HE := Lib.hid (gameB_yes hok)
    have HOK := Lib.hid hok
    by_cases hbx : okBox bx bY wh xss
    · have HE2 := Lib.hid (boxB_yes hbx)
      by_cases hmt : bx = x ∧ bY = y
      · obtain ⟨rfl, rfl⟩ := hmt
        rw [res_yes hok, worth.res_yes ⟨hbx, fun_ok hok⟩]
        have HAL : Hid (worth.all bx bY wh (gfun.rows ws wss (bx.toNat * bY.toNat)) xss) := Lib.hid ⟨hbx, fun_ok hok⟩
        have HLN : Hid (bx.toNat * bY.toNat = wss.length) := Lib.hid (by
          have e : ((bx.toNat * bY.toNat : Nat) : Int) = bx * bY := by
            rw [Int.natCast_mul, Int.toNat_of_nonneg (by have := hok.1.1; omega), Int.toNat_of_nonneg (by have := hok.1.2; omega)]
          have := hok.2.2.1; omega)
        have d1 : (bx != bx) = false := bne_self_eq_false _
        have d2 : (bY != bY) = false := bne_self_eq_false _
        clear hok hbx
        go_enter Try.func49, Try.ntmps49
        go_wp2_with fail
        refine HC.out.mono ?_
        rintro e w1 ⟨rfl, hb⟩
        rw [HE.out]
        have B1 := Lib.hid (below_tr B0.out hb)
        have K1 := Lib.hid (K0.out.below hb)
        have J1 := Lib.hid (J0.out.below hb)
        obtain ⟨c0, c1, c2, c3, c4⟩ := four_cells K1.out
        obtain ⟨j0, j1, j2, j3, j4⟩ := four_cells J1.out
        clear hb HC K0 J0
        go_wp2_with fail
        refine (HB.out _ B1.out).mono ?_
        rintro e w2 ⟨rfl, hb⟩
        rw [HE2.out]
        have B2 := Lib.hid (below_tr B1.out hb)
        have K2 := Lib.hid (K1.out.below hb)
        have J2 := Lib.hid (J1.out.below hb)
        clear c0 c1 c2 c3 c4 j0 j1 j2 j3 j4
        obtain ⟨c0, c1, c2, c3, c4⟩ := four_cells K2.out
        obtain ⟨j0, j1, j2, j3, j4⟩ := four_cells J2.out
        clear hb K1 J1
        have HF := Lib.hid (fun (W : World) (hW : Below w2.heap.size w2 W) => gfun.l4fun bx bY _ ws _ wss W (H.out.below (below_tr B2.out hW)) HOK.out)
        have HW := Lib.hid (fun (W : World) (f : Value) (hW : Below w2.heap.size w2 W) (hf : IRows W f (gfun.rows ws wss wss.length)) => worth.l2worth bx bY wh f _ (gfun.rows ws wss (bx.toNat * bY.toNat)) xss W (by rw [HLN.out]; exact hf) (HV.out.below (below_tr B2.out hW)) HAL.out)
        go_wp2_with fail
        go_region_held3 (fun w' => w'.cell? ⟨w.heap.size, 0, none⟩ = some (.int .i64 bx) ∧ w'.cell? ⟨w.heap.size, 1, none⟩ = some (.int .i64 bY) ∧ w'.cell? ⟨w.heap.size, 2, none⟩ = some (.slice va vn vc) ∧ w'.cell? ⟨w.heap.size, 3, none⟩ = some (.slice ua un uc) ∧ w'.cell? ⟨w.heap.size + 1, 0, none⟩ = some (.int .i64 bx) ∧ w'.cell? ⟨w.heap.size + 1, 1, none⟩ = some (.int .i64 bY) ∧ w'.cell? ⟨w.heap.size + 1, 2, none⟩ = some (.int .i64 wh) ∧ w'.cell? ⟨w.heap.size + 1, 3, none⟩ = some (.slice ba bn bc) ∧ Below w2.heap.size w2 w')
          (((with_reducible refine held8 c0 c1 c2 c3 j0 j1 j2 j3 ?_); repeat (first | (with_reducible exact Below.refl _ _) | (with_reducible refine below_dr ?_) | (with_reducible refine below_tr ?_ (by assumption)))))
          (first
            | (go_at_call 84; (with_reducible refine (HF.out _ ?_).mono ?_); (repeat (first | (with_reducible exact Below.refl _ _) | (with_reducible refine below_dr ?_) | (with_reducible refine below_tr ?_ (by assumption)))); rintro e wq1 ⟨f, rfl, hf, hq1⟩)
            | (go_at_call 62; (with_reducible refine (HW.out _ _ ?_ ?_).mono ?_); (repeat (first | (with_reducible exact Below.refl _ _) | (with_reducible refine below_dr ?_) | (with_reducible refine below_tr ?_ (by assumption)))); (exact hf.rows); rintro e wq2 ⟨rfl, hq2⟩))
        have hbt : Below w2.heap.size w2 wq2 := by
          repeat (first | (with_reducible exact Below.refl _ _) | (with_reducible refine below_dr ?_) | (with_reducible refine below_tr ?_ (by assumption)))
        have B3 := Lib.hid (below_tr B2.out hbt)
        clear hbt hq1 hq2 hf c0 c1 c2 c3 c4 j0 j1 j2 j3 j4
        go_wp2_with fail
        go_ret2
        exact ⟨rfl, B3.out⟩
      · rw [res_no (fun h => hmt h.2)]
        clear hok hbx
        by_cases e1 : x = bx
        · have e2 : ¬ y = bY := fun e => hmt ⟨e1.symm, e.symm⟩
          have d1 : (x != bx) = false := by simp [e1]
          have d2 : (y != bY) = true := by simp [e2]
          clear hmt e2 e1
          go_enter Try.func49, Try.ntmps49
          go_wp2_with fail
          refine HC.out.mono ?_
          rintro e w1 ⟨rfl, hb⟩
          rw [HE.out]
          have B1 := Lib.hid (below_tr B0.out hb)
          have K1 := Lib.hid (K0.out.below hb)
          have J1 := Lib.hid (J0.out.below hb)
          obtain ⟨c0, c1, c2, c3, c4⟩ := four_cells K1.out
          obtain ⟨j0, j1, j2, j3, j4⟩ := four_cells J1.out
          clear hb HC K0 J0
          go_wp2_with fail
          refine (HB.out _ B1.out).mono ?_
          rintro e w2 ⟨rfl, hb⟩
          rw [HE2.out]
          have B2 := Lib.hid (below_tr B1.out hb)
          clear c0 c1 c2 c3 c4 j0 j1 j2 j3 j4
          obtain ⟨c0, c1, c2, c3, c4⟩ := four_cells (K1.out.below hb)
          obtain ⟨j0, j1, j2, j3, j4⟩ := four_cells (J1.out.below hb)
          clear hb K1 J1
          go_wp2_with fail
          go_ret2
          exact ⟨rfl, B2.out⟩
        · have d1 : (x != bx) = true := by simp [e1]
          clear hmt e1
          go_enter Try.func49, Try.ntmps49
          go_wp2_with fail
          refine HC.out.mono ?_
          rintro e w1 ⟨rfl, hb⟩
          rw [HE.out]
          have B1 := Lib.hid (below_tr B0.out hb)
          have K1 := Lib.hid (K0.out.below hb)
          have J1 := Lib.hid (J0.out.below hb)
          obtain ⟨c0, c1, c2, c3, c4⟩ := four_cells K1.out
          obtain ⟨j0, j1, j2, j3, j4⟩ := four_cells J1.out
          clear hb HC K0 J0
          go_wp2_with fail
          refine (HB.out _ B1.out).mono ?_
          rintro e w2 ⟨rfl, hb⟩
          rw [HE2.out]
          have B2 := Lib.hid (below_tr B1.out hb)
          clear c0 c1 c2 c3 c4 j0 j1 j2 j3 j4
          obtain ⟨c0, c1, c2, c3, c4⟩ := four_cells (K1.out.below hb)
          obtain ⟨j0, j1, j2, j3, j4⟩ := four_cells (J1.out.below hb)
          clear hb K1 J1
          go_wp2_with fail
          go_ret2
          exact ⟨rfl, B2.out⟩
    · have HE2 := Lib.hid (boxB_no hbx)
      have hres : res x y ws wss bx bY wh xss = (0, false) := by
        by_cases hmt : bx = x ∧ bY = y
        · obtain ⟨rfl, rfl⟩ := hmt
          rw [res_yes hok, worth.res_no (fun h => hbx h.1)]
        · exact res_no (fun h => hmt h.2)
      rw [hres]
      clear hok hbx hres
      go_enter Try.func49, Try.ntmps49
      go_wp2_with fail
      refine HC.out.mono ?_
      rintro e w1 ⟨rfl, hb⟩
      rw [HE.out]
      have B1 := Lib.hid (below_tr B0.out hb)
      obtain ⟨c0, c1, c2, c3, c4⟩ := four_cells (K0.out.below hb)
      obtain ⟨j0, j1, j2, j3, j4⟩ := four_cells (J0.out.below hb)
      clear hb HC K0 J0
      go_wp2_with fail
      refine (HB.out _ B1.out).mono ?_
      rintro e w2 ⟨rfl, hb⟩
      rw [HE2.out]
      have B2 := Lib.hid (below_tr B1.out hb)
      clear hb
      go_wp2_with fail
      go_ret2
      exact ⟨rfl, B2.out⟩
  · have HE := Lib.hid (gameB_no hok)
    rw [res_no (fun h => hok h.1)]
    clear hok
    go_enter Try.func49, Try.ntmps49
    go_wp2_with fail
    refine HC.out.mono ?_
    rintro e w1 ⟨rfl, hb⟩
    rw [HE.out]
    have B1 := Lib.hid (below_tr B0.out hb)
    clear hb HC
    go_wp2_with fail
    go_ret2
    exact ⟨rfl, B1.out⟩

end Go.Proofs.Ytkajebhagkbcaab.bsc
