/- AskAgain of the program: the whole. -/
import Derived.Test.YtkajebhagkbcaaaAska
namespace Go.Proofs.Ytkajebhagkbcaaa.aska
open Go.RowKit Go.Deep Go.Proofs.Ytkajebhagkbcaaa.base
open Go.Proofs.Ytkajebhagkbcaaa.rws (total)
open Go.Proofs.Ytkajebhagkbcaaa.val (okSizes okBox boxB boxB_yes boxB_no)
open Go.Proofs.Ytkajebhagkbcaaa.play (within withinB withinB_yes withinB_no)

theorem hq0 {w w' : World} {q : Nat} (h : Below (w.drewN q).heap.size (w.drewN q) w') : Below w.heap.size w w' := below_tr (below_drewN (Below.refl _ _) _) h

set_option maxHeartbeats 4000000 in
theorem impl_any (x y wh : Int) (v vf vs : Value) (xss : List (List Int)) (fs ss : List Int) (w : World) (h : IRows w v xss) (hf : Ints w vf fs) (hs' : Ints w vs ss) (hn : total xss ≤ 1048576) :
    Calls Try.prog 38 #[.agg #[.int .i64 x, .int .i64 y, .int .i64 wh, v], vf, vs] w fun e w' => ∃ r, e = .returned (.tuple #[.agg #[.int .i64 (res x y wh xss fs ss).x, .int .i64 (res x y wh xss fs ss).y, .int .i64 (res x y wh xss fs ss).wh, r], .bool (res x y wh xss fs ss).ok]) ∧ OwnRows w' w.heap.size w'.heap.size r (res x y wh xss fs ss).rows ∧ Below w.heap.size w w' := by
  have HV0 := Lib.hid h
  have HF0 := Lib.hid hf
  have HS0 := Lib.hid hs'
  obtain ⟨A, vn, vc, rfl⟩ := h.shape
  obtain ⟨fa, _, fo0, fc, rfl, _, _, _, _⟩ := hf.form
  obtain ⟨sa, _, so0, sc, rfl, _, _, _, _⟩ := hs'.form
  clear h hf hs'
  have B0 := Lib.hid (below_al (below_al (below_al (below_al (Below.refl w.heap.size w) (.cells #[.int .i64 x, .int .i64 y, .int .i64 wh, .slice A vn vc] 24)) (.cells #[.slice fa fs.length fc] 30)) (.cells #[.slice sa ss.length sc] 30)) (.cells #[.int .i64 0, .int .i64 0, .int .i64 0, .slice none 0 0] 24))
  have R0 : Hid (Blk ((((w.alloc (.cells #[.int .i64 x, .int .i64 y, .int .i64 wh, .slice A vn vc] 24)).alloc (.cells #[.slice fa fs.length fc] 30)).alloc (.cells #[.slice sa ss.length sc] 30)).alloc (.cells #[.int .i64 0, .int .i64 0, .int .i64 0, .slice none 0 0] 24)) (w.heap.size + 1 + 1 + 1) 24 #[.int .i64 0, .int .i64 0, .int .i64 0, .slice none 0 0]) := Lib.hid (by
    have := Blk.new (((w.alloc (.cells #[.int .i64 x, .int .i64 y, .int .i64 wh, .slice A vn vc] 24)).alloc (.cells #[.slice fa fs.length fc] 30)).alloc (.cells #[.slice sa ss.length sc] 30)) 24 #[.int .i64 0, .int .i64 0, .int .i64 0, .slice none 0 0]
    simpa using this)
  have F0 : Hid (((((w.alloc (.cells #[.int .i64 x, .int .i64 y, .int .i64 wh, .slice A vn vc] 24)).alloc (.cells #[.slice fa fs.length fc] 30)).alloc (.cells #[.slice sa ss.length sc] 30)).alloc (.cells #[.int .i64 0, .int .i64 0, .int .i64 0, .slice none 0 0] 24)).cell? ⟨w.heap.size + 1, 0, none⟩ = some (.slice fa fs.length fc)) := Lib.hid (by
    have := ((Blk.new (w.alloc (.cells #[.int .i64 x, .int .i64 y, .int .i64 wh, .slice A vn vc] 24)) 30 #[.slice fa fs.length fc]).alloc (.cells #[.slice sa ss.length sc] 30)).alloc (.cells #[.int .i64 0, .int .i64 0, .int .i64 0, .slice none 0 0] 24)
    simpa using cell_of_one this)
  have S0 : Hid (((((w.alloc (.cells #[.int .i64 x, .int .i64 y, .int .i64 wh, .slice A vn vc] 24)).alloc (.cells #[.slice fa fs.length fc] 30)).alloc (.cells #[.slice sa ss.length sc] 30)).alloc (.cells #[.int .i64 0, .int .i64 0, .int .i64 0, .slice none 0 0] 24)).cell? ⟨w.heap.size + 1 + 1, 0, none⟩ = some (.slice sa ss.length sc)) := Lib.hid (by
    have := (Blk.new ((w.alloc (.cells #[.int .i64 x, .int .i64 y, .int .i64 wh, .slice A vn vc] 24)).alloc (.cells #[.slice fa fs.length fc] 30)) 30 #[.slice sa ss.length sc]).alloc (.cells #[.int .i64 0, .int .i64 0, .int .i64 0, .slice none 0 0] 24)
    simpa using cell_of_one this)
  have P0 : Hid (Blk ((((w.alloc (.cells #[.int .i64 x, .int .i64 y, .int .i64 wh, .slice A vn vc] 24)).alloc (.cells #[.slice fa fs.length fc] 30)).alloc (.cells #[.slice sa ss.length sc] 30)).alloc (.cells #[.int .i64 0, .int .i64 0, .int .i64 0, .slice none 0 0] 24)) w.heap.size 24 #[.int .i64 x, .int .i64 y, .int .i64 wh, .slice A vn vc]) := Lib.hid ((((Blk.new w 24 #[.int .i64 x, .int .i64 y, .int .i64 wh, .slice A vn vc]).alloc _).alloc _).alloc _)
  have CP := Lib.hid (fun (W : World) (hb : Below w.heap.size w W) => val.impl_any x y wh _ xss W (HV0.out.below hb) hn)
  by_cases hs : okBox x y wh xss
  · have EB := Lib.hid (boxB_yes hs)
    obtain ⟨⟨hX1, hX2⟩, hY1, hY2⟩ := hs.1
    have kx : IntKind.i64.wrap (x - 1) = x - 1 := IntWalk.i64_in _ (by omega)
    have ky : IntKind.i64.wrap (y - 1) = y - 1 := IntWalk.i64_in _ (by omega)
    by_cases hz : okSizes (fs.length : Int) (ss.length : Int)
    · have HC1 := Lib.hid (fun (W : World) => val.isizes_yes (fs.length : Int) (ss.length : Int) W hz)
      have hlf : 1 ≤ fs.length ∧ fs.length ≤ 3 := by have := hz.1; omega
      have hls : 1 ≤ ss.length ∧ ss.length ≤ 3 := by have := hz.2; omega
      by_cases hw1 : within (fs.length : Int) 0 (x - 1) fs
      · have HC2 := Lib.hid (fun (W : World) (hb : Below w.heap.size w W) => withinB_yes hw1 ▸ play.impl_within _ fs (fs.length : Int) 0 (x - 1) W (HF0.out.below hb))
        by_cases hw2 : within (ss.length : Int) 0 (y - 1) ss
        · have HC3 := Lib.hid (fun (W : World) (hb : Below w.heap.size w W) => withinB_yes hw2 ▸ play.impl_within _ ss (ss.length : Int) 0 (y - 1) W (HS0.out.below hb))
          have hgx := good_within (m := x - 1) hlf
          have hgy := good_within (m := y - 1) hls
          have HA := Lib.hid (show all x y wh xss fs ss from ⟨hs, hgx.2 hw1, hgy.2 hw2⟩)
          obtain ⟨X, rfl⟩ : ∃ X : Nat, x = X := ⟨x.toNat, by omega⟩
          obtain ⟨Y, rfl⟩ : ∃ Y : Nat, y = Y := ⟨y.toNat, by omega⟩
          have HE := Lib.hid (res_nat HA.out)
          have HMK := Lib.hid (fun (W : World) (hb0 : Below w.heap.size w W) (hP : Blk W w.heap.size 24 #[.int .i64 (X : Int), .int .i64 (Y : Int), .int .i64 wh, .slice A vn vc]) (hg : W.cell? ⟨w.heap.size + 1, 0, none⟩ = some (.slice fa fs.length fc)) (hg' : W.cell? ⟨w.heap.size + 1 + 1, 0, none⟩ = some (.slice sa ss.length sc)) => make_any w.heap.size (w.heap.size + 1) (w.heap.size + 1 + 1) fs.length ss.length wh (N xss fs ss Y) W hlf.2 hls.2 (fun i j W' hi hj hb =>
            clo w.heap.size (w.heap.size + 1) (w.heap.size + 1 + 1) X Y wh _ _ _ xss fs ss i j W' (hP.below hb) (below_cell hb _ _ hg) (below_cell hb _ _ hg') (HV0.out.below (below_tr hb0 hb)) (HF0.out.below (below_tr hb0 hb)) (HS0.out.below (below_tr hb0 hb)) HA.out hi hj))
          clear hgx hgy
          clear hs hz hw1 hw2
          go_enter Try.func38, Try.ntmps38
          go_wp2_with fail
          go_quiet (fail)
          go_wp2_with fail
          refine (CP.out _ (below_drewN B0.out _)).mono ?_
          rintro e w0 ⟨rfl, hb0⟩
          have B1 := Lib.hid (below_tr B0.out (hq0 hb0))
          have R1 := Lib.hid (R0.out.below (hq0 hb0))
          have P1 := Lib.hid (P0.out.below (hq0 hb0))
          have g1 := below_cell (hq0 hb0) _ _ F0.out
          have g2 := below_cell (hq0 hb0) _ _ S0.out
          obtain ⟨c0, c1, c2, c3, c4⟩ := four_cells P1.out
          rw [EB.out]
          clear hb0
          go_wp2_with fail
          refine (HC1.out _).mono ?_
          rintro e w' ⟨rfl, rfl⟩
          go_wp2_with fail
          refine (HC2.out _ B1.out).mono ?_
          rintro e w' ⟨rfl, rfl⟩
          go_wp2_with fail
          refine (HC3.out _ B1.out).mono ?_
          rintro e w' ⟨rfl, rfl⟩
          go_wp2_with fail
          refine (HMK.out _ B1.out P1.out g1 g2).mono ?_
          rintro e w1 ⟨u, rfl, hu, hb⟩
          have B2 := Lib.hid (below_tr B1.out hb)
          have R2 := Lib.hid (R1.out.below hb)
          have hz0 := R1.out.lt
          have U2 := Lib.hid (hu.mono (B' := w.heap.size + 1 + 1 + 1 + 1) (by omega) (Nat.le_refl _))
          obtain ⟨ua, ul, uc, rfl⟩ := hu.rows.shape
          obtain ⟨r0, r1, r2, r3, r4⟩ := four_cells R2.out
          have rf : ∀ k, w1.frozen? ⟨w.heap.size + 1 + 1 + 1, k, none⟩ = false := fun k => Joins.unfrozen_of_block R2.out k
          clear hu hb HMK R0 P0 B0 c0 c1 c2 c3 c4 g1 g2
          go_wp2_with fail
          refine bodyPost_ret (v := .tuple #[.agg #[.int .i64 (fs.length : Int), .int .i64 (ss.length : Int), .int .i64 wh, .slice ua ul uc], .bool true]) (by simp [results, Try.results38, go_sem, r0, r1, r2, r3]) rfl ?_
          rw [HE.out]
          refine ⟨_, rfl, ?_, ?_⟩
          · refine (U2.out.wrote (S := fun p => p.block < w.heap.size + 1 + 1 + 1 + 1) ?_ (fun p hp => .inl hp)).mono (by omega) (by simp [World.setCell])
            repeat (first | exact Wrote.refl _ _ | refine Wrote.setCell ?_ (by simp) _)
          · repeat (refine Below.setCell ?_ (by simp <;> omega) _)
            exact B2.out
        · have HC3 := Lib.hid (fun (W : World) (hb : Below w.heap.size w W) => withinB_no hw2 ▸ play.impl_within _ ss (ss.length : Int) 0 (y - 1) W (HS0.out.below hb))
          have HE := Lib.hid (res_no (x := x) (y := y) (wh := wh) (xss := xss) (fs := fs) (ss := ss) (fun h => hw2 (by have := (good_within (m := y - 1) hls).1 h.2.2; exact this)))
          clear hs hz hw1 hw2 hlf hls
          go_enter Try.func38, Try.ntmps38
          go_wp2_with fail
          go_quiet (fail)
          go_wp2_with fail
          refine (CP.out _ (below_drewN B0.out _)).mono ?_
          rintro e w0 ⟨rfl, hb0⟩
          have B1 := Lib.hid (below_tr B0.out (hq0 hb0))
          have R1 := Lib.hid (R0.out.below (hq0 hb0))
          have P1 := Lib.hid (P0.out.below (hq0 hb0))
          have g1 := below_cell (hq0 hb0) _ _ F0.out
          have g2 := below_cell (hq0 hb0) _ _ S0.out
          obtain ⟨c0, c1, c2, c3, c4⟩ := four_cells P1.out
          rw [EB.out]
          clear hb0
          go_wp2_with fail
          refine (HC1.out _).mono ?_
          rintro e w' ⟨rfl, rfl⟩
          go_wp2_with fail
          refine (HC2.out _ B1.out).mono ?_
          rintro e w' ⟨rfl, rfl⟩
          go_wp2_with fail
          refine (HC3.out _ B1.out).mono ?_
          rintro e w' ⟨rfl, rfl⟩
          obtain ⟨r0, r1, r2, r3, r4⟩ := four_cells R1.out
          have rf : ∀ k, w0.frozen? ⟨w.heap.size + 1 + 1 + 1, k, none⟩ = false := fun k => Joins.unfrozen_of_block R1.out k
          go_wp2_with fail
          refine bodyPost_ret (v := .tuple #[.agg #[.int .i64 0, .int .i64 0, .int .i64 0, .slice none 0 0], .bool false]) (by simp [results, Try.results38, go_sem, r0, r1, r2, r3]) rfl ?_
          rw [HE.out]
          refine ⟨_, rfl, OwnRows.nil _ _ _, ?_⟩
          repeat (first | (with_reducible exact B1.out) | refine Below.setCell ?_ (by simp <;> omega) _)
      · have HC2 := Lib.hid (fun (W : World) (hb : Below w.heap.size w W) => withinB_no hw1 ▸ play.impl_within _ fs (fs.length : Int) 0 (x - 1) W (HF0.out.below hb))
        have HE := Lib.hid (res_no (x := x) (y := y) (wh := wh) (xss := xss) (fs := fs) (ss := ss) (fun h => hw1 (by have := (good_within (m := x - 1) hlf).1 h.2.1; exact this)))
        clear hs hz hw1 hlf hls
        go_enter Try.func38, Try.ntmps38
        go_wp2_with fail
        go_quiet (fail)
        go_wp2_with fail
        refine (CP.out _ (below_drewN B0.out _)).mono ?_
        rintro e w0 ⟨rfl, hb0⟩
        have B1 := Lib.hid (below_tr B0.out (hq0 hb0))
        have R1 := Lib.hid (R0.out.below (hq0 hb0))
        have P1 := Lib.hid (P0.out.below (hq0 hb0))
        have g1 := below_cell (hq0 hb0) _ _ F0.out
        have g2 := below_cell (hq0 hb0) _ _ S0.out
        obtain ⟨c0, c1, c2, c3, c4⟩ := four_cells P1.out
        rw [EB.out]
        clear hb0
        go_wp2_with fail
        refine (HC1.out _).mono ?_
        rintro e w' ⟨rfl, rfl⟩
        go_wp2_with fail
        refine (HC2.out _ B1.out).mono ?_
        rintro e w' ⟨rfl, rfl⟩
        obtain ⟨r0, r1, r2, r3, r4⟩ := four_cells R1.out
        have rf : ∀ k, w0.frozen? ⟨w.heap.size + 1 + 1 + 1, k, none⟩ = false := fun k => Joins.unfrozen_of_block R1.out k
        go_wp2_with fail
        refine bodyPost_ret (v := .tuple #[.agg #[.int .i64 0, .int .i64 0, .int .i64 0, .slice none 0 0], .bool false]) (by simp [results, Try.results38, go_sem, r0, r1, r2, r3]) rfl ?_
        rw [HE.out]
        refine ⟨_, rfl, OwnRows.nil _ _ _, ?_⟩
        repeat (first | (with_reducible exact B1.out) | refine Below.setCell ?_ (by simp <;> omega) _)
    · have HC1 := Lib.hid (fun (W : World) => val.isizes_no (fs.length : Int) (ss.length : Int) W hz)
      have HE := Lib.hid (res_no (x := x) (y := y) (wh := wh) (xss := xss) (fs := fs) (ss := ss) (fun h => hz ⟨⟨by have := h.2.1.1; omega, by have := h.2.1.1; omega⟩, by have := h.2.2.1; omega, by have := h.2.2.1; omega⟩))
      clear hs hz
      go_enter Try.func38, Try.ntmps38
      go_wp2_with fail
      go_quiet (fail)
      go_wp2_with fail
      refine (CP.out _ (below_drewN B0.out _)).mono ?_
      rintro e w0 ⟨rfl, hb0⟩
      have B1 := Lib.hid (below_tr B0.out (hq0 hb0))
      have R1 := Lib.hid (R0.out.below (hq0 hb0))
      have P1 := Lib.hid (P0.out.below (hq0 hb0))
      have g1 := below_cell (hq0 hb0) _ _ F0.out
      have g2 := below_cell (hq0 hb0) _ _ S0.out
      obtain ⟨c0, c1, c2, c3, c4⟩ := four_cells P1.out
      rw [EB.out]
      clear hb0
      go_wp2_with fail
      refine (HC1.out _).mono ?_
      rintro e w' ⟨rfl, rfl⟩
      obtain ⟨r0, r1, r2, r3, r4⟩ := four_cells R1.out
      have rf : ∀ k, w0.frozen? ⟨w.heap.size + 1 + 1 + 1, k, none⟩ = false := fun k => Joins.unfrozen_of_block R1.out k
      go_wp2_with fail
      refine bodyPost_ret (v := .tuple #[.agg #[.int .i64 0, .int .i64 0, .int .i64 0, .slice none 0 0], .bool false]) (by simp [results, Try.results38, go_sem, r0, r1, r2, r3]) rfl ?_
      rw [HE.out]
      refine ⟨_, rfl, OwnRows.nil _ _ _, ?_⟩
      repeat (first | (with_reducible exact B1.out) | refine Below.setCell ?_ (by simp <;> omega) _)
  · have EB := Lib.hid (boxB_no hs)
    have HE := Lib.hid (res_no (x := x) (y := y) (wh := wh) (xss := xss) (fs := fs) (ss := ss) (fun h => hs h.1))
    clear hs
    go_enter Try.func38, Try.ntmps38
    go_wp2_with fail
    go_quiet (fail)
    go_wp2_with fail
    refine (CP.out _ (below_drewN B0.out _)).mono ?_
    rintro e w0 ⟨rfl, hb0⟩
    have B1 := Lib.hid (below_tr B0.out (hq0 hb0))
    have R1 := Lib.hid (R0.out.below (hq0 hb0))
    have P1 := Lib.hid (P0.out.below (hq0 hb0))
    have g1 := below_cell (hq0 hb0) _ _ F0.out
    have g2 := below_cell (hq0 hb0) _ _ S0.out
    obtain ⟨c0, c1, c2, c3, c4⟩ := four_cells P1.out
    rw [EB.out]
    clear hb0
    obtain ⟨r0, r1, r2, r3, r4⟩ := four_cells R1.out
    have rf : ∀ k, w0.frozen? ⟨w.heap.size + 1 + 1 + 1, k, none⟩ = false := fun k => Joins.unfrozen_of_block R1.out k
    go_wp2_with fail
    refine bodyPost_ret (v := .tuple #[.agg #[.int .i64 0, .int .i64 0, .int .i64 0, .slice none 0 0], .bool false]) (by simp [results, Try.results38, go_sem, r0, r1, r2, r3]) rfl ?_
    rw [HE.out]
    refine ⟨_, rfl, OwnRows.nil _ _ _, ?_⟩
    repeat (first | (with_reducible exact B1.out) | refine Below.setCell ?_ (by simp <;> omega) _)

end Go.Proofs.Ytkajebhagkbcaaa.aska
