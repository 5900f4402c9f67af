/- FlipAnswers of the program: the whole. -/
import Derived.Test.YtlaaiahkdkhehaaFlipb
namespace Go.Proofs.Ytlaaiahkdkhehaa.flipa
open Go.RowKit Go.Deep Go.Proofs.Ytlaaiahkdkhehaa.base
open Go.Proofs.Ytlaaiahkdkhehaa.rws (total)
open Go.Proofs.Ytlaaiahkdkhehaa.val (okSizes okBox boxB boxB_yes boxB_no)
open Go.Proofs.Ytlaaiahkdkhehaa.play (within withinB withinB_yes withinB_no)

set_option maxHeartbeats 4000000 in
theorem impl_any (x y wh : Int) (v vf : Value) (xss : List (List Int)) (fs : List Int) (w : World) (h : IRows w v xss) (hf : Ints w vf fs) (hn : total xss ≤ 1048576) :
    Calls Try.prog 92 #[.agg #[.int .i64 x, .int .i64 y, .int .i64 wh, v], vf] w fun e w' => ∃ r, e = .returned (.tuple #[.agg #[.int .i64 (res x y wh xss fs).x, .int .i64 (res x y wh xss fs).y, .int .i64 (res x y wh xss fs).wh, r], .bool (res x y wh xss fs).ok]) ∧ OwnRows w' w.heap.size w'.heap.size r (res x y wh xss fs).rows ∧ Below w.heap.size w w' := by
  have HV0 := Lib.hid h
  have HF0 := Lib.hid hf
  obtain ⟨A, vn, vc, rfl⟩ := h.shape
  obtain ⟨fa, fn, fc, rfl⟩ := hf.shape
  clear h hf
  have B0 := Lib.hid (below_al (below_al (below_al (Below.refl w.heap.size w) (.cells #[.int .i64 x, .int .i64 y, .int .i64 wh, .slice A vn vc] 24)) (.cells #[.slice fa fn fc] 36)) (.cells #[.int .i64 0, .int .i64 0, .int .i64 0, .slice none 0 0] 24))
  have R0 : Hid (Blk (((w.alloc (.cells #[.int .i64 x, .int .i64 y, .int .i64 wh, .slice A vn vc] 24)).alloc (.cells #[.slice fa fn fc] 36)).alloc (.cells #[.int .i64 0, .int .i64 0, .int .i64 0, .slice none 0 0] 24)) (w.heap.size + 1 + 1) 24 #[.int .i64 0, .int .i64 0, .int .i64 0, .slice none 0 0]) := Lib.hid (by
    have := Blk.new ((w.alloc (.cells #[.int .i64 x, .int .i64 y, .int .i64 wh, .slice A vn vc] 24)).alloc (.cells #[.slice fa fn fc] 36)) 24 #[.int .i64 0, .int .i64 0, .int .i64 0, .slice none 0 0]
    simpa using this)
  have F0 : Hid ((((w.alloc (.cells #[.int .i64 x, .int .i64 y, .int .i64 wh, .slice A vn vc] 24)).alloc (.cells #[.slice fa fn fc] 36)).alloc (.cells #[.int .i64 0, .int .i64 0, .int .i64 0, .slice none 0 0] 24)).cell? ⟨w.heap.size + 1, 0, none⟩ = some (.slice fa fn fc)) := Lib.hid (by
    have := (Blk.new (w.alloc (.cells #[.int .i64 x, .int .i64 y, .int .i64 wh, .slice A vn vc] 24)) 36 #[.slice fa fn fc]).alloc (.cells #[.int .i64 0, .int .i64 0, .int .i64 0, .slice none 0 0] 24)
    simpa using cell_of_one this)
  have P0 : Hid (Blk (((w.alloc (.cells #[.int .i64 x, .int .i64 y, .int .i64 wh, .slice A vn vc] 24)).alloc (.cells #[.slice fa fn fc] 36)).alloc (.cells #[.int .i64 0, .int .i64 0, .int .i64 0, .slice none 0 0] 24)) w.heap.size 24 #[.int .i64 x, .int .i64 y, .int .i64 wh, .slice A vn vc]) := Lib.hid (((Blk.new w 24 #[.int .i64 x, .int .i64 y, .int .i64 wh, .slice A vn vc]).alloc _).alloc _)
  have CP := Lib.hid (val.impl_any x y wh _ xss _ (HV0.out.below B0.out) hn)
  by_cases hs : okBox x y wh xss
  · have EB := Lib.hid (boxB_yes hs)
    obtain ⟨⟨hX1, hX2⟩, hY1, hY2⟩ := hs.1
    by_cases hw : within (x + y) 0 1 fs
    · have HA := Lib.hid (show all x y wh xss fs from ⟨hs, hw⟩)
      have HC := Lib.hid (fun (W : World) (hb : Below w.heap.size w W) => withinB_yes hw ▸ play.impl_bits _ fs (x + y) W (HF0.out.below hb))
      obtain ⟨X, rfl⟩ : ∃ X : Nat, x = X := ⟨x.toNat, by omega⟩
      obtain ⟨Y, rfl⟩ : ∃ Y : Nat, y = Y := ⟨y.toNat, by omega⟩
      have HE := Lib.hid (res_nat HA.out)
      have hl : fs.length = X + Y := by have := hw.1; omega
      have HMK := Lib.hid (fun (W : World) (hb0 : Below w.heap.size w W) (hP : Blk W w.heap.size 24 #[.int .i64 (X : Int), .int .i64 (Y : Int), .int .i64 wh, .slice A vn vc]) (hg : W.cell? ⟨w.heap.size + 1, 0, none⟩ = some (.slice fa fn fc)) => make_any w.heap.size (w.heap.size + 1) X Y wh (N xss fs X Y) W (by omega) (by omega) (fun i j W' hi hj hb =>
        clo w.heap.size (w.heap.size + 1) X Y wh _ _ xss fs i j W' (hP.below hb) (below_cell hb _ _ hg) (HV0.out.below (below_tr hb0 hb)) (HF0.out.below (below_tr hb0 hb)) HA.out.1 hl HA.out.2.2 hi hj))
      clear hs hw hl
      go_enter Try.func92, Try.ntmps92
      go_wp2_with fail
      refine CP.out.mono ?_
      rintro e w0 ⟨rfl, hb0⟩
      have B1 := Lib.hid (below_tr B0.out hb0)
      have R1 := Lib.hid (R0.out.below hb0)
      have P1 := Lib.hid (P0.out.below hb0)
      have g1 := below_cell hb0 _ _ F0.out
      obtain ⟨c0, c1, c2, c3, c4⟩ := four_cells P1.out
      rw [EB.out]
      clear hb0
      go_wp2_with fail
      refine (HC.out _ B1.out).mono ?_
      rintro e w' ⟨rfl, rfl⟩
      go_wp2_with fail
      refine (HMK.out _ B1.out P1.out g1).mono ?_
      rintro e w1 ⟨u, rfl, hu, hb⟩
      have B2 := Lib.hid (below_tr B1.out hb)
      have R2 := Lib.hid (R1.out.below hb)
      have hz0 := R1.out.lt
      have U2 := Lib.hid (hu.mono (B' := w.heap.size + 1 + 1 + 1) (by omega) (Nat.le_refl _))
      obtain ⟨ua, ul, uc, rfl⟩ := hu.rows.shape
      obtain ⟨r0, r1, r2, r3, r4⟩ := four_cells R2.out
      have rf : ∀ k, w1.frozen? ⟨w.heap.size + 1 + 1, k, none⟩ = false := fun k => Joins.unfrozen_of_block R2.out k
      clear hu hb HMK R0 P0 B0 c0 c1 c2 c3 c4 g1
      go_wp2_with fail
      refine bodyPost_ret (v := .tuple #[.agg #[.int .i64 (X : Int), .int .i64 (Y : Int), .int .i64 wh, .slice ua ul uc], .bool true]) (by simp [results, Try.results92, go_sem, r0, r1, r2, r3]) rfl ?_
      rw [HE.out]
      refine ⟨_, rfl, ?_, ?_⟩
      · refine (U2.out.wrote (S := fun p => p.block < w.heap.size + 1 + 1 + 1) ?_ (fun p hp => .inl hp)).mono (by omega) (by simp [World.setCell])
        repeat (first | exact Wrote.refl _ _ | refine Wrote.setCell ?_ (by simp) _)
      · repeat (refine Below.setCell ?_ (by simp <;> omega) _)
        exact B2.out
    · have HE := Lib.hid (res_no (x := x) (y := y) (wh := wh) (xss := xss) (fs := fs) (fun h => hw h.2))
      have HC := Lib.hid (fun (W : World) (hb : Below w.heap.size w W) => withinB_no hw ▸ play.impl_bits _ fs (x + y) W (HF0.out.below hb))
      clear hs hw
      go_enter Try.func92, Try.ntmps92
      go_wp2_with fail
      refine CP.out.mono ?_
      rintro e w0 ⟨rfl, hb0⟩
      have B1 := Lib.hid (below_tr B0.out hb0)
      have R1 := Lib.hid (R0.out.below hb0)
      have P1 := Lib.hid (P0.out.below hb0)
      have g1 := below_cell hb0 _ _ F0.out
      obtain ⟨c0, c1, c2, c3, c4⟩ := four_cells P1.out
      rw [EB.out]
      clear hb0
      go_wp2_with fail
      refine (HC.out _ B1.out).mono ?_
      rintro e w' ⟨rfl, rfl⟩
      obtain ⟨r0, r1, r2, r3, r4⟩ := four_cells R1.out
      have rf : ∀ k, w0.frozen? ⟨w.heap.size + 1 + 1, k, none⟩ = false := fun k => Joins.unfrozen_of_block R1.out k
      go_wp2_with fail
      refine bodyPost_ret (v := .tuple #[.agg #[.int .i64 0, .int .i64 0, .int .i64 0, .slice none 0 0], .bool false]) (by simp [results, Try.results92, go_sem, r0, r1, r2, r3]) rfl ?_
      rw [HE.out]
      refine ⟨_, rfl, OwnRows.nil _ _ _, ?_⟩
      repeat (first | (with_reducible exact B1.out) | refine Below.setCell ?_ (by simp <;> omega) _)
  · have EB := Lib.hid (boxB_no hs)
    have HE := Lib.hid (res_no (x := x) (y := y) (wh := wh) (xss := xss) (fs := fs) (fun h => hs h.1))
    clear hs
    go_enter Try.func92, Try.ntmps92
    go_wp2_with fail
    refine CP.out.mono ?_
    rintro e w0 ⟨rfl, hb0⟩
    have B1 := Lib.hid (below_tr B0.out hb0)
    have R1 := Lib.hid (R0.out.below hb0)
    rw [EB.out]
    clear hb0
    obtain ⟨r0, r1, r2, r3, r4⟩ := four_cells R1.out
    have rf : ∀ k, w0.frozen? ⟨w.heap.size + 1 + 1, k, none⟩ = false := fun k => Joins.unfrozen_of_block R1.out k
    go_wp2_with fail
    refine bodyPost_ret (v := .tuple #[.agg #[.int .i64 0, .int .i64 0, .int .i64 0, .slice none 0 0], .bool false]) (by simp [results, Try.results92, go_sem, r0, r1, r2, r3]) rfl ?_
    rw [HE.out]
    refine ⟨_, rfl, OwnRows.nil _ _ _, ?_⟩
    repeat (first | (with_reducible exact B1.out) | refine Below.setCell ?_ (by simp <;> omega) _)

end Go.Proofs.Ytlaaiahkdkhehaa.flipa
