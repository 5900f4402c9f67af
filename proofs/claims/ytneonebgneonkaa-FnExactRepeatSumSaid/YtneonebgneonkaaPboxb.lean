/- PlayBox of the program. -/
import Derived.Test.YtneonebgneonkaaPclo
namespace Go.Proofs.Ytneonebgneonkaa.pbox
open Go.RowKit Go.Deep Go.Proofs.Ytneonebgneonkaa.base
open Go.Proofs.Ytneonebgneonkaa.val (okSizes okBox)
open Go.Proofs.Ytneonebgneonkaa.play (within withinB withinB_yes withinB_no isPlay isPlay_yes isPlay_no)

theorem box_bad {X Y : Nat} {ps : List Int} {wh : Int} (h : ¬ (1 ≤ wh ∧ wh ≤ 1000)) : ¬ okBox X Y wh (make.rowsOf (N ps X Y wh) (X * Y)) := fun h' => h ⟨h'.2.1.1, h'.2.1.2⟩

set_option maxHeartbeats 4000000 in
theorem impl_any (x y : Int) (v : Value) (ps : List Int) (wh : Int) (w : World) (h : Ints w v ps) :
    Calls Try.prog 130 #[.int .i64 x, .int .i64 y, v, .int .i64 wh] w fun e w' => ∃ r, e = .returned (.tuple #[.agg #[.int .i64 (res x y ps wh).x, .int .i64 (res x y ps wh).y, .int .i64 (res x y ps wh).wh, r], .bool (res x y ps wh).ok]) ∧ OwnRows w' w.heap.size w'.heap.size r (res x y ps wh).rows ∧ Below w.heap.size w w' := by
  have HF := Lib.hid h
  obtain ⟨A, _, _, cap, rfl, _⟩ := h.form
  clear h
  have B0 := Lib.hid (below_al (below_al (below_al (below_al (Below.refl w.heap.size w) (.cells #[.int .i64 x] 3)) (.cells #[.slice A ps.length cap] 22)) (.cells #[.int .i64 wh] 3)) (.cells #[.int .i64 0, .int .i64 0, .int .i64 0, .slice none 0 0] 48))
  have R0 : Hid (Blk ((((w.alloc (.cells #[.int .i64 x] 3)).alloc (.cells #[.slice A ps.length cap] 22)).alloc (.cells #[.int .i64 wh] 3)).alloc (.cells #[.int .i64 0, .int .i64 0, .int .i64 0, .slice none 0 0] 48)) (w.heap.size + 1 + 1 + 1) 48 #[.int .i64 0, .int .i64 0, .int .i64 0, .slice none 0 0]) := Lib.hid (by
    have := Blk.new (((w.alloc (.cells #[.int .i64 x] 3)).alloc (.cells #[.slice A ps.length cap] 22)).alloc (.cells #[.int .i64 wh] 3)) 48 #[.int .i64 0, .int .i64 0, .int .i64 0, .slice none 0 0]
    simpa using this)
  have P0 : Hid (((((w.alloc (.cells #[.int .i64 x] 3)).alloc (.cells #[.slice A ps.length cap] 22)).alloc (.cells #[.int .i64 wh] 3)).alloc (.cells #[.int .i64 0, .int .i64 0, .int .i64 0, .slice none 0 0] 48)).cell? ⟨w.heap.size, 0, none⟩ = some (.int .i64 x)) := Lib.hid (cell_of_one ((((Blk.new w 3 #[.int .i64 x]).alloc _).alloc _).alloc _))
  have P1 : Hid (((((w.alloc (.cells #[.int .i64 x] 3)).alloc (.cells #[.slice A ps.length cap] 22)).alloc (.cells #[.int .i64 wh] 3)).alloc (.cells #[.int .i64 0, .int .i64 0, .int .i64 0, .slice none 0 0] 48)).cell? ⟨w.heap.size + 1, 0, none⟩ = some (.slice A ps.length cap)) := Lib.hid (by
    have := ((Blk.new (w.alloc (.cells #[.int .i64 x] 3)) 22 #[.slice A ps.length cap]).alloc (.cells #[.int .i64 wh] 3)).alloc (.cells #[.int .i64 0, .int .i64 0, .int .i64 0, .slice none 0 0] 48)
    simpa using cell_of_one this)
  have P2 : Hid (((((w.alloc (.cells #[.int .i64 x] 3)).alloc (.cells #[.slice A ps.length cap] 22)).alloc (.cells #[.int .i64 wh] 3)).alloc (.cells #[.int .i64 0, .int .i64 0, .int .i64 0, .slice none 0 0] 48)).cell? ⟨w.heap.size + 1 + 1, 0, none⟩ = some (.int .i64 wh)) := Lib.hid (by
    have := (Blk.new ((w.alloc (.cells #[.int .i64 x] 3)).alloc (.cells #[.slice A ps.length cap] 22)) 3 #[.int .i64 wh]).alloc (.cells #[.int .i64 0, .int .i64 0, .int .i64 0, .slice none 0 0] 48)
    simpa using cell_of_one this)
  have F0 := Lib.hid (HF.out.below B0.out)
  have cp := play.impl_play x y _ ps _ F0.out
  by_cases hs : okSizes x y
  · by_cases hw : within (x + y) 0 1 ps
    · simp only [isPlay_yes hs, withinB_yes hw] at cp
      have CP := Lib.hid cp
      clear cp
      obtain ⟨X, rfl⟩ : ∃ X : Nat, x = X := ⟨x.toNat, by have := hs.1.1; omega⟩
      obtain ⟨Y, rfl⟩ : ∃ Y : Nat, y = Y := ⟨y.toNat, by have := hs.2.1; omega⟩
      have hX := hs.1.2
      have hY := hs.2.2
      have HS := Lib.hid hs
      have hwl := hw.1
      have HWI := Lib.hid hw
      have HMK := Lib.hid (make_any (w.heap.size + 1 + 1) (w.heap.size + 1) w.heap.size X Y wh (N ps X Y wh) _ (by omega) (by omega) (fun i j W hi hj hb =>
        clo (w.heap.size + 1 + 1) (w.heap.size + 1) w.heap.size ps X Y wh i j _ W (below_cell hb _ _ P2.out) (below_cell hb _ _ P1.out) (below_cell hb _ _ P0.out) (F0.out.below hb) (by omega) HWI.out.2 (by omega) (by omega) hi hj))
      have h9 : X * Y ≤ 9 := Nat.mul_le_mul (by omega : X ≤ 3) (by omega : Y ≤ 3)
      have HT := Lib.hid (make.total_rowsOf (N ps X Y wh) (X * Y) h9)
      clear hs hw h9 hwl
      go_enter Try.func130, Try.ntmps130
      go_wp2_with fail
      refine CP.out.mono ?_
      rintro e w' ⟨rfl, rfl⟩
      go_wp2_with fail
      refine HMK.out.mono ?_
      rintro e w1 ⟨u, rfl, hu, hb⟩
      have B1 := Lib.hid (below_tr B0.out hb)
      have R1 := Lib.hid (R0.out.below hb)
      have U1 := Lib.hid (hu.mono (B' := w.heap.size + 1 + 1 + 1 + 1) (by simp) (Nat.le_refl _))
      obtain ⟨ua, ul, uc, rfl⟩ := hu.rows.shape
      have hz := R1.out.lt
      clear hu hb HMK R0 P0 P1 P2 B0
      go_wp2_with fail
      by_cases h3 : 1 ≤ wh ∧ wh ≤ 1000
      · have hal : all X Y ps wh := ⟨HS.out, HWI.out, h3.1, h3.2⟩
        have HV := Lib.hid (make.valid_yes X Y wh _ _ w1 U1.out.rows HT.out (box_ok hal))
        have HE := Lib.hid (res_yes hal)
        clear hal
        refine HV.out.mono ?_
        rintro e w2 ⟨rfl, hb⟩
        have B2 := Lib.hid (below_tr B1.out hb)
        have R2 := Lib.hid (R1.out.below hb)
        have U2 := Lib.hid (U1.out.keep hb)
        have hz2 := Lib.hid hb.size
        obtain ⟨r0, r1, r2, r3, r4⟩ := four_cells R2.out
        have rf : ∀ k, w2.frozen? ⟨w.heap.size + 1 + 1 + 1, k, none⟩ = false := fun k => Joins.unfrozen_of_block R2.out k
        clear hb B1 R1 U1 HV
        go_wp2_with fail
        refine bodyPost_ret (v := .tuple #[.agg #[.int .i64 (X : Int), .int .i64 (Y : Int), .int .i64 wh, .slice ua ul uc], .bool true]) (by simp [results, Try.results130, go_sem, r0, r1, r2, r3]) rfl ?_
        rw [HE.out]
        refine ⟨_, rfl, ?_, ?_⟩
        · rw [show ((X : Int) * (Y : Int)).toNat = X * Y from by rw [← Int.natCast_mul, Int.toNat_natCast]]
          refine (U2.out.wrote (S := fun p => p.block < w.heap.size + 1 + 1 + 1 + 1) ?_ (fun p hp => .inl hp)).mono (by omega) (by have := hz2.out; simpa [World.setCell] using this)
          repeat (first | exact Wrote.refl _ _ | refine Wrote.setCell ?_ (by simp) _)
        · repeat (refine Below.setCell ?_ (by simp <;> omega) _)
          exact B2.out
      · have HV := Lib.hid (make.valid_no X Y wh _ _ w1 U1.out.rows HT.out (box_bad h3))
        have HE := Lib.hid (res_no (x := X) (y := Y) (ps := ps) (wh := wh) (fun h => h3 h.2.2))
        refine HV.out.mono ?_
        rintro e w2 ⟨rfl, hb⟩
        have B2 := Lib.hid (below_tr B1.out hb)
        have R2 := Lib.hid (R1.out.below hb)
        have U2 := Lib.hid (U1.out.keep hb)
        have hz2 := Lib.hid hb.size
        obtain ⟨r0, r1, r2, r3, r4⟩ := four_cells R2.out
        have rf : ∀ k, w2.frozen? ⟨w.heap.size + 1 + 1 + 1, k, none⟩ = false := fun k => Joins.unfrozen_of_block R2.out k
        clear hb B1 R1 U1 HV
        go_wp2_with fail
        refine bodyPost_ret (v := .tuple #[.agg #[.int .i64 0, .int .i64 0, .int .i64 0, .slice none 0 0], .bool false]) (by simp [results, Try.results130, go_sem, r0, r1, r2, r3]) rfl ?_
        rw [HE.out]
        refine ⟨_, rfl, OwnRows.nil _ _ _, ?_⟩
        repeat (refine Below.setCell ?_ (by simp <;> omega) _)
        exact B2.out
    · simp only [isPlay_yes hs, withinB_no hw] at cp
      have CP := Lib.hid cp
      have HE := Lib.hid (res_no (x := x) (y := y) (ps := ps) (wh := wh) (fun h => hw h.2.1))
      clear cp hs hw R0 P0 P1 P2
      go_enter Try.func130, Try.ntmps130
      go_wp2_with fail
      refine CP.out.mono ?_
      rintro e w' ⟨rfl, rfl⟩
      go_wp2_with fail
      refine bodyPost_ret (v := .tuple #[.agg #[.int .i64 0, .int .i64 0, .int .i64 0, .slice none 0 0], .bool false]) (by simp [results, Try.results130, go_sem]) rfl ?_
      rw [HE.out]
      refine ⟨_, rfl, OwnRows.nil _ _ _, ?_⟩
      repeat (first | (with_reducible exact B0.out) | refine Below.setCell ?_ (by simp <;> omega) _)
  · simp only [isPlay_no hs] at cp
    have CP := Lib.hid cp
    have HE := Lib.hid (res_no (x := x) (y := y) (ps := ps) (wh := wh) (fun h => hs h.1))
    clear cp hs R0 P0 P1 P2
    go_enter Try.func130, Try.ntmps130
    go_wp2_with fail
    refine CP.out.mono ?_
    rintro e w' ⟨rfl, rfl⟩
    go_wp2_with fail
    refine bodyPost_ret (v := .tuple #[.agg #[.int .i64 0, .int .i64 0, .int .i64 0, .slice none 0 0], .bool false]) (by simp [results, Try.results130, go_sem]) rfl ?_
    rw [HE.out]
    refine ⟨_, rfl, OwnRows.nil _ _ _, ?_⟩
    repeat (first | (with_reducible exact B0.out) | refine Below.setCell ?_ (by simp <;> omega) _)

end Go.Proofs.Ytneonebgneonkaa.pbox
