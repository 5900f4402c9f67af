/- PlayBox of the model: the whole. -/
import Derived.Test.YtkajebhagkbcaaaPboxc
namespace Go.Proofs.Ytkajebhagkbcaaa.pbox
open Go.RowKit Go.Deep Go.Proofs.Ytkajebhagkbcaaa.base
open Go.Proofs.Ytkajebhagkbcaaa.val (okSizes okBox)
open Go.Proofs.Ytkajebhagkbcaaa.play (within withinB withinB_yes withinB_no isPlay isPlay_yes isPlay_no)

set_option maxHeartbeats 4000000 in
theorem spec_any (x y : Int) (v : Value) (ps : List Int) (wh : Int) (w : World) (h : Ints w v ps) :
    Calls Try.prog 20 #[.int .i64 x, .int .i64 y, v, .int .i64 wh] w fun e w' => ∃ r, e = .returned (.tuple #[.agg #[.int .i64 (res x y ps wh).x, .int .i64 (res x y ps wh).y, .int .i64 (res x y ps wh).wh, r], .bool (res x y ps wh).ok]) ∧ IRows w' r (res x y ps wh).rows ∧ Below w.heap.size w w' := by
  have HF := Lib.hid h
  obtain ⟨va, vn, vc, rfl⟩ := h.shape
  clear h
  have B0 := Lib.hid (below_al (Below.refl w.heap.size w) (.cells #[.int .i64 0, .int .i64 0, .int .i64 0, .slice none 0 0] 24))
  have R0 : Hid (Blk (w.alloc (.cells #[.int .i64 0, .int .i64 0, .int .i64 0, .slice none 0 0] 24)) w.heap.size 24 #[.int .i64 0, .int .i64 0, .int .i64 0, .slice none 0 0]) := Lib.hid (Blk.new w _ _)
  have F0 := Lib.hid (HF.out.below B0.out)
  have cp := l2play x y _ ps _ F0.out
  by_cases hs : okSizes x y
  · by_cases hw : within (x + y) 0 1 ps
    · simp only [isPlay_yes hs, withinB_yes hw] at cp
      have CP := Lib.hid cp
      clear cp
      by_cases h3 : 1 ≤ wh ∧ wh ≤ 1000
      · have HE := Lib.hid (res_yes (⟨hs, hw, h3.1, h3.2⟩ : all x y ps wh))
        obtain ⟨h1, h2⟩ := h3
        obtain ⟨X, rfl⟩ : ∃ X : Nat, x = X := ⟨x.toNat, by have := hs.1.1; omega⟩
        obtain ⟨Y, rfl⟩ : ∃ Y : Nat, y = Y := ⟨y.toNat, by have := hs.2.1; omega⟩
        have hX := hs.1.2
        have hY := hs.2.2
        have hwl := hw.1
        have HMK := Lib.hid (l2playbox _ ps X Y wh _ F0.out (by omega) hw.2 (by omega) (by omega))
        clear hs hw hwl
        go_enter Try.func20, Try.ntmps20
        go_wp2_with fail
        refine CP.out.mono ?_
        rintro e w' ⟨rfl, rfl⟩
        go_wp2_with fail
        refine (val.in_yes _ _ _ _ h1 h2).mono ?_
        rintro e w' ⟨rfl, rfl⟩
        go_wp2_with fail
        refine HMK.out.mono ?_
        rintro e w1 ⟨u, rfl, hu, hb⟩
        have B1 := Lib.hid (below_tr B0.out hb)
        have R1 := Lib.hid (R0.out.below hb)
        have U1 := Lib.hid hu
        have hsz : w.heap.size + 1 ≤ (w.alloc (.cells #[.int .i64 0, .int .i64 0, .int .i64 0, .slice none 0 0] 24)).heap.size + 1 := by simp
        obtain ⟨ua, ul, uc, rfl⟩ := hu.rows.shape
        obtain ⟨r0, r1, r2, r3, r4⟩ := four_cells R1.out
        have rf : ∀ k, w1.frozen? ⟨w.heap.size, k, none⟩ = false := fun k => Joins.unfrozen_of_block R1.out k
        clear hu hb HMK R0
        go_wp2_with fail
        refine bodyPost_ret (v := .tuple #[.agg #[.int .i64 (X : Int), .int .i64 (Y : Int), .int .i64 wh, .slice ua ul uc], .bool true]) (by simp [results, Try.results20, go_sem, r0, r1, r2, r3]) rfl ?_
        rw [HE.out]
        refine ⟨_, rfl, ?_, ?_⟩
        · rw [show ((X : Int) * (Y : Int)).toNat = X * Y from by rw [← Int.natCast_mul, Int.toNat_natCast]]
          refine (U1.out.wrote (S := fun p => p.block < w.heap.size + 1) ?_ (fun p hp => .inl (by have : p.block < w.heap.size + 1 := hp; have := hsz; omega))).rows
          repeat (first | exact Wrote.refl _ _ | refine Wrote.setCell ?_ (by simp) _)
        · repeat (refine Below.setCell ?_ (by simp <;> omega) _)
          exact B1.out
      · have HE := Lib.hid (res_no (x := x) (y := y) (ps := ps) (wh := wh) (fun h => h3 h.2.2))
        have hbad : wh < 1 ∨ 1000 < wh := by omega
        clear h3 hs hw R0
        go_enter Try.func20, Try.ntmps20
        go_wp2_with fail
        refine CP.out.mono ?_
        rintro e w' ⟨rfl, rfl⟩
        go_wp2_with fail
        refine (val.in_no _ _ _ _ hbad).mono ?_
        rintro e w' ⟨rfl, rfl⟩
        clear hbad
        go_wp2_with fail
        refine bodyPost_ret (v := .tuple #[.agg #[.int .i64 0, .int .i64 0, .int .i64 0, .slice none 0 0], .bool false]) (by simp [results, Try.results20, go_sem]) rfl ?_
        rw [HE.out]
        refine ⟨_, rfl, IRows.nil _, ?_⟩
        repeat (first | (with_reducible exact B0.out) | refine Below.setCell ?_ (by simp <;> omega) _)
    · simp only [isPlay_yes hs, withinB_no hw] at cp
      have CP := Lib.hid cp
      have HE := Lib.hid (res_no (x := x) (y := y) (ps := ps) (wh := wh) (fun h => hw h.2.1))
      clear cp hs hw R0
      go_enter Try.func20, Try.ntmps20
      go_wp2_with fail
      refine CP.out.mono ?_
      rintro e w' ⟨rfl, rfl⟩
      go_wp2_with fail
      refine bodyPost_ret (v := .tuple #[.agg #[.int .i64 0, .int .i64 0, .int .i64 0, .slice none 0 0], .bool false]) (by simp [results, Try.results20, go_sem]) rfl ?_
      rw [HE.out]
      refine ⟨_, rfl, IRows.nil _, ?_⟩
      repeat (first | (with_reducible exact B0.out) | refine Below.setCell ?_ (by simp <;> omega) _)
  · simp only [isPlay_no hs] at cp
    have CP := Lib.hid cp
    have HE := Lib.hid (res_no (x := x) (y := y) (ps := ps) (wh := wh) (fun h => hs h.1))
    clear cp hs R0
    go_enter Try.func20, Try.ntmps20
    go_wp2_with fail
    refine CP.out.mono ?_
    rintro e w' ⟨rfl, rfl⟩
    go_wp2_with fail
    refine bodyPost_ret (v := .tuple #[.agg #[.int .i64 0, .int .i64 0, .int .i64 0, .slice none 0 0], .bool false]) (by simp [results, Try.results20, go_sem]) rfl ?_
    rw [HE.out]
    refine ⟨_, rfl, IRows.nil _, ?_⟩
    repeat (first | (with_reducible exact B0.out) | refine Below.setCell ?_ (by simp <;> omega) _)

end Go.Proofs.Ytkajebhagkbcaaa.pbox
