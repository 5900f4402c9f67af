/- ScaleBox of the program. -/
import Derived.Test.YtkikdecepdbbnabSclo
namespace Go.Proofs.Ytkikdecepdbbnab.scale
open Go.RowKit Go.Deep Go.Proofs.Ytkikdecepdbbnab.base
open Go.Proofs.Ytkikdecepdbbnab.rws (total)
open Go.Proofs.Ytkikdecepdbbnab.val (okSizes okBox boxB boxB_yes boxB_no)
open Go.Proofs.Ytkikdecepdbbnab.row (nn nn_bd at_ at_lt)

def all (x y wh : Int) (xss : List (List Int)) (kk : Int) : Prop := okBox x y wh xss ∧ 1 ≤ kk ∧ kk ≤ 1000 ∧ wh * kk ≤ 1000
open Classical in
noncomputable def res (x y wh : Int) (xss : List (List Int)) (kk : Int) : make.Res := if all x y wh xss kk then ⟨x, y, wh * kk, make.rowsOf (N xss kk) (x * y).toNat, true⟩ else make.Res.zero
theorem res_yes {x y wh : Int} {xss : List (List Int)} {kk : Int} (h : all x y wh xss kk) : res x y wh xss kk = ⟨x, y, wh * kk, make.rowsOf (N xss kk) (x * y).toNat, true⟩ := if_pos h
theorem res_no {x y wh : Int} {xss : List (List Int)} {kk : Int} (h : ¬ all x y wh xss kk) : res x y wh xss kk = make.Res.zero := if_neg h
theorem tot (x y wh : Int) (xss : List (List Int)) (kk : Int) : total (res x y wh xss kk).rows ≤ 1048576 := by
  by_cases h : all x y wh xss kk
  · rw [res_yes h]; exact make.total_rowsOf _ _ (by have := val.mul_small h.1.1; omega)
  · rw [res_no h]; exact Nat.zero_le _
theorem sum4 {wh : Int} {row : List Int} (h : val.okRow wh row) : row.getD 0 0 + row.getD 1 0 + row.getD 2 0 + row.getD 3 0 = wh ∧ ∀ k, k < 4 → 0 ≤ row.getD k 0 ∧ row.getD k 0 ≤ wh := by
  obtain ⟨h1, h2, h3⟩ := h
  match row, h1 with
  | [a, b, c, d], _ =>
    have e0 := h2 0 (by simp)
    have e1 := h2 1 (by simp)
    have e2 := h2 2 (by simp)
    have e3 := h2 3 (by simp)
    simp at h3 e0 e1 e2 e3
    refine ⟨by simp; omega, fun k hk => ?_⟩
    match k, hk with
    | 0, _ => simp; omega
    | 1, _ => simp; omega
    | 2, _ => simp; omega
    | 3, _ => simp; omega
theorem box_ok {X Y : Nat} {wh kk : Int} {xss : List (List Int)} (h : all X Y wh xss kk) : okBox X Y (wh * kk) (make.rowsOf (N xss kk) (X * Y)) := by
  obtain ⟨hb, k0, k1, k2⟩ := h
  have hw := hb.2.1
  have hw1 : 1 ≤ wh * kk := by
    have := Int.mul_le_mul (a := 1) (b := 1) (c := wh) (d := kk) hw.1 k0 (by omega) (by omega)
    omega
  refine make.ok_rowsOf hb.1 ⟨hw1, k2⟩ (fun r hr => ?_)
  have hl := hb.2.2.1
  have hr' : r < xss.length := by rw [← Int.natCast_mul] at hl; omega
  obtain ⟨hs, h4⟩ := sum4 (row.row_ok hb hr')
  refine make.okRow_quad (fun k hk => ?_) ?_
  · have := h4 k hk
    exact ⟨Int.mul_nonneg this.1 (by omega), Int.mul_le_mul_of_nonneg_right this.2 (by omega)⟩
  · show (xss.getD r []).getD 0 0 * kk + (xss.getD r []).getD 1 0 * kk + (xss.getD r []).getD 2 0 * kk + (xss.getD r []).getD 3 0 * kk = wh * kk
    rw [← Int.add_mul, ← Int.add_mul, ← Int.add_mul, hs]
theorem box_bad {X Y : Nat} {wh kk : Int} {xss : List (List Int)} (h : ¬ wh * kk ≤ 1000) : ¬ okBox X Y (wh * kk) (make.rowsOf (N xss kk) (X * Y)) := fun h' => h h'.2.1.2

set_option maxHeartbeats 4000000 in
theorem impl_any (x y wh : Int) (v : Value) (xss : List (List Int)) (kk : Int) (w : World) (h : IRows w v xss) (hn : total xss ≤ 1048576) :
    Calls Try.prog 76 #[.agg #[.int .i64 x, .int .i64 y, .int .i64 wh, v], .int .i64 kk] w fun e w' => ∃ r, e = .returned (.tuple #[.agg #[.int .i64 (res x y wh xss kk).x, .int .i64 (res x y wh xss kk).y, .int .i64 (res x y wh xss kk).wh, r], .bool (res x y wh xss kk).ok]) ∧ OwnRows w' w.heap.size w'.heap.size r (res x y wh xss kk).rows ∧ Below w.heap.size w w' := by
  have HV0 := Lib.hid h
  obtain ⟨A, vn, vc, rfl⟩ := h.shape
  clear h
  have B0 := Lib.hid (below_al (below_al (below_al (Below.refl w.heap.size w) (.cells #[.int .i64 x, .int .i64 y, .int .i64 wh, .slice A vn vc] 41)) (.cells #[.int .i64 kk] 3)) (.cells #[.int .i64 0, .int .i64 0, .int .i64 0, .slice none 0 0] 41))
  have R0 : Hid (Blk (((w.alloc (.cells #[.int .i64 x, .int .i64 y, .int .i64 wh, .slice A vn vc] 41)).alloc (.cells #[.int .i64 kk] 3)).alloc (.cells #[.int .i64 0, .int .i64 0, .int .i64 0, .slice none 0 0] 41)) (w.heap.size + 1 + 1) 41 #[.int .i64 0, .int .i64 0, .int .i64 0, .slice none 0 0]) := Lib.hid (by
    have := Blk.new ((w.alloc (.cells #[.int .i64 x, .int .i64 y, .int .i64 wh, .slice A vn vc] 41)).alloc (.cells #[.int .i64 kk] 3)) 41 #[.int .i64 0, .int .i64 0, .int .i64 0, .slice none 0 0]
    simpa using this)
  have P0 : Hid (Blk (((w.alloc (.cells #[.int .i64 x, .int .i64 y, .int .i64 wh, .slice A vn vc] 41)).alloc (.cells #[.int .i64 kk] 3)).alloc (.cells #[.int .i64 0, .int .i64 0, .int .i64 0, .slice none 0 0] 41)) w.heap.size 41 #[.int .i64 x, .int .i64 y, .int .i64 wh, .slice A vn vc]) := Lib.hid (((Blk.new w 41 #[.int .i64 x, .int .i64 y, .int .i64 wh, .slice A vn vc]).alloc _).alloc _)
  have P1 : Hid (Blk (((w.alloc (.cells #[.int .i64 x, .int .i64 y, .int .i64 wh, .slice A vn vc] 41)).alloc (.cells #[.int .i64 kk] 3)).alloc (.cells #[.int .i64 0, .int .i64 0, .int .i64 0, .slice none 0 0] 41)) (w.heap.size + 1) 3 #[.int .i64 kk]) := Lib.hid (by
    have := (Blk.new (w.alloc (.cells #[.int .i64 x, .int .i64 y, .int .i64 wh, .slice A vn vc] 41)) 3 #[.int .i64 kk]).alloc (.cells #[.int .i64 0, .int .i64 0, .int .i64 0, .slice none 0 0] 41)
    simpa using this)
  have F0 := Lib.hid (HV0.out.below B0.out)
  have CP := Lib.hid (val.impl_any x y wh _ xss _ F0.out hn)
  by_cases hs : okBox x y wh xss
  · have EB := Lib.hid (boxB_yes hs)
    by_cases h1 : 1 ≤ kk
    · have d1 : decide (kk < 1) = false := by simp; omega
      by_cases h2 : kk ≤ 1000
      · have d2 : decide (1000 < kk) = false := by simp; omega
        obtain ⟨X, rfl⟩ : ∃ X : Nat, x = X := ⟨x.toNat, by have := hs.1.1; omega⟩
        obtain ⟨Y, rfl⟩ : ∃ Y : Nat, y = Y := ⟨y.toNat, by have := hs.1.2; omega⟩
        have hX := hs.1.1.2
        have hY := hs.1.2.2
        have hwb := hs.2.1
        have kw : IntKind.i64.wrap (kk * wh) = wh * kk := by rw [Int.mul_comm]; exact wrapm (by omega) hwb.2 h1 h2
        have HS := Lib.hid hs
        have h9 : X * Y ≤ 9 := Nat.mul_le_mul (by omega : X ≤ 3) (by omega : Y ≤ 3)
        have HT := Lib.hid (make.total_rowsOf (N xss kk) (X * Y) h9)
        have HMK := Lib.hid (fun (W : World) (hb0 : Below (((w.alloc (.cells #[.int .i64 (X : Int), .int .i64 (Y : Int), .int .i64 wh, .slice A vn vc] 41)).alloc (.cells #[.int .i64 kk] 3)).alloc (.cells #[.int .i64 0, .int .i64 0, .int .i64 0, .slice none 0 0] 41)).heap.size (((w.alloc (.cells #[.int .i64 (X : Int), .int .i64 (Y : Int), .int .i64 wh, .slice A vn vc] 41)).alloc (.cells #[.int .i64 kk] 3)).alloc (.cells #[.int .i64 0, .int .i64 0, .int .i64 0, .slice none 0 0] 41)) W) => make_any w.heap.size (w.heap.size + 1) X Y (wh * kk) (N xss kk) W (by omega) (by omega) (fun i j W' hi hj hb =>
          clo w.heap.size (w.heap.size + 1) X Y wh kk _ xss i j W' (P0.out.below (below_tr hb0 hb)) (below_cell (below_tr hb0 hb) _ _ (cell_of_one P1.out)) (F0.out.below (below_tr hb0 hb)) HS.out h1 h2 hi hj))
        clear hs h9
        go_enter Try.func76, Try.ntmps76
        go_wp2_with fail
        refine CP.out.mono ?_
        rintro e w0 ⟨rfl, hb0⟩
        have B0' := Lib.hid (below_tr B0.out hb0)
        have R0' := Lib.hid (R0.out.below hb0)
        have P0' := Lib.hid (P0.out.below hb0)
        have P1' := Lib.hid (P1.out.below hb0)
        obtain ⟨c0, c1, c2, c3, c4⟩ := four_cells P0'.out
        obtain ⟨r0, r1, r2, r3, r4⟩ := four_cells R0'.out
        have g1 := cell_of_one P1'.out
        have rf0 : ∀ k, w0.frozen? ⟨w.heap.size + 1 + 1, k, none⟩ = false := fun k => Joins.unfrozen_of_block R0'.out k
        rw [EB.out]
        go_wp2_with fail
        refine (HMK.out _ hb0).mono ?_
        rintro e w1 ⟨u, rfl, hu, hb⟩
        have B1 := Lib.hid (below_tr B0'.out hb)
        have R1 := Lib.hid (R0'.out.below hb)
        have hz0 := hb0.size
        have U1 := Lib.hid (hu.mono (B' := w.heap.size + 1 + 1 + 1) (by simp at hz0; omega) (Nat.le_refl _))
        obtain ⟨ua, ul, uc, rfl⟩ := hu.rows.shape
        have hz := R1.out.lt
        clear hu hb hb0 hz0 HMK R0 P0 P1 B0 R0' P0' P1' B0' c0 c1 c2 c3 c4 r0 r1 r2 r3 r4 g1 rf0
        go_wp2_with fail
        by_cases h3 : wh * kk ≤ 1000
        · have hal : all X Y wh xss kk := ⟨HS.out, h1, h2, h3⟩
          have HV := Lib.hid (make.valid_yes X Y (wh * kk) _ _ w1 U1.out.rows HT.out (box_ok hal))
          have HE := Lib.hid (res_yes hal)
          clear hal
          refine HV.out.mono ?_
          rintro e w2 ⟨rfl, hb⟩
          have B2 := Lib.hid (below_tr B1.out hb)
          have R2 := Lib.hid (R1.out.below hb)
          have U2 := Lib.hid (U1.out.keep hb)
          have hz2 := Lib.hid hb.size
          obtain ⟨r0, r1, r2, r3, r4⟩ := four_cells R2.out
          have rf : ∀ k, w2.frozen? ⟨w.heap.size + 1 + 1, k, none⟩ = false := fun k => Joins.unfrozen_of_block R2.out k
          clear hb B1 R1 U1 HV
          go_wp2_with fail
          refine bodyPost_ret (v := .tuple #[.agg #[.int .i64 (X : Int), .int .i64 (Y : Int), .int .i64 (wh * kk), .slice ua ul uc], .bool true]) (by simp [results, Try.results76, go_sem, r0, r1, r2, r3]) rfl ?_
          rw [HE.out]
          refine ⟨_, rfl, ?_, ?_⟩
          · rw [show ((X : Int) * (Y : Int)).toNat = X * Y from by rw [← Int.natCast_mul, Int.toNat_natCast]]
            refine (U2.out.wrote (S := fun p => p.block < w.heap.size + 1 + 1 + 1) ?_ (fun p hp => .inl hp)).mono (by omega) (by have := hz2.out; simpa [World.setCell] using this)
            repeat (first | exact Wrote.refl _ _ | refine Wrote.setCell ?_ (by simp) _)
          · repeat (refine Below.setCell ?_ (by simp <;> omega) _)
            exact B2.out
        · have HV := Lib.hid (make.valid_no X Y (wh * kk) _ _ w1 U1.out.rows HT.out (box_bad h3))
          have HE := Lib.hid (res_no (x := X) (y := Y) (wh := wh) (xss := xss) (kk := kk) (fun h => h3 h.2.2.2))
          refine HV.out.mono ?_
          rintro e w2 ⟨rfl, hb⟩
          have B2 := Lib.hid (below_tr B1.out hb)
          have R2 := Lib.hid (R1.out.below hb)
          have U2 := Lib.hid (U1.out.keep hb)
          have hz2 := Lib.hid hb.size
          obtain ⟨r0, r1, r2, r3, r4⟩ := four_cells R2.out
          have rf : ∀ k, w2.frozen? ⟨w.heap.size + 1 + 1, k, none⟩ = false := fun k => Joins.unfrozen_of_block R2.out k
          clear hb B1 R1 U1 HV
          go_wp2_with fail
          refine bodyPost_ret (v := .tuple #[.agg #[.int .i64 0, .int .i64 0, .int .i64 0, .slice none 0 0], .bool false]) (by simp [results, Try.results76, go_sem, r0, r1, r2, r3]) rfl ?_
          rw [HE.out]
          refine ⟨_, rfl, OwnRows.nil _ _ _, ?_⟩
          repeat (refine Below.setCell ?_ (by simp <;> omega) _)
          exact B2.out
      · have d2 : decide (1000 < kk) = true := by simp; omega
        have HE := Lib.hid (res_no (x := x) (y := y) (wh := wh) (xss := xss) (kk := kk) (fun h => h2 h.2.2.1))
        clear hs
        go_enter Try.func76, Try.ntmps76
        go_wp2_with fail
        refine CP.out.mono ?_
        rintro e w0 ⟨rfl, hb0⟩
        have B0' := Lib.hid (below_tr B0.out hb0)
        have R0' := Lib.hid (R0.out.below hb0)
        have P0' := Lib.hid (P0.out.below hb0)
        have P1' := Lib.hid (P1.out.below hb0)
        obtain ⟨c0, c1, c2, c3, c4⟩ := four_cells P0'.out
        obtain ⟨r0, r1, r2, r3, r4⟩ := four_cells R0'.out
        have g1 := cell_of_one P1'.out
        have rf0 : ∀ k, w0.frozen? ⟨w.heap.size + 1 + 1, k, none⟩ = false := fun k => Joins.unfrozen_of_block R0'.out k
        rw [EB.out]
        go_wp2_with fail
        refine bodyPost_ret (v := .tuple #[.agg #[.int .i64 0, .int .i64 0, .int .i64 0, .slice none 0 0], .bool false]) (by simp [results, Try.results76, go_sem, r0, r1, r2, r3]) rfl ?_
        rw [HE.out]
        refine ⟨_, rfl, OwnRows.nil _ _ _, ?_⟩
        repeat (first | (with_reducible exact B0'.out) | refine Below.setCell ?_ (by simp <;> omega) _)
    · have d1 : decide (kk < 1) = true := by simp; omega
      have HE := Lib.hid (res_no (x := x) (y := y) (wh := wh) (xss := xss) (kk := kk) (fun h => h1 h.2.1))
      clear hs
      go_enter Try.func76, Try.ntmps76
      go_wp2_with fail
      refine CP.out.mono ?_
      rintro e w0 ⟨rfl, hb0⟩
      have B0' := Lib.hid (below_tr B0.out hb0)
      have R0' := Lib.hid (R0.out.below hb0)
      have P0' := Lib.hid (P0.out.below hb0)
      have P1' := Lib.hid (P1.out.below hb0)
      obtain ⟨c0, c1, c2, c3, c4⟩ := four_cells P0'.out
      obtain ⟨r0, r1, r2, r3, r4⟩ := four_cells R0'.out
      have g1 := cell_of_one P1'.out
      have rf0 : ∀ k, w0.frozen? ⟨w.heap.size + 1 + 1, k, none⟩ = false := fun k => Joins.unfrozen_of_block R0'.out k
      rw [EB.out]
      go_wp2_with fail
      refine bodyPost_ret (v := .tuple #[.agg #[.int .i64 0, .int .i64 0, .int .i64 0, .slice none 0 0], .bool false]) (by simp [results, Try.results76, go_sem, r0, r1, r2, r3]) rfl ?_
      rw [HE.out]
      refine ⟨_, rfl, OwnRows.nil _ _ _, ?_⟩
      repeat (first | (with_reducible exact B0'.out) | refine Below.setCell ?_ (by simp <;> omega) _)
  · have EB := Lib.hid (boxB_no hs)
    have HE := Lib.hid (res_no (x := x) (y := y) (wh := wh) (xss := xss) (kk := kk) (fun h => hs h.1))
    clear hs
    go_enter Try.func76, Try.ntmps76
    go_wp2_with fail
    refine CP.out.mono ?_
    rintro e w0 ⟨rfl, hb0⟩
    have B0' := Lib.hid (below_tr B0.out hb0)
    have R0' := Lib.hid (R0.out.below hb0)
    have P0' := Lib.hid (P0.out.below hb0)
    have P1' := Lib.hid (P1.out.below hb0)
    obtain ⟨c0, c1, c2, c3, c4⟩ := four_cells P0'.out
    obtain ⟨r0, r1, r2, r3, r4⟩ := four_cells R0'.out
    have g1 := cell_of_one P1'.out
    have rf0 : ∀ k, w0.frozen? ⟨w.heap.size + 1 + 1, k, none⟩ = false := fun k => Joins.unfrozen_of_block R0'.out k
    rw [EB.out]
    go_wp2_with fail
    refine bodyPost_ret (v := .tuple #[.agg #[.int .i64 0, .int .i64 0, .int .i64 0, .slice none 0 0], .bool false]) (by simp [results, Try.results76, go_sem, r0, r1, r2, r3]) rfl ?_
    rw [HE.out]
    refine ⟨_, rfl, OwnRows.nil _ _ _, ?_⟩
    repeat (first | (with_reducible exact B0'.out) | refine Below.setCell ?_ (by simp <;> omega) _)

end Go.Proofs.Ytkikdecepdbbnab.scale
