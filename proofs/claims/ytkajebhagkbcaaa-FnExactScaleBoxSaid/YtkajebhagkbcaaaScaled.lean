/- ScaleBox of the model: the whole. -/
import Derived.Test.YtkajebhagkbcaaaScaleb
import Derived.Test.YtkajebhagkbcaaaScalec
namespace Go.Proofs.Ytkajebhagkbcaaa.scale
open Go.RowKit Go.Deep Go.Proofs.Ytkajebhagkbcaaa.base
open Go.Proofs.Ytkajebhagkbcaaa.rws (total)
open Go.Proofs.Ytkajebhagkbcaaa.val (okSizes okBox boxB boxB_yes boxB_no)

theorem rows_eq {X Y : Nat} {wh kk : Int} {xss : List (List Int)} (h : okBox X Y wh xss) : (List.range xss.length).map (D xss kk) = make.rowsOf (N xss kk) (X * Y) := by
  have hl := h.2.2.1
  have hl' : xss.length = X * Y := by rw [← Int.natCast_mul] at hl; omega
  unfold make.rowsOf
  rw [← hl']
  refine List.map_congr_left (fun r hr => ?_)
  have hr' : r < xss.length := by simpa using hr
  have h4 := (h.2.2.2 r hr').1
  unfold D make.quad N row.nn
  rw [row.getD_lt hr']
  generalize xss[r] = q at *
  match q, h4 with
  | [a, b, c, d], _ => rfl

set_option maxHeartbeats 4000000 in
theorem spec_any (x y wh : Int) (v : Value) (xss : List (List Int)) (kk : Int) (w : World) (h : IRows w v xss) (hn : total xss ≤ 1048576) :
    Calls Try.prog 31 #[.agg #[.int .i64 x, .int .i64 y, .int .i64 wh, v], .int .i64 kk] w fun e w' => ∃ r, e = .returned (.tuple #[.agg #[.int .i64 (res x y wh xss kk).x, .int .i64 (res x y wh xss kk).y, .int .i64 (res x y wh xss kk).wh, r], .bool (res x y wh xss kk).ok]) ∧ IRows w' r (res x y wh xss kk).rows ∧ Below w.heap.size w w' := by
  have HV0 := Lib.hid h
  obtain ⟨A, vn, vc, rfl⟩ := h.shape
  clear h
  have B0 := Lib.hid (below_al (below_al (Below.refl w.heap.size w) (.cells #[.int .i64 x, .int .i64 y, .int .i64 wh, .slice A vn vc] 24)) (.cells #[.int .i64 0, .int .i64 0, .int .i64 0, .slice none 0 0] 24))
  have R0 : Hid (Blk ((w.alloc (.cells #[.int .i64 x, .int .i64 y, .int .i64 wh, .slice A vn vc] 24)).alloc (.cells #[.int .i64 0, .int .i64 0, .int .i64 0, .slice none 0 0] 24)) (w.heap.size + 1) 24 #[.int .i64 0, .int .i64 0, .int .i64 0, .slice none 0 0]) := Lib.hid (by
    have := Blk.new (w.alloc (.cells #[.int .i64 x, .int .i64 y, .int .i64 wh, .slice A vn vc] 24)) 24 #[.int .i64 0, .int .i64 0, .int .i64 0, .slice none 0 0]
    simpa using this)
  have P0 : Hid (Blk ((w.alloc (.cells #[.int .i64 x, .int .i64 y, .int .i64 wh, .slice A vn vc] 24)).alloc (.cells #[.int .i64 0, .int .i64 0, .int .i64 0, .slice none 0 0] 24)) w.heap.size 24 #[.int .i64 x, .int .i64 y, .int .i64 wh, .slice A vn vc]) := Lib.hid ((Blk.new w 24 #[.int .i64 x, .int .i64 y, .int .i64 wh, .slice A vn vc]).alloc _)
  have F0 := Lib.hid (HV0.out.below B0.out)
  have CP := Lib.hid (val.spec_any x y wh _ xss _ F0.out hn)
  by_cases hs : okBox x y wh xss
  · have EB := Lib.hid (boxB_yes hs)
    by_cases h12 : 1 ≤ kk ∧ kk ≤ 1000
    · obtain ⟨h1, h2⟩ := h12
      obtain ⟨X, rfl⟩ : ∃ X : Nat, x = X := ⟨x.toNat, by have := hs.1.1; omega⟩
      obtain ⟨Y, rfl⟩ : ∃ Y : Nat, y = Y := ⟨y.toNat, by have := hs.1.2; omega⟩
      have HS := Lib.hid hs
      have h9 : X * Y ≤ 9 := Nat.mul_le_mul (by have := hs.1.1; omega : X ≤ 3) (by have := hs.1.2; omega : Y ≤ 3)
      have HT := Lib.hid (make.total_rowsOf (N xss kk) (X * Y) h9)
      have HL := Lib.hid (fun (W : World) (hb : Below w.heap.size w W) => l2times X Y wh _ xss kk W (HV0.out.below hb) hs h1 h2)
      have HRQ := Lib.hid (rows_eq (kk := kk) hs)
      clear hs h9
      go_enter Try.func31, Try.ntmps31
      go_wp2_with fail
      refine CP.out.mono ?_
      rintro e w0 ⟨rfl, hb0⟩
      have B0' := Lib.hid (below_tr B0.out hb0)
      have R0' := Lib.hid (R0.out.below hb0)
      have P0' := Lib.hid (P0.out.below hb0)
      obtain ⟨c0, c1, c2, c3, c4⟩ := four_cells P0'.out
      obtain ⟨r0, r1, r2, r3, r4⟩ := four_cells R0'.out
      have rf0 : ∀ k, w0.frozen? ⟨w.heap.size + 1, k, none⟩ = false := fun k => Joins.unfrozen_of_block R0'.out k
      rw [EB.out]
      go_wp2_with fail
      refine (val.in_yes _ _ _ _ h1 h2).mono ?_
      rintro e w' ⟨rfl, rfl⟩
      go_wp2_with fail
      refine (HL.out _ B0'.out).mono ?_
      rintro e w1 ⟨u, rfl, hu, hb⟩
      have B1 := Lib.hid (below_tr B0'.out hb)
      have R1 := Lib.hid (R0'.out.below hb)
      have U1 := Lib.hid (hu.mono (B' := w.heap.size + 1 + 1) (by have := B0'.out.size; have := R0'.out.lt; omega))
      have U1R := Lib.hid (show IRows w1 u _ from HRQ.out ▸ hu.rows)
      obtain ⟨ua, ul, uc, rfl⟩ := hu.rows.shape
      have hz := R1.out.lt
      clear hu hb hb0 HL R0 P0 B0 R0' P0' B0' c0 c1 c2 c3 c4 r0 r1 r2 r3 r4 rf0
      go_wp2_with fail
      by_cases h3 : wh * kk ≤ 1000
      · have hal : all X Y wh xss kk := ⟨HS.out, h1, h2, h3⟩
        have HV := Lib.hid (make.kept_yes X Y (wh * kk) _ _ w1 U1R.out HT.out (box_ok hal))
        have HE := Lib.hid (res_yes hal)
        clear hal
        refine HV.out.mono ?_
        rintro e w2 ⟨rfl, hb⟩
        have B2 := Lib.hid (below_tr B1.out hb)
        have R2 := Lib.hid (R1.out.below hb)
        obtain ⟨r0, r1, r2, r3, r4⟩ := four_cells R2.out
        have rf : ∀ k, w2.frozen? ⟨w.heap.size + 1, k, none⟩ = false := fun k => Joins.unfrozen_of_block R2.out k
        have U2 := Lib.hid (U1.out.below hb)
        clear hb B1 R1 U1 HV
        go_wp2_with fail
        refine bodyPost_ret (v := .tuple #[.agg #[.int .i64 (X : Int), .int .i64 (Y : Int), .int .i64 (wh * kk), .slice ua ul uc], .bool true]) (by simp [results, Try.results31, go_sem, r0, r1, r2, r3]) rfl ?_
        rw [HE.out]
        refine ⟨_, rfl, ?_, ?_⟩
        · rw [show ((X : Int) * (Y : Int)).toNat = X * Y from by rw [← Int.natCast_mul, Int.toNat_natCast]]
          rw [← HRQ.out]
          refine (U2.out.low ?_).rows
          repeat (first | exact Wrote.refl _ _ | refine Wrote.setCell ?_ (by simp) _)
        · repeat (refine Below.setCell ?_ (by simp <;> omega) _)
          exact B2.out
      · have HV := Lib.hid (make.kept_no X Y (wh * kk) _ _ w1 U1R.out HT.out (box_bad h3))
        have HE := Lib.hid (res_no (x := X) (y := Y) (wh := wh) (xss := xss) (kk := kk) (fun h => h3 h.2.2.2))
        refine HV.out.mono ?_
        rintro e w2 ⟨rfl, hb⟩
        have B2 := Lib.hid (below_tr B1.out hb)
        have R2 := Lib.hid (R1.out.below hb)
        obtain ⟨r0, r1, r2, r3, r4⟩ := four_cells R2.out
        have rf : ∀ k, w2.frozen? ⟨w.heap.size + 1, k, none⟩ = false := fun k => Joins.unfrozen_of_block R2.out k
        clear hb B1 R1 U1 HV
        go_wp2_with fail
        refine bodyPost_ret (v := .tuple #[.agg #[.int .i64 0, .int .i64 0, .int .i64 0, .slice none 0 0], .bool false]) (by simp [results, Try.results31, go_sem, r0, r1, r2, r3]) rfl ?_
        rw [HE.out]
        refine ⟨_, rfl, IRows.nil _, ?_⟩
        repeat (refine Below.setCell ?_ (by simp <;> omega) _)
        exact B2.out
    · have hbad : kk < 1 ∨ 1000 < kk := by omega
      have HE := Lib.hid (res_no (x := x) (y := y) (wh := wh) (xss := xss) (kk := kk) (fun h => h12 ⟨h.2.1, h.2.2.1⟩))
      clear hs h12
      go_enter Try.func31, Try.ntmps31
      go_wp2_with fail
      refine CP.out.mono ?_
      rintro e w0 ⟨rfl, hb0⟩
      have B0' := Lib.hid (below_tr B0.out hb0)
      have R0' := Lib.hid (R0.out.below hb0)
      have P0' := Lib.hid (P0.out.below hb0)
      obtain ⟨c0, c1, c2, c3, c4⟩ := four_cells P0'.out
      obtain ⟨r0, r1, r2, r3, r4⟩ := four_cells R0'.out
      have rf0 : ∀ k, w0.frozen? ⟨w.heap.size + 1, k, none⟩ = false := fun k => Joins.unfrozen_of_block R0'.out k
      rw [EB.out]
      go_wp2_with fail
      refine (val.in_no _ _ _ _ hbad).mono ?_
      rintro e w' ⟨rfl, rfl⟩
      clear hbad
      go_wp2_with fail
      refine bodyPost_ret (v := .tuple #[.agg #[.int .i64 0, .int .i64 0, .int .i64 0, .slice none 0 0], .bool false]) (by simp [results, Try.results31, go_sem, r0, r1, r2, r3]) rfl ?_
      rw [HE.out]
      refine ⟨_, rfl, IRows.nil _, ?_⟩
      repeat (first | (with_reducible exact B0'.out) | refine Below.setCell ?_ (by simp <;> omega) _)
  · have EB := Lib.hid (boxB_no hs)
    have HE := Lib.hid (res_no (x := x) (y := y) (wh := wh) (xss := xss) (kk := kk) (fun h => hs h.1))
    clear hs
    go_enter Try.func31, Try.ntmps31
    go_wp2_with fail
    refine CP.out.mono ?_
    rintro e w0 ⟨rfl, hb0⟩
    have B0' := Lib.hid (below_tr B0.out hb0)
    have R0' := Lib.hid (R0.out.below hb0)
    have P0' := Lib.hid (P0.out.below hb0)
    obtain ⟨c0, c1, c2, c3, c4⟩ := four_cells P0'.out
    obtain ⟨r0, r1, r2, r3, r4⟩ := four_cells R0'.out
    have rf0 : ∀ k, w0.frozen? ⟨w.heap.size + 1, k, none⟩ = false := fun k => Joins.unfrozen_of_block R0'.out k
    rw [EB.out]
    go_wp2_with fail
    refine bodyPost_ret (v := .tuple #[.agg #[.int .i64 0, .int .i64 0, .int .i64 0, .slice none 0 0], .bool false]) (by simp [results, Try.results31, go_sem, r0, r1, r2, r3]) rfl ?_
    rw [HE.out]
    refine ⟨_, rfl, IRows.nil _, ?_⟩
    repeat (first | (with_reducible exact B0'.out) | refine Below.setCell ?_ (by simp <;> omega) _)

end Go.Proofs.Ytkajebhagkbcaaa.scale
