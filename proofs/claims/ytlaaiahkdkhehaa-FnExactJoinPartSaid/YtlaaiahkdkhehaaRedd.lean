/- ReduceBox of the program: the whole. -/
import Derived.Test.YtlaaiahkdkhehaaRedb
import Derived.Test.YtlaaiahkdkhehaaRedclo
import Derived.Test.YtlaaiahkdkhehaaStep
import Derived.Deep.RegionHeld3
namespace Go.Proofs.Ytlaaiahkdkhehaa.red
open Go.RowKit Go.Deep Go.Proofs.Ytlaaiahkdkhehaa.base
open Go.Proofs.Ytlaaiahkdkhehaa.ints (ret_int infoInt infoInts)
open Go.Proofs.Ytlaaiahkdkhehaa.rws (total)
open Go.Proofs.Ytlaaiahkdkhehaa.val (okSizes okBox boxB boxB_yes boxB_no)

set_option maxHeartbeats 4000000 in
theorem impl_any (x y wh : Int) (v : Value) (xss : List (List Int)) (w : World) (h : IRows w v xss) (hn : total xss ≤ 1048576) :
    Calls Try.prog 85 #[.agg #[.int .i64 x, .int .i64 y, .int .i64 wh, v]] w fun e w' => ∃ r, e = .returned (.tuple #[.agg #[.int .i64 (res x y wh xss).x, .int .i64 (res x y wh xss).y, .int .i64 (res x y wh xss).wh, r], .bool (res x y wh xss).ok]) ∧ OwnRows w' w.heap.size w'.heap.size r (res x y wh xss).rows ∧ Below w.heap.size w w' := by
  have HV0 := Lib.hid h
  obtain ⟨A, vn, vc, rfl⟩ := h.shape
  clear h
  have B0 := Lib.hid (below_al (below_al (Below.refl w.heap.size w) (.cells #[.int .i64 x, .int .i64 y, .int .i64 wh, .slice A vn vc] 24)) (.cells #[.int .i64 0, .int .i64 0, .int .i64 0, .slice none 0 0] 24))
  have R0 : Hid (Blk ((w.alloc (.cells #[.int .i64 x, .int .i64 y, .int .i64 wh, .slice A vn vc] 24)).alloc (.cells #[.int .i64 0, .int .i64 0, .int .i64 0, .slice none 0 0] 24)) (w.heap.size + 1) 24 #[.int .i64 0, .int .i64 0, .int .i64 0, .slice none 0 0]) := Lib.hid (by
    have := Blk.new (w.alloc (.cells #[.int .i64 x, .int .i64 y, .int .i64 wh, .slice A vn vc] 24)) 24 #[.int .i64 0, .int .i64 0, .int .i64 0, .slice none 0 0]
    simpa using this)
  have P0 : Hid (Blk ((w.alloc (.cells #[.int .i64 x, .int .i64 y, .int .i64 wh, .slice A vn vc] 24)).alloc (.cells #[.int .i64 0, .int .i64 0, .int .i64 0, .slice none 0 0] 24)) w.heap.size 24 #[.int .i64 x, .int .i64 y, .int .i64 wh, .slice A vn vc]) := Lib.hid ((Blk.new w 24 #[.int .i64 x, .int .i64 y, .int .i64 wh, .slice A vn vc]).alloc _)
  have CP := Lib.hid (val.impl_any x y wh _ xss _ (HV0.out.below B0.out) hn)
  by_cases hs : okBox x y wh xss
  · have EB := Lib.hid (boxB_yes hs)
    obtain ⟨X, rfl⟩ : ∃ X : Nat, x = X := ⟨x.toNat, by have := hs.1.1; omega⟩
    obtain ⟨Y, rfl⟩ : ∃ Y : Nat, y = Y := ⟨y.toNat, by have := hs.1.2; omega⟩
    have hX := hs.1.1.2
    have hY := hs.1.2.2
    have HS := Lib.hid hs
    have HE := Lib.hid (res_nat hs)
    have h9 : X * Y ≤ 9 := Nat.mul_le_mul (by omega : X ≤ 3) (by omega : Y ≤ 3)
    have HT := Lib.hid (make.total_rowsOf (N xss (dv wh xss)) (X * Y) h9)
    have HBO := Lib.hid (box_ok hs)
    obtain ⟨D, hD⟩ : ∃ D : Int, (dv wh xss : Int) = D := ⟨_, rfl⟩
    have hD1 : 1 ≤ D := by have := dv_pos hs; omega
    have hD2 : D ≤ 1000 := by have := dv_le hs; omega
    have hDz : ¬ D = 0 := by omega
    have hDb : (D == 0) = false := by simp [hDz]
    have kw := quo_w (show 0 ≤ wh by have := hs.2.1; omega) hs.2.1.2 hD1
    have kw2 : IntKind.i64.wrap (wh.tdiv D) = wh / D := by rw [IntWalk.i64_left]; exact kw
    have HDV := Lib.hid (fun (W : World) (hb : Below w.heap.size w W) => divisor X Y wh _ xss W (HV0.out.below hb) HS.out)
    rw [hD] at HE HT HBO HDV
    have HMK := Lib.hid (fun (g : Nat) (W : World) (hb0 : Below w.heap.size w W) (hP : Blk W w.heap.size 24 #[.int .i64 (X : Int), .int .i64 (Y : Int), .int .i64 wh, .slice A vn vc]) (hg : W.cell? ⟨g, 0, none⟩ = some (.int .i64 D)) => make_any w.heap.size g X Y (wh / D) (N xss D) W (by omega) (by omega) (fun i j W' hi hj hb =>
      clo w.heap.size g X Y wh D _ xss i j W' (hP.below hb) (below_cell hb _ _ hg) (HV0.out.below (below_tr hb0 hb)) HS.out hD1 hD2 hi hj))
    clear hs hD h9
    go_enter Try.func85, Try.ntmps85
    go_wp2_with fail
    refine CP.out.mono ?_
    rintro e w0 ⟨rfl, hb0⟩
    have B1 := Lib.hid (below_tr B0.out hb0)
    have R1 := Lib.hid (R0.out.below hb0)
    have P1 := Lib.hid (P0.out.below hb0)
    obtain ⟨c0, c1, c2, c3, c4⟩ := four_cells P1.out
    rw [EB.out]
    clear hb0
    go_wp2_with fail
    refine (HDV.out _ B1.out).mono ?_
    rintro e w1 ⟨rfl, hb1⟩
    have B2 := Lib.hid (below_al (below_tr B1.out hb1) (.cells #[.int .i64 D] 3))
    have R2 := Lib.hid ((R1.out.below hb1).alloc (.cells #[.int .i64 D] 3))
    have P2 := Lib.hid ((P1.out.below hb1).alloc (.cells #[.int .i64 D] 3))
    have G2 := cell_of_one (Blk.new w1 3 #[.int .i64 D])
    have hz1 := (R1.out.below hb1).lt
    clear hb1 c0 c1 c2 c3 c4
    obtain ⟨c0, c1, c2, c3, c4⟩ := four_cells P2.out
    have HCALL := Lib.hid (HMK.out w1.heap.size (w1.alloc (.cells #[.int .i64 D] 3)).drew (below_dr B2.out) (P2.out.below (below_dr (Below.refl _ _))) (below_cell (below_dr (Below.refl _ _)) _ _ G2))
    go_wp2_with fail
    go_region_held3 (fun w' => w'.cell? ⟨w.heap.size, 0, none⟩ = some (.int .i64 (X : Int)) ∧ w'.cell? ⟨w.heap.size, 1, none⟩ = some (.int .i64 (Y : Int)) ∧ w'.cell? ⟨w.heap.size, 2, none⟩ = some (.int .i64 wh) ∧ w'.cell? ⟨w.heap.size, 3, none⟩ = some (.slice A vn vc) ∧ w'.cell? ⟨w1.heap.size, 0, none⟩ = some (.int .i64 D))
      ((refine step.offs5 (R := w.heap.size + 1) c0 c1 c2 c3 G2 (by simp) (by simp) (by simp) (by simp) (by simp; omega) ?_; repeat (first | (with_reducible exact step.Off.refl _ _) | (with_reducible refine step.Off.drew ?_) | (with_reducible refine step.Off.setCell ?_ _ _ rfl) | (with_reducible refine step.Off.below ?_ hb3) | (with_reducible refine step.Off.below ?_ hb4))))
      (first
        | (go_at_call 108; (with_reducible refine HCALL.out.mono ?_); rintro e w3 ⟨u, rfl, hu, hb3⟩; obtain ⟨ua, ul, uc, hue⟩ := hu.rows.shape; subst hue)
        | (go_at_call 81; (with_reducible refine (make.valid_yes X Y (wh / D) _ _ w3 hu.rows HT.out HBO.out).mono ?_); rintro e w4 ⟨rfl, hb4⟩; have R4 := R2.out.below (below_tr (below_tr (below_dr (Below.refl _ _)) hb3) hb4); obtain ⟨r0, r1, r2, r3, r4⟩ := four_cells R4; have rf : ∀ k, w4.frozen? ⟨w.heap.size + 1, k, none⟩ = false := fun k => Joins.unfrozen_of_block R4 k))
    have B4 := Lib.hid (below_tr B2.out (below_tr (below_tr (below_dr (Below.refl _ _)) hb3) hb4))
    have hz3 := hb4.size
    have U4 := Lib.hid ((hu.keep hb4).mono (B' := w.heap.size + 1 + 1) (by simp; omega) (Nat.le_refl _))
    clear hu hb3 hb4 R4 c0 c1 c2 c3 c4
    go_wp2_with fail
    refine bodyPost_ret (v := .tuple #[.agg #[.int .i64 (X : Int), .int .i64 (Y : Int), .int .i64 (wh / D), .slice ua ul uc], .bool true]) (by simp [results, Try.results85, go_sem, r0, r1, r2, r3]) rfl ?_
    rw [HE.out]
    refine ⟨_, rfl, ?_, ?_⟩
    · refine (U4.out.wrote (S := fun p => p.block < w.heap.size + 1 + 1) ?_ (fun p hp => .inl hp)).mono (by omega) (by simpa [World.setCell] using hz3)
      repeat (first | exact Wrote.refl _ _ | refine Wrote.setCell ?_ (by simp) _)
    · repeat (refine Below.setCell ?_ (by simp <;> omega) _)
      exact B4.out
  · have EB := Lib.hid (boxB_no hs)
    have HE := Lib.hid (res_no hs)
    clear hs
    go_enter Try.func85, Try.ntmps85
    go_wp2_with fail
    refine CP.out.mono ?_
    rintro e w0 ⟨rfl, hb0⟩
    have B1 := Lib.hid (below_tr B0.out hb0)
    have R1 := Lib.hid (R0.out.below hb0)
    obtain ⟨r0, r1, r2, r3, r4⟩ := four_cells R1.out
    have rf : ∀ k, w0.frozen? ⟨w.heap.size + 1, k, none⟩ = false := fun k => Joins.unfrozen_of_block R1.out k
    rw [EB.out]
    clear hb0
    go_wp2_with fail
    refine bodyPost_ret (v := .tuple #[.agg #[.int .i64 0, .int .i64 0, .int .i64 0, .slice none 0 0], .bool false]) (by simp [results, Try.results85, go_sem, r0, r1, r2, r3]) rfl ?_
    rw [HE.out]
    refine ⟨_, rfl, OwnRows.nil _ _ _, ?_⟩
    repeat (first | (with_reducible exact B1.out) | refine Below.setCell ?_ (by simp <;> omega) _)

end Go.Proofs.Ytlaaiahkdkhehaa.red
