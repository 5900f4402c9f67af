/- SumBoxes of the model. -/
import Derived.Test.YtneonebgneonkaaSba
import Derived.Test.YtneonebgneonkaaWisb
import Derived.Test.YtneonebgneonkaaMad
namespace Go.Proofs.Ytneonebgneonkaa.sbs
open Go.RowKit Go.Deep Go.Proofs.Ytneonebgneonkaa.base
open Go.Proofs.Ytneonebgneonkaa.rws (total)
open Go.Proofs.Ytneonebgneonkaa.smm
open Go.Proofs.Ytneonebgneonkaa.two (two)
open Go.Proofs.Ytneonebgneonkaa.sba (res2)
open Go.Proofs.Ytneonebgneonkaa.wis (ok2 ok2B ok2B_yes ok2B_no)
open Go.Proofs.Ytneonebgneonkaa.rule (RV)

theorem named3 (W : World) : Calls Try.prog 73 #[.int .i64 3] W fun e w' => ∃ sv u nv, e = .returned (.agg #[sv, u, nv]) ∧ RV w' sv F u K nv S ∧ Below W.heap.size W w' :=
  (rby.l10Named 3 W).mono fun _ _ ⟨sv, u, nv, he, h, hb⟩ => ⟨sv, u, nv, he, h _ (Wrote.refl _ _), hb⟩
theorem held8b {B : Nat} {w w' : World} {p1 p2 p3 p4 p5 p6 p7 p8 : Addr} {u1 u2 u3 u4 u5 u6 u7 u8 : Value} (h1 : w.cell? p1 = some u1) (h2 : w.cell? p2 = some u2) (h3 : w.cell? p3 = some u3) (h4 : w.cell? p4 = some u4) (h5 : w.cell? p5 = some u5) (h6 : w.cell? p6 = some u6) (h7 : w.cell? p7 = some u7) (h8 : w.cell? p8 = some u8)
    (l1 : p1.block < B) (l2 : p2.block < B) (l3 : p3.block < B) (l4 : p4.block < B) (l5 : p5.block < B) (l6 : p6.block < B) (l7 : p7.block < B) (l8 : p8.block < B) (hb : Below B w w') :
    w'.cell? p1 = some u1 ∧ w'.cell? p2 = some u2 ∧ w'.cell? p3 = some u3 ∧ w'.cell? p4 = some u4 ∧ w'.cell? p5 = some u5 ∧ w'.cell? p6 = some u6 ∧ w'.cell? p7 = some u7 ∧ w'.cell? p8 = some u8 ∧ Below B w w' :=
  ⟨(hb.cell l1).trans h1, (hb.cell l2).trans h2, (hb.cell l3).trans h3, (hb.cell l4).trans h4, (hb.cell l5).trans h5, (hb.cell l6).trans h6, (hb.cell l7).trans h7, (hb.cell l8).trans h8, hb⟩
theorem bB_dr {B : Nat} {w w' : World} (h : Below B w w') : Below B w w'.drew := h.drew
theorem bB_tr {B : Nat} {w w1 w2 : World} (h : Below B w w1) (hB : B ≤ w1.heap.size) (h2 : Below w1.heap.size w1 w2) : Below B w w2 := h.trans (h2.mono hB)


set_option maxRecDepth 100000 in
set_option maxHeartbeats 8000000 in
theorem spec_low (x y wh : Int) (v : Value) (xss : List (List Int)) (x' y' wh' : Int) (v' : Value) (yss : List (List Int)) (w : World) (h : IRows w v xss) (h' : IRows w v' yss) (hn : total xss ≤ 1048576) (hn' : total yss ≤ 1048576) :
    Calls Try.prog 41 #[.agg #[.int .i64 x, .int .i64 y, .int .i64 wh, v], .agg #[.int .i64 x', .int .i64 y', .int .i64 wh', v']] w fun e w' => ∃ r, e = .returned (.tuple #[.agg #[.int .i64 (res2 x y wh xss x' y' wh' yss).x, .int .i64 (res2 x y wh xss x' y' wh' yss).y, .int .i64 (res2 x y wh xss x' y' wh' yss).wh, r], .bool (res2 x y wh xss x' y' wh' yss).ok]) ∧ st3.Lo w' w.heap.size r (res2 x y wh xss x' y' wh' yss).rows ∧ Below w.heap.size w w' := by
  obtain ⟨va, vn, vc, rfl⟩ := h.shape
  obtain ⟨ua, un, uc, rfl⟩ := h'.shape
  have HV := Lib.hid h
  have HU := Lib.hid h'
  clear h h'
  have B3 := Lib.hid (show Below w.heap.size w (((w.alloc (.cells #[.int .i64 x, .int .i64 y, .int .i64 wh, .slice va vn vc] 48)).alloc (.cells #[.int .i64 x', .int .i64 y', .int .i64 wh', .slice ua un uc] 48)).alloc (.cells #[.int .i64 0, .int .i64 0, .int .i64 0, .slice none 0 0] 48)) from by repeat (first | exact Below.refl _ _ | refine below_al ?_ _))
  obtain ⟨w3, hw3⟩ : ∃ w3, (((w.alloc (.cells #[.int .i64 x, .int .i64 y, .int .i64 wh, .slice va vn vc] 48)).alloc (.cells #[.int .i64 x', .int .i64 y', .int .i64 wh', .slice ua un uc] 48)).alloc (.cells #[.int .i64 0, .int .i64 0, .int .i64 0, .slice none 0 0] 48)) = w3 := ⟨_, rfl⟩
  have P1 : Hid (Blk w3 w.heap.size 48 #[.int .i64 x, .int .i64 y, .int .i64 wh, .slice va vn vc]) := Lib.hid (by rw [← hw3]; exact ((Blk.new w 48 #[.int .i64 x, .int .i64 y, .int .i64 wh, .slice va vn vc]).alloc _).alloc _)
  have P2 : Hid (Blk w3 (w.heap.size + 1) 48 #[.int .i64 x', .int .i64 y', .int .i64 wh', .slice ua un uc]) := Lib.hid (by rw [← hw3]; have := (Blk.new (w.alloc (.cells #[.int .i64 x, .int .i64 y, .int .i64 wh, .slice va vn vc] 48)) 48 #[.int .i64 x', .int .i64 y', .int .i64 wh', .slice ua un uc]).alloc (.cells #[.int .i64 0, .int .i64 0, .int .i64 0, .slice none 0 0] 48); simpa using this)
  have P3 : Hid (Blk w3 (w.heap.size + 1 + 1) 48 #[.int .i64 0, .int .i64 0, .int .i64 0, .slice none 0 0]) := Lib.hid (by rw [← hw3]; have := Blk.new ((w.alloc (.cells #[.int .i64 x, .int .i64 y, .int .i64 wh, .slice va vn vc] 48)).alloc (.cells #[.int .i64 x', .int .i64 y', .int .i64 wh', .slice ua un uc] 48)) 48 #[.int .i64 0, .int .i64 0, .int .i64 0, .slice none 0 0]; simpa using this)
  rw [hw3] at B3
  have CA := wis.l10Both x y wh _ xss x' y' wh' _ yss w3 (HV.out.below B3.out) (HU.out.below B3.out) hn hn'
  by_cases g1 : ok2 x y wh xss x' y' wh' yss
  · rw [ok2B_yes g1] at CA
    have HA := Lib.hid CA
    have HE : Hid (res2 x y wh xss x' y' wh' yss = ⟨2, 2, wh * wh', make.rowsOf (wrm.N xss yss F K S F K S) 4, true⟩) := Lib.hid (wrm.res_yes ⟨⟨g1.1, rule_sum, rule_sum⟩, g1.2⟩)
    obtain ⟨⟨g1, g2⟩, _⟩ := g1
    have G1 := Lib.hid g1
    have G2 := Lib.hid g2
    obtain ⟨_, rfl, rfl⟩ := g1
    obtain ⟨_, rfl, rfl⟩ := g2
    have HWR := Lib.hid (fun (W : World) (hb : Below w.heap.size w W) (sv1 u1 nv1 sv2 u2 nv2 : Value) (r1 : RV W sv1 F u1 K nv1 S) (r2 : RV W sv2 F u2 K nv2 S) => wis.l10Wire wh wh' _ xss _ yss sv1 F u1 K nv1 S sv2 F u2 K nv2 S W (HV.out.below hb) (HU.out.below hb) G1.out G2.out r1 r2 rule_sum rule_sum)
    have HN3 := Lib.hid named3
    clear CA
    go_enter Try.func41, Try.ntmps41
    obtain ⟨c0, c1, c2, c3, c4⟩ := four_cells P1.out
    obtain ⟨d0, d1, d2, d3, d4⟩ := four_cells P2.out
    go_wp2_with fail
    clear hw3
    refine HA.out.mono ?_
    rintro e w4 ⟨rfl, hb⟩
    have W4 := Lib.hid hb
    have B4 := Lib.hid (below_tr B3.out hb)
    have R4 := Lib.hid (P3.out.below hb)
    have L4 : w.heap.size + 1 + 1 < w4.heap.size := R4.out.lt
    clear hb c0 c1 c2 c3 c4 d0 d1 d2 d3 d4
    obtain ⟨c0, c1, c2, c3, c4⟩ := four_cells (P1.out.below W4.out)
    obtain ⟨d0, d1, d2, d3, d4⟩ := four_cells (P2.out.below W4.out)
    have l0 : w.heap.size < w.heap.size + 1 + 1 := by omega
    have l1 : w.heap.size + 1 < w.heap.size + 1 + 1 := by omega
    have HL4 := Lib.hid (show w.heap.size + 1 + 1 ≤ w4.heap.size from Nat.le_of_lt L4)
    clear L4
    go_wp2_with fail
    go_region_held3 (fun w' => w'.cell? ⟨w.heap.size, 0, none⟩ = some (.int .i64 2) ∧ w'.cell? ⟨w.heap.size, 1, none⟩ = some (.int .i64 2) ∧ w'.cell? ⟨w.heap.size, 2, none⟩ = some (.int .i64 wh) ∧ w'.cell? ⟨w.heap.size, 3, none⟩ = some (.slice va vn vc) ∧ w'.cell? ⟨w.heap.size + 1, 0, none⟩ = some (.int .i64 2) ∧ w'.cell? ⟨w.heap.size + 1, 1, none⟩ = some (.int .i64 2) ∧ w'.cell? ⟨w.heap.size + 1, 2, none⟩ = some (.int .i64 wh') ∧ w'.cell? ⟨w.heap.size + 1, 3, none⟩ = some (.slice ua un uc) ∧ Below (w.heap.size + 1 + 1) w4 w')
      ((refine held8b c0 c1 c2 c3 d0 d1 d2 d3 l0 l0 l0 l0 l1 l1 l1 l1 ?_; repeat (first | (with_reducible exact Below.refl _ _) | (with_reducible refine Below.setCell ?_ (by simp) _) | (with_reducible refine bB_dr ?_) | (with_reducible exact E9.out) | (with_reducible exact E8.out) | (with_reducible exact E7.out))))
      (first
        | (go_at_call 84; (with_reducible refine (HWR.out _ (below_tr B4.out (below_tr (below_tr (below_dr (Below.refl _ _)) hb7) hb8)) _ _ _ _ _ _ (h7.below hb8) h8).mono ?_); rintro e w9 ⟨r9, rfl, h9, hb9⟩; obtain ⟨xa, xn, xc, rfl⟩ := h9.rows.shape; have E9 := Lib.hid (bB_tr E8.out (Nat.le_trans HL4.out (below_tr (below_tr (below_dr (Below.refl w4.heap.size w4)) hb7) hb8).size) hb9); have R9 := Lib.hid (R4.out.below (below_tr (below_tr (below_tr (below_dr (Below.refl w4.heap.size w4)) hb7) hb8) hb9)); obtain ⟨r0, r1, r2, r3, r4⟩ := four_cells R9.out; have rf : ∀ q, w9.frozen? ⟨w.heap.size + 1 + 1, q, none⟩ = false := fun q => Joins.unfrozen_of_block R9.out q)
        | (go_at_call 73; (with_reducible refine (HN3.out _).mono ?_); have hh7 := hb7; rintro e w8 ⟨sv8, u8, nv8, rfl, h8, hb8⟩; obtain ⟨a0, a1, a2, a3, a4, a5, a6, a7, a8, rfl, rfl, rfl⟩ := h8.shape; have E8 := Lib.hid (bB_tr E7.out (Nat.le_trans HL4.out (below_tr (below_dr (Below.refl w4.heap.size w4)) hb7).size) hb8))
        | (go_at_call 73; (with_reducible refine (HN3.out _).mono ?_); rintro e w7 ⟨sv7, u7, nv7, rfl, h7, hb7⟩; obtain ⟨b0, b1, b2, b3, b4, b5, b6, b7, b8, rfl, rfl, rfl⟩ := h7.shape; have E7 := Lib.hid (bB_tr (bB_dr (Below.refl (w.heap.size + 1 + 1) w4)) HL4.out hb7)))
    have BW := Lib.hid (below_tr B4.out (below_tr (below_tr (below_tr (below_dr (Below.refl w4.heap.size w4)) hb7) hb8) hb9))
    have HL := Lib.hid (show w.heap.size + 1 + 1 + 1 ≤ w8.heap.size + 1 from by have := R4.out.lt; have := (below_tr (below_tr (below_dr (Below.refl w4.heap.size w4)) hb7) hb8).size; omega)
    have H9 := Lib.hid h9
    clear hb7 hb8 hb9 h7 h8 h9
    go_wp2_with fail
    refine bodyPost_ret (v := .tuple #[.agg #[.int .i64 2, .int .i64 2, .int .i64 (wh * wh'), .slice xa xn xc], .bool true]) (by simp [results, Try.results41, go_sem, r0, r1, r2, r3]) rfl ?_
    rw [HE.out]
    refine ⟨_, rfl, ?_, ?_⟩
    · refine fun w' hw => ((H9.out.low (Wrote.trans ?_ (hw.mono (fun p hp => by have hp' : p.block < w.heap.size := hp; have := HL.out; show p.block < _; omega)))).rows)
      repeat (first | exact Wrote.refl _ _ | refine Wrote.setCell ?_ (by have := HL.out; simp; omega) _)
    · repeat (first | (with_reducible exact BW.out) | refine Below.setCell ?_ (by simp <;> omega) _)
  · rw [ok2B_no g1] at CA
    have HA := Lib.hid CA
    have HE : Hid (res2 x y wh xss x' y' wh' yss = make.Res.zero) := Lib.hid (wrm.res_no (fun h => g1 ⟨h.1.1, h.2⟩))
    clear CA g1
    go_enter Try.func41, Try.ntmps41
    obtain ⟨c0, c1, c2, c3, c4⟩ := four_cells P1.out
    obtain ⟨d0, d1, d2, d3, d4⟩ := four_cells P2.out
    go_wp2_with fail
    clear hw3
    refine HA.out.mono ?_
    rintro e w4 ⟨rfl, hb⟩
    have BW := Lib.hid (below_tr B3.out hb)
    have R9 := Lib.hid (P3.out.below hb)
    clear hb c0 c1 c2 c3 c4 d0 d1 d2 d3 d4
    obtain ⟨r0, r1, r2, r3, r4⟩ := four_cells R9.out
    have rf : ∀ q, w4.frozen? ⟨w.heap.size + 1 + 1, q, none⟩ = false := fun q => Joins.unfrozen_of_block R9.out q
    go_wp2_with fail
    refine bodyPost_ret (v := .tuple #[.agg #[.int .i64 0, .int .i64 0, .int .i64 0, .slice none 0 0], .bool false]) (by simp [results, Try.results41, go_sem, r0, r1, r2, r3]) rfl ?_
    rw [HE.out]
    refine ⟨_, rfl, st3.Lo.nil _ _, ?_⟩
    repeat (first | (with_reducible exact BW.out) | refine Below.setCell ?_ (by simp <;> omega) _)


end Go.Proofs.Ytneonebgneonkaa.sbs
