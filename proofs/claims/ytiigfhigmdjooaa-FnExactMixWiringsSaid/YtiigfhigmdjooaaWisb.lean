/- l10Both and WireBoxes of the model. -/
import Derived.Test.YtiigfhigmdjooaaWis
import Derived.Test.YtiigfhigmdjooaaStr
namespace Go.Proofs.Ytiigfhigmdjooaa.wis
open Go.RowKit Go.Deep Go.Proofs.Ytiigfhigmdjooaa.base
open Go.Proofs.Ytiigfhigmdjooaa.ints (ret_int infoInt infoInts)
open Go.Proofs.Ytiigfhigmdjooaa.rws (total)
open Go.Proofs.Ytiigfhigmdjooaa.val (okBox okSizes)
open Go.Proofs.Ytiigfhigmdjooaa.two (two twoB twoB_yes twoB_no)
open Go.Proofs.Ytiigfhigmdjooaa.wrm (rule ruleB ruleB_yes ruleB_no N res res_yes res_no both)
open Go.Proofs.Ytiigfhigmdjooaa.scene (three_cells)
open Go.Proofs.Ytiigfhigmdjooaa.rule (RV)

def ok2 (x y wh : Int) (xss : List (List Int)) (x' y' wh' : Int) (yss : List (List Int)) : Prop := both x y wh xss x' y' wh' yss ∧ wh * wh' ≤ 1000
open Classical in
noncomputable def ok2B (x y wh : Int) (xss : List (List Int)) (x' y' wh' : Int) (yss : List (List Int)) : Bool := if ok2 x y wh xss x' y' wh' yss then true else false
theorem ok2B_yes {x y wh : Int} {xss : List (List Int)} {x' y' wh' : Int} {yss : List (List Int)} (h : ok2 x y wh xss x' y' wh' yss) : ok2B x y wh xss x' y' wh' yss = true := if_pos h
theorem ok2B_no {x y wh : Int} {xss : List (List Int)} {x' y' wh' : Int} {yss : List (List Int)} (h : ¬ ok2 x y wh xss x' y' wh' yss) : ok2B x y wh xss x' y' wh' yss = false := if_neg h


set_option maxHeartbeats 4000000 in
theorem l10Both (x y wh : Int) (v : Value) (xss : List (List Int)) (x' y' wh' : Int) (v' : Value) (yss : List (List Int)) (w : World) (h : IRows w v xss) (h' : IRows w v' yss) (hn : total xss ≤ 1048576) (hn' : total yss ≤ 1048576) :
    Calls Try.prog 68 #[.agg #[.int .i64 x, .int .i64 y, .int .i64 wh, v], .agg #[.int .i64 x', .int .i64 y', .int .i64 wh', v']] w fun e w' => e = .returned (.bool (ok2B x y wh xss x' y' wh' yss)) ∧ Below w.heap.size w w' := by
  obtain ⟨va, vn, vc, rfl⟩ := h.shape
  obtain ⟨ua, un, uc, rfl⟩ := h'.shape
  have HV := Lib.hid h
  have HU := Lib.hid h'
  clear h h'
  have B2 := Lib.hid (below_al (below_al (Below.refl w.heap.size w) (.cells #[.int .i64 x, .int .i64 y, .int .i64 wh, .slice va vn vc] 28)) (.cells #[.int .i64 x', .int .i64 y', .int .i64 wh', .slice ua un uc] 28))
  have P1 := Lib.hid ((Blk.new w 28 #[.int .i64 x, .int .i64 y, .int .i64 wh, .slice va vn vc]).alloc (.cells #[.int .i64 x', .int .i64 y', .int .i64 wh', .slice ua un uc] 28))
  have P2 : Hid (Blk ((w.alloc (.cells #[.int .i64 x, .int .i64 y, .int .i64 wh, .slice va vn vc] 28)).alloc (.cells #[.int .i64 x', .int .i64 y', .int .i64 wh', .slice ua un uc] 28)) (w.heap.size + 1) 28 #[.int .i64 x', .int .i64 y', .int .i64 wh', .slice ua un uc]) := Lib.hid (by have := Blk.new (w.alloc (.cells #[.int .i64 x, .int .i64 y, .int .i64 wh, .slice va vn vc] 28)) 28 #[.int .i64 x', .int .i64 y', .int .i64 wh', .slice ua un uc]; simpa using this)
  obtain ⟨w2, hw2⟩ : ∃ w2, ((w.alloc (.cells #[.int .i64 x, .int .i64 y, .int .i64 wh, .slice va vn vc] 28)).alloc (.cells #[.int .i64 x', .int .i64 y', .int .i64 wh', .slice ua un uc] 28)) = w2 := ⟨_, rfl⟩
  rw [hw2] at B2 P1 P2
  have CA := two.l6two x y wh _ xss w2 (HV.out.below B2.out) hn
  have CB := fun (W : World) (hb : Below w2.heap.size w2 W) => two.l6two x' y' wh' _ yss W (HU.out.below (below_tr B2.out hb)) hn'
  by_cases g1 : two x y wh xss
  · rw [twoB_yes g1] at CA
    have HA := Lib.hid CA
    by_cases g2 : two x' y' wh' yss
    · simp only [twoB_yes g2] at CB
      have HB := Lib.hid CB
      have hwb := wrm.wh_bd g1 g2
      have kw : IntKind.i64.wrap (wh * wh') = wh * wh' := IntWalk.i64_in _ (by omega)
      by_cases g3 : wh * wh' ≤ 1000
      · have HE : Hid (ok2B x y wh xss x' y' wh' yss = true) := Lib.hid (ok2B_yes ⟨⟨g1, g2⟩, g3⟩)
        have dz : decide (wh * wh' ≤ 1000) = true := by simp [g3]
        clear CA CB g1 g2 g3 hwb
        go_enter Try.func68, Try.ntmps68
        obtain ⟨c0, c1, c2, c3, c4⟩ := four_cells P1.out
        go_wp2_with fail
        clear hw2
        refine HA.out.mono ?_
        rintro e w3 ⟨rfl, hb⟩
        have W3 := Lib.hid hb
        clear hb c0 c1 c2 c3 c4
        obtain ⟨d0, d1, d2, d3, d4⟩ := four_cells (P2.out.below W3.out)
        go_wp2_with fail
        refine (HB.out _ W3.out).mono ?_
        rintro e w4 ⟨rfl, hb⟩
        have W4 := Lib.hid (below_tr W3.out hb)
        clear hb d0 d1 d2 d3 d4
        obtain ⟨c0, c1, c2, c3, c4⟩ := four_cells (P1.out.below W4.out)
        obtain ⟨d0, d1, d2, d3, d4⟩ := four_cells (P2.out.below W4.out)
        go_wp2_with fail
        go_ret
        exact ⟨val.ret_b HE.out.symm, below_tr B2.out W4.out⟩
      · have HE : Hid (ok2B x y wh xss x' y' wh' yss = false) := Lib.hid (ok2B_no (fun h => g3 h.2))
        have dz : decide (wh * wh' ≤ 1000) = false := by simp; omega
        clear CA CB g1 g2 g3 hwb
        go_enter Try.func68, Try.ntmps68
        obtain ⟨c0, c1, c2, c3, c4⟩ := four_cells P1.out
        go_wp2_with fail
        clear hw2
        refine HA.out.mono ?_
        rintro e w3 ⟨rfl, hb⟩
        have W3 := Lib.hid hb
        clear hb c0 c1 c2 c3 c4
        obtain ⟨d0, d1, d2, d3, d4⟩ := four_cells (P2.out.below W3.out)
        go_wp2_with fail
        refine (HB.out _ W3.out).mono ?_
        rintro e w4 ⟨rfl, hb⟩
        have W4 := Lib.hid (below_tr W3.out hb)
        clear hb d0 d1 d2 d3 d4
        obtain ⟨c0, c1, c2, c3, c4⟩ := four_cells (P1.out.below W4.out)
        obtain ⟨d0, d1, d2, d3, d4⟩ := four_cells (P2.out.below W4.out)
        go_wp2_with fail
        go_ret
        exact ⟨val.ret_b HE.out.symm, below_tr B2.out W4.out⟩
    · simp only [twoB_no g2] at CB
      have HB := Lib.hid CB
      have HE : Hid (ok2B x y wh xss x' y' wh' yss = false) := Lib.hid (ok2B_no (fun h => g2 h.1.2))
      clear CA CB g1 g2
      go_enter Try.func68, Try.ntmps68
      obtain ⟨c0, c1, c2, c3, c4⟩ := four_cells P1.out
      go_wp2_with fail
      clear hw2
      refine HA.out.mono ?_
      rintro e w3 ⟨rfl, hb⟩
      have W3 := Lib.hid hb
      clear hb c0 c1 c2 c3 c4
      obtain ⟨d0, d1, d2, d3, d4⟩ := four_cells (P2.out.below W3.out)
      go_wp2_with fail
      refine (HB.out _ W3.out).mono ?_
      rintro e w4 ⟨rfl, hb⟩
      have W4 := Lib.hid (below_tr W3.out hb)
      clear hb d0 d1 d2 d3 d4
      go_wp2_with fail
      go_ret
      exact ⟨val.ret_b HE.out.symm, below_tr B2.out W4.out⟩
  · rw [twoB_no g1] at CA
    have HA := Lib.hid CA
    have HE : Hid (ok2B x y wh xss x' y' wh' yss = false) := Lib.hid (ok2B_no (fun h => g1 h.1.1))
    clear CA CB g1
    go_enter Try.func68, Try.ntmps68
    obtain ⟨c0, c1, c2, c3, c4⟩ := four_cells P1.out
    go_wp2_with fail
    clear hw2
    refine HA.out.mono ?_
    rintro e w3 ⟨rfl, hb⟩
    have W3 := Lib.hid hb
    clear hb c0 c1 c2 c3 c4
    go_wp2_with fail
    go_ret
    exact ⟨val.ret_b HE.out.symm, below_tr B2.out W3.out⟩



set_option maxRecDepth 100000 in
set_option maxHeartbeats 8000000 in
theorem spec_low (x y wh : Int) (v : Value) (xss : List (List Int)) (x' y' wh' : Int) (v' : Value) (yss : List (List Int)) (sv1 : Value) (f1 : List Int) (u1 : Value) (k1 : List (List Int)) (nv1 : Value) (s1 : List (List Int)) (sv2 : Value) (f2 : List Int) (u2 : Value) (k2 : List (List Int)) (nv2 : Value) (s2 : List (List Int)) (w : World) (h : IRows w v xss) (h' : IRows w v' yss) (hn : total xss ≤ 1048576) (hn' : total yss ≤ 1048576) (hr1 : RV w sv1 f1 u1 k1 nv1 s1) (hr2 : RV w sv2 f2 u2 k2 nv2 s2) :
    Calls Try.prog 69 #[.agg #[.int .i64 x, .int .i64 y, .int .i64 wh, v], .agg #[.int .i64 x', .int .i64 y', .int .i64 wh', v'], .agg #[sv1, u1, nv1], .agg #[sv2, u2, nv2]] w fun e w' => ∃ r, e = .returned (.tuple #[.agg #[.int .i64 (res x y wh xss x' y' wh' yss f1 k1 s1 f2 k2 s2).x, .int .i64 (res x y wh xss x' y' wh' yss f1 k1 s1 f2 k2 s2).y, .int .i64 (res x y wh xss x' y' wh' yss f1 k1 s1 f2 k2 s2).wh, r], .bool (res x y wh xss x' y' wh' yss f1 k1 s1 f2 k2 s2).ok]) ∧ st3.Lo w' w.heap.size r (res x y wh xss x' y' wh' yss f1 k1 s1 f2 k2 s2).rows ∧ Below w.heap.size w w' := by
  obtain ⟨va, vn, vc, rfl⟩ := h.shape
  obtain ⟨ua, un, uc, rfl⟩ := h'.shape
  obtain ⟨a0, a1, a2, a3, a4, a5, a6, a7, a8, rfl, rfl, rfl⟩ := hr1.shape
  obtain ⟨b0, b1, b2, b3, b4, b5, b6, b7, b8, rfl, rfl, rfl⟩ := hr2.shape
  have HV := Lib.hid h
  have HU := Lib.hid h'
  have HR1 := Lib.hid hr1
  have HR2 := Lib.hid hr2
  clear h h' hr1 hr2
  have B5 := Lib.hid (show Below w.heap.size w (((((w.alloc (.cells #[.int .i64 x, .int .i64 y, .int .i64 wh, .slice va vn vc] 28)).alloc (.cells #[.int .i64 x', .int .i64 y', .int .i64 wh', .slice ua un uc] 28)).alloc (.cells #[.slice a0 a1 a2, .slice a3 a4 a5, .slice a6 a7 a8] 88)).alloc (.cells #[.slice b0 b1 b2, .slice b3 b4 b5, .slice b6 b7 b8] 88)).alloc (.cells #[.int .i64 0, .int .i64 0, .int .i64 0, .slice none 0 0] 28)) from by repeat (first | exact Below.refl _ _ | refine below_al ?_ _))
  obtain ⟨w5, hw5⟩ : ∃ w5, (((((w.alloc (.cells #[.int .i64 x, .int .i64 y, .int .i64 wh, .slice va vn vc] 28)).alloc (.cells #[.int .i64 x', .int .i64 y', .int .i64 wh', .slice ua un uc] 28)).alloc (.cells #[.slice a0 a1 a2, .slice a3 a4 a5, .slice a6 a7 a8] 88)).alloc (.cells #[.slice b0 b1 b2, .slice b3 b4 b5, .slice b6 b7 b8] 88)).alloc (.cells #[.int .i64 0, .int .i64 0, .int .i64 0, .slice none 0 0] 28)) = w5 := ⟨_, rfl⟩
  have P1 : Hid (Blk w5 w.heap.size 28 #[.int .i64 x, .int .i64 y, .int .i64 wh, .slice va vn vc]) := Lib.hid (by rw [← hw5]; exact ((((Blk.new w 28 #[.int .i64 x, .int .i64 y, .int .i64 wh, .slice va vn vc]).alloc _).alloc _).alloc _).alloc _)
  have P2 : Hid (Blk w5 (w.heap.size + 1) 28 #[.int .i64 x', .int .i64 y', .int .i64 wh', .slice ua un uc]) := Lib.hid (by rw [← hw5]; have := (((Blk.new (w.alloc (.cells #[.int .i64 x, .int .i64 y, .int .i64 wh, .slice va vn vc] 28)) 28 #[.int .i64 x', .int .i64 y', .int .i64 wh', .slice ua un uc]).alloc (.cells #[.slice a0 a1 a2, .slice a3 a4 a5, .slice a6 a7 a8] 88)).alloc (.cells #[.slice b0 b1 b2, .slice b3 b4 b5, .slice b6 b7 b8] 88)).alloc (.cells #[.int .i64 0, .int .i64 0, .int .i64 0, .slice none 0 0] 28); simpa using this)
  have P3 : Hid (Blk w5 (w.heap.size + 1 + 1) 88 #[.slice a0 a1 a2, .slice a3 a4 a5, .slice a6 a7 a8]) := Lib.hid (by rw [← hw5]; have := ((Blk.new ((w.alloc (.cells #[.int .i64 x, .int .i64 y, .int .i64 wh, .slice va vn vc] 28)).alloc (.cells #[.int .i64 x', .int .i64 y', .int .i64 wh', .slice ua un uc] 28)) 88 #[.slice a0 a1 a2, .slice a3 a4 a5, .slice a6 a7 a8]).alloc (.cells #[.slice b0 b1 b2, .slice b3 b4 b5, .slice b6 b7 b8] 88)).alloc (.cells #[.int .i64 0, .int .i64 0, .int .i64 0, .slice none 0 0] 28); simpa using this)
  have P4 : Hid (Blk w5 (w.heap.size + 1 + 1 + 1) 88 #[.slice b0 b1 b2, .slice b3 b4 b5, .slice b6 b7 b8]) := Lib.hid (by rw [← hw5]; have := (Blk.new (((w.alloc (.cells #[.int .i64 x, .int .i64 y, .int .i64 wh, .slice va vn vc] 28)).alloc (.cells #[.int .i64 x', .int .i64 y', .int .i64 wh', .slice ua un uc] 28)).alloc (.cells #[.slice a0 a1 a2, .slice a3 a4 a5, .slice a6 a7 a8] 88)) 88 #[.slice b0 b1 b2, .slice b3 b4 b5, .slice b6 b7 b8]).alloc (.cells #[.int .i64 0, .int .i64 0, .int .i64 0, .slice none 0 0] 28); simpa using this)
  have P5 : Hid (Blk w5 (w.heap.size + 1 + 1 + 1 + 1) 28 #[.int .i64 0, .int .i64 0, .int .i64 0, .slice none 0 0]) := Lib.hid (by rw [← hw5]; have := Blk.new ((((w.alloc (.cells #[.int .i64 x, .int .i64 y, .int .i64 wh, .slice va vn vc] 28)).alloc (.cells #[.int .i64 x', .int .i64 y', .int .i64 wh', .slice ua un uc] 28)).alloc (.cells #[.slice a0 a1 a2, .slice a3 a4 a5, .slice a6 a7 a8] 88)).alloc (.cells #[.slice b0 b1 b2, .slice b3 b4 b5, .slice b6 b7 b8] 88)) 28 #[.int .i64 0, .int .i64 0, .int .i64 0, .slice none 0 0]; simpa using this)
  rw [hw5] at B5
  have CA := l10Both x y wh _ xss x' y' wh' _ yss w5 (HV.out.below B5.out) (HU.out.below B5.out) hn hn'
  have CC := fun (W : World) (hb : Below w5.heap.size w5 W) => rul.spec_is _ f1 _ k1 _ s1 W (HR1.out.below (below_tr B5.out hb))
  have CD := fun (W : World) (hb : Below w5.heap.size w5 W) => rul.spec_is _ f2 _ k2 _ s2 W (HR2.out.below (below_tr B5.out hb))
  by_cases g1 : ok2 x y wh xss x' y' wh' yss
  · rw [ok2B_yes g1] at CA
    have HA := Lib.hid CA
    by_cases g3 : rule f1 k1 s1
    · simp only [ruleB_yes g3] at CC
      have HC := Lib.hid CC
      by_cases g4 : rule f2 k2 s2
      · simp only [ruleB_yes g4] at CD
        have HD := Lib.hid CD
        clear CA CC CD
        obtain ⟨⟨g1, g2⟩, h3⟩ := g1
        have G1 := Lib.hid g1
        have G2 := Lib.hid g2
        have G3 := Lib.hid g3
        have G4 := Lib.hid g4
        obtain ⟨_, rfl, rfl⟩ := g1
        obtain ⟨_, rfl, rfl⟩ := g2
        have HE := Lib.hid (res_yes (x := 2) (y := 2) (wh := wh) (xss := xss) (x' := 2) (y' := 2) (wh' := wh') (yss := yss) ⟨⟨⟨G1.out, G2.out⟩, G3.out, G4.out⟩, h3⟩)
        have HWR := Lib.hid (fun (W : World) (hb : Below w5.heap.size w5 W) => l10Wire wh wh' _ xss _ yss _ f1 _ k1 _ s1 _ f2 _ k2 _ s2 W (HV.out.below (below_tr B5.out hb)) (HU.out.below (below_tr B5.out hb)) G1.out G2.out (HR1.out.below (below_tr B5.out hb)) (HR2.out.below (below_tr B5.out hb)) G3.out G4.out)
        clear g3 g4 h3
        go_enter Try.func69, Try.ntmps69
        obtain ⟨c0, c1, c2, c3, c4⟩ := four_cells P1.out
        obtain ⟨d0, d1, d2, d3, d4⟩ := four_cells P2.out
        go_wp2_with fail
        clear hw5
        refine HA.out.mono ?_
        rintro e w6 ⟨rfl, hb⟩
        have W6 := Lib.hid hb
        clear hb c0 c1 c2 c3 c4 d0 d1 d2 d3 d4
        obtain ⟨c0, c1, c2, c3⟩ := three_cells (P3.out.below W6.out)
        go_wp2_with fail
        refine (HC.out _ W6.out).mono ?_
        rintro e w7 ⟨rfl, hb⟩
        have W7 := Lib.hid (below_tr W6.out hb)
        clear hb c0 c1 c2 c3
        obtain ⟨c0, c1, c2, c3⟩ := three_cells (P4.out.below W7.out)
        go_wp2_with fail
        refine (HD.out _ W7.out).mono ?_
        rintro e w8 ⟨rfl, hb⟩
        have W8 := Lib.hid (below_tr W7.out hb)
        clear hb c0 c1 c2 c3
        obtain ⟨c0, c1, c2, c3, c4⟩ := four_cells (P1.out.below W8.out)
        obtain ⟨d0, d1, d2, d3, d4⟩ := four_cells (P2.out.below W8.out)
        obtain ⟨m0, m1, m2, m3⟩ := three_cells (P3.out.below W8.out)
        obtain ⟨n0, n1, n2, n3⟩ := three_cells (P4.out.below W8.out)
        go_wp2_with fail
        refine (HWR.out _ W8.out).mono ?_
        rintro e w9 ⟨u, rfl, hu, hb⟩
        have W9 := Lib.hid (below_tr W8.out hb)
        have HA9 := Lib.hid hu
        have R9 := Lib.hid (P5.out.below W9.out)
        have BW := Lib.hid (below_tr B5.out W9.out)
        have Z8 := Lib.hid W8.out.size
        have Z5 := Lib.hid P5.out.lt
        obtain ⟨xa, xl, xc, rfl⟩ := hu.rows.shape
        obtain ⟨r0, r1, r2, r3, r4⟩ := four_cells R9.out
        have rf : ∀ q, w9.frozen? ⟨w.heap.size + 1 + 1 + 1 + 1, q, none⟩ = false := fun q => Joins.unfrozen_of_block R9.out q
        clear hb hu c0 c1 c2 c3 c4 d0 d1 d2 d3 d4 m0 m1 m2 m3 n0 n1 n2 n3 HWR
        go_wp2_with fail
        refine bodyPost_ret (v := .tuple #[.agg #[.int .i64 2, .int .i64 2, .int .i64 (wh * wh'), .slice xa xl xc], .bool true]) (by simp [results, Try.results69, go_sem, r0, r1, r2, r3]) rfl ?_
        rw [HE.out]
        refine ⟨_, rfl, ?_, ?_⟩
        · refine fun w' hw => ((HA9.out.low (Wrote.trans ?_ (hw.mono (fun p hp => by have hp' : p.block < w.heap.size := hp; have := Z8.out; have := Z5.out; show p.block < _; omega)))).rows)
          repeat (first | exact Wrote.refl _ _ | refine Wrote.setCell ?_ (by have := Z8.out; have := Z5.out; simp; omega) _)
        · repeat (first | (with_reducible exact BW.out) | refine Below.setCell ?_ (by simp <;> omega) _)
      · simp only [ruleB_no g4] at CD
        have HD := Lib.hid CD
        have HE := Lib.hid (res_no (x := x) (y := y) (wh := wh) (xss := xss) (x' := x') (y' := y') (wh' := wh') (yss := yss) (f1 := f1) (k1 := k1) (s1 := s1) (f2 := f2) (k2 := k2) (s2 := s2) (fun h => g4 h.1.2.2))
        clear CA CC CD g1 g3 g4
        go_enter Try.func69, Try.ntmps69
        obtain ⟨c0, c1, c2, c3, c4⟩ := four_cells P1.out
        obtain ⟨d0, d1, d2, d3, d4⟩ := four_cells P2.out
        go_wp2_with fail
        clear hw5
        refine HA.out.mono ?_
        rintro e w6 ⟨rfl, hb⟩
        have W6 := Lib.hid hb
        clear hb c0 c1 c2 c3 c4 d0 d1 d2 d3 d4
        obtain ⟨c0, c1, c2, c3⟩ := three_cells (P3.out.below W6.out)
        go_wp2_with fail
        refine (HC.out _ W6.out).mono ?_
        rintro e w7 ⟨rfl, hb⟩
        have W7 := Lib.hid (below_tr W6.out hb)
        clear hb c0 c1 c2 c3
        obtain ⟨c0, c1, c2, c3⟩ := three_cells (P4.out.below W7.out)
        go_wp2_with fail
        refine (HD.out _ W7.out).mono ?_
        rintro e w8 ⟨rfl, hb⟩
        have W8 := Lib.hid (below_tr W7.out hb)
        clear hb c0 c1 c2 c3
        have BW := Lib.hid (below_tr B5.out W8.out)
        have R9 := Lib.hid (P5.out.below W8.out)
        obtain ⟨r0, r1, r2, r3, r4⟩ := four_cells R9.out
        have rf : ∀ q, w8.frozen? ⟨w.heap.size + 1 + 1 + 1 + 1, q, none⟩ = false := fun q => Joins.unfrozen_of_block R9.out q
        go_wp2_with fail
        refine bodyPost_ret (v := .tuple #[.agg #[.int .i64 0, .int .i64 0, .int .i64 0, .slice none 0 0], .bool false]) (by simp [results, Try.results69, go_sem, r0, r1, r2, r3]) rfl ?_
        rw [HE.out]
        refine ⟨_, rfl, st3.Lo.nil _ _, ?_⟩
        repeat (first | (with_reducible exact BW.out) | refine Below.setCell ?_ (by simp <;> omega) _)
    · simp only [ruleB_no g3] at CC
      have HC := Lib.hid CC
      have HE := Lib.hid (res_no (x := x) (y := y) (wh := wh) (xss := xss) (x' := x') (y' := y') (wh' := wh') (yss := yss) (f1 := f1) (k1 := k1) (s1 := s1) (f2 := f2) (k2 := k2) (s2 := s2) (fun h => g3 h.1.2.1))
      clear CA CC CD g1 g3
      go_enter Try.func69, Try.ntmps69
      obtain ⟨c0, c1, c2, c3, c4⟩ := four_cells P1.out
      obtain ⟨d0, d1, d2, d3, d4⟩ := four_cells P2.out
      go_wp2_with fail
      clear hw5
      refine HA.out.mono ?_
      rintro e w6 ⟨rfl, hb⟩
      have W6 := Lib.hid hb
      clear hb c0 c1 c2 c3 c4 d0 d1 d2 d3 d4
      obtain ⟨c0, c1, c2, c3⟩ := three_cells (P3.out.below W6.out)
      go_wp2_with fail
      refine (HC.out _ W6.out).mono ?_
      rintro e w7 ⟨rfl, hb⟩
      have W7 := Lib.hid (below_tr W6.out hb)
      clear hb c0 c1 c2 c3
      have BW := Lib.hid (below_tr B5.out W7.out)
      have R9 := Lib.hid (P5.out.below W7.out)
      obtain ⟨r0, r1, r2, r3, r4⟩ := four_cells R9.out
      have rf : ∀ q, w7.frozen? ⟨w.heap.size + 1 + 1 + 1 + 1, q, none⟩ = false := fun q => Joins.unfrozen_of_block R9.out q
      go_wp2_with fail
      refine bodyPost_ret (v := .tuple #[.agg #[.int .i64 0, .int .i64 0, .int .i64 0, .slice none 0 0], .bool false]) (by simp [results, Try.results69, go_sem, r0, r1, r2, r3]) rfl ?_
      rw [HE.out]
      refine ⟨_, rfl, st3.Lo.nil _ _, ?_⟩
      repeat (first | (with_reducible exact BW.out) | refine Below.setCell ?_ (by simp <;> omega) _)
  · rw [ok2B_no g1] at CA
    have HA := Lib.hid CA
    have HE := Lib.hid (res_no (x := x) (y := y) (wh := wh) (xss := xss) (x' := x') (y' := y') (wh' := wh') (yss := yss) (f1 := f1) (k1 := k1) (s1 := s1) (f2 := f2) (k2 := k2) (s2 := s2) (fun h => g1 ⟨h.1.1, h.2⟩))
    clear CA CC CD g1
    go_enter Try.func69, Try.ntmps69
    obtain ⟨c0, c1, c2, c3, c4⟩ := four_cells P1.out
    obtain ⟨d0, d1, d2, d3, d4⟩ := four_cells P2.out
    go_wp2_with fail
    clear hw5
    refine HA.out.mono ?_
    rintro e w6 ⟨rfl, hb⟩
    have W6 := Lib.hid hb
    clear hb c0 c1 c2 c3 c4 d0 d1 d2 d3 d4
    have BW := Lib.hid (below_tr B5.out W6.out)
    have R9 := Lib.hid (P5.out.below W6.out)
    obtain ⟨r0, r1, r2, r3, r4⟩ := four_cells R9.out
    have rf : ∀ q, w6.frozen? ⟨w.heap.size + 1 + 1 + 1 + 1, q, none⟩ = false := fun q => Joins.unfrozen_of_block R9.out q
    go_wp2_with fail
    refine bodyPost_ret (v := .tuple #[.agg #[.int .i64 0, .int .i64 0, .int .i64 0, .slice none 0 0], .bool false]) (by simp [results, Try.results69, go_sem, r0, r1, r2, r3]) rfl ?_
    rw [HE.out]
    refine ⟨_, rfl, st3.Lo.nil _ _, ?_⟩
    repeat (first | (with_reducible exact BW.out) | refine Below.setCell ?_ (by simp <;> omega) _)


end Go.Proofs.Ytiigfhigmdjooaa.wis
