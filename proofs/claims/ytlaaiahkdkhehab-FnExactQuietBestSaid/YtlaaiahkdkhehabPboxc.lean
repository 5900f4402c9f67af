/- PlayBox of the model. -/
import Derived.Test.YtlaaiahkdkhehabPbox
namespace Go.Proofs.Ytlaaiahkdkhehab.pbox
open Go.RowKit Go.Deep Go.Proofs.Ytlaaiahkdkhehab.base
open Go.Proofs.Ytlaaiahkdkhehab.ints (ret_int infoInt infoInts)
open Go.Proofs.Ytlaaiahkdkhehab.val (okSizes okBox)
open Go.Proofs.Ytlaaiahkdkhehab.play (within withinB withinB_yes withinB_no isPlay isPlay_yes isPlay_no)



set_option maxRecDepth 100000 in
set_option maxHeartbeats 8000000 in
theorem l2playbox (v : Value) (ps : List Int) (X Y : Nat) (wh : Int) (w : World) (h : Ints w v ps) (hl : ps.length = X + Y) (hp : ∀ k (h : k < ps.length), 0 ≤ ps[k] ∧ ps[k] ≤ 1) (hX : X ≤ 3) (hY : Y ≤ 3) :
    Calls Try.prog 155 #[.int .i64 (X : Int), .int .i64 (Y : Int), v, .int .i64 wh] w fun e w' => ∃ r, e = .returned (.agg #[.int .i64 (X : Int), .int .i64 (Y : Int), .int .i64 wh, r]) ∧ OwnRows w' (w.heap.size + 1) w'.heap.size r (make.rowsOf (N ps X Y wh) (X * Y)) ∧ Below w.heap.size w w' := by
  obtain ⟨i0, hi, hz0, hz1, hz2⟩ := info_parts infoInts
  obtain ⟨A, b, o, cap, rfl, _, _, hA, hc⟩ := h.form
  clear h
  have h9 := Lib.hid (Nat.mul_le_mul hX hY)
  have HW0 : Hid (make.Way w (((w.alloc (.cells #[.int .i64 0, .int .i64 0, .int .i64 0, .slice none 0 0] 40)).alloc (.cells #[] 22)).alloc (.cells #[.int .i64 (X : Int), .int .i64 (Y : Int), .int .i64 wh, .slice (some ⟨w.heap.size + 1, 0, none⟩) 0 0] 40)) (w.heap.size + 1 + 1) X Y wh (0 * Y) (.slice (some ⟨w.heap.size + 1, 0, none⟩) 0 0) [] (N ps X Y wh)) := Lib.hid (by
    refine ⟨below_al (below_al (below_al (Below.refl _ _) _) _) _, by omega, ?_, ?_, ?_, fun r u hu => by simp at hu, fun r s g g' _ hu => by simp at hu⟩
    · have := Blk.new ((w.alloc (.cells #[.int .i64 0, .int .i64 0, .int .i64 0, .slice none 0 0] 40)).alloc (.cells #[] 22)) 40 #[.int .i64 (X : Int), .int .i64 (Y : Int), .int .i64 wh, .slice (some ⟨w.heap.size + 1, 0, none⟩) 0 0]
      simpa using this
    · exact ((Blk.new w 40 #[.int .i64 0, .int .i64 0, .int .i64 0, .slice none 0 0]).alloc _).alloc _
    · have := World.ownsRow_made (base := w.heap.size + 1) (e := 22) (size := 1) (w.alloc (.cells #[.int .i64 0, .int .i64 0, .int .i64 0, .slice none 0 0] 40)) #[] 0 (by simp) (Nat.zero_le _) rfl
      have := this.alloc (.cells #[.int .i64 (X : Int), .int .i64 (Y : Int), .int .i64 wh, .slice (some ⟨w.heap.size + 1, 0, none⟩) 0 0] 40)
      simpa using this)
  have HC := Lib.hid hc
  have HP := Lib.hid hp
  have HL := Lib.hid hl
  clear hc hp hl
  go_enter Try.func155, Try.ntmps155
  go_wp2_with fail
  go_loopw [10] (fun i wr => ∃ a : Nat, a ≤ X ∧ i = .int .i64 a ∧ ∃ v vals, Hid (make.Way w wr (w.heap.size + 1 + 1) X Y wh (a * Y) v vals (N ps X Y wh))) (fun i _ => X - (intOf i).toNat)
  case atStart => exact ⟨0, Nat.zero_le _, rfl, _, _, HW0⟩
  case round =>
    obtain ⟨a, ha, rfl, v, vals, hW⟩ := hrel
    clear HW0
    obtain ⟨wo, rfl⟩ : ∃ wo : World, wo = wr := ⟨_, rfl⟩
    by_cases hlt : a < X
    · have hkz : (a : Int) < (X : Int) := by omega
      go_wp2_with fail
      go_loopw [11] (fun j wi => ∃ c : Nat, c ≤ Y ∧ j = .int .i64 c ∧ ∃ v vals, Hid (make.Way w wi (w.heap.size + 1 + 1) X Y wh (a * Y + c) v vals (N ps X Y wh))) (fun j _ => Y - (intOf j).toNat)
      case atStart => exact ⟨0, Nat.zero_le _, rfl, _, _, hW⟩
      case round =>
        obtain ⟨c, hcl, rfl, v, vals, hW⟩ := hrel
        by_cases hlc : c < Y
        · have hkc : (c : Int) < (Y : Int) := by omega
          have hl := HL.out
          obtain rfl := hA (by omega)
          have hmk := make.mk4
          obtain ⟨d, hd⟩ : ∃ d, d = X + c := ⟨_, rfl⟩
          have hal : a < ps.length := by omega
          have hdl : d < ps.length := by omega
          have g1 := below_cell hW.out.below _ _ (HC.out a hal)
          have g2 := below_cell hW.out.below _ _ (HC.out d hdl)
          have g1' := fun (o1 : Obj) => below_cell (below_al (Below.refl _ _) o1) _ _ g1
          have g2' := fun (o1 : Obj) => below_cell (below_al (Below.refl _ _) o1) _ _ g2
          have i1 : (a : Int) < (ps.length : Int) := by omega
          have i2 : (d : Int) < (ps.length : Int) := by omega
          have k1 : IntKind.i64.wrap ((X : Int) + (c : Int)) = (d : Int) := by rw [IntWalk.i64_in _ (by omega)]; omega
          obtain fp := HP.out a hal
          obtain fq := HP.out d hdl
          have hN : ∀ k, N ps X Y wh (a * Y + c) k = if (k : Int) = 2 * ps[a] + ps[d] then wh else 0 := fun k => by rw [N_at _ _ _ _ _ _ _ hlc, ← hd, getD_at hal, getD_at hdl]
          have hk9 : a * Y + c < 9 := by
            have e1 : a * Y + c < (a + 1) * Y := by rw [Nat.add_mul]; omega
            have e2 : (a + 1) * Y ≤ X * Y := Nat.mul_le_mul_right _ (by omega)
            have := h9.out
            omega
          have HK9 := Lib.hid hk9
          clear hd hl
          generalize ps[a] = p at *
          generalize ps[d] = q at *
          have HN := Lib.hid hN
          clear hk9 hN hal hdl
          go_wp2_with fail
          obtain rfl | rfl : p = 0 ∨ p = 1 := by omega
          · obtain rfl | rfl : q = 0 ∨ q = 1 := by omega
            · clear fp fq
              go_region
              have hb : Below wr.heap.size wr ((wr.alloc (.cells #[.int .i64 wh, .int .i64 0, .int .i64 0, .int .i64 0] 3)).drew) := by
                repeat (first | exact Below.refl _ _ | refine below_dr ?_ | refine below_al ?_ _)
              have hri : ((wr.alloc (.cells #[.int .i64 wh, .int .i64 0, .int .i64 0, .int .i64 0] 3)).drew).rowIs wr.heap.size 3 4 (fun j => .int .i64 ((make.quad (N ps X Y wh) (a * Y + c)).getD j 0)) := by
                have eN := HN.out
                refine ⟨#[.int .i64 wh, .int .i64 0, .int .i64 0, .int .i64 0], heap_alloc_new wr.drew _, rfl, fun i hi => ?_⟩
                match i, hi with
                | 0, _ => simp [make.quad, eN]
                | 1, _ => simp [make.quad, eN]
                | 2, _ => simp [make.quad, eN]
                | 3, _ => simp [make.quad, eN]
              have W1 := Lib.hid (hW.out.keep hb)
              have HRI := Lib.hid hri
              have hsw : ((wr.alloc (.cells #[.int .i64 wh, .int .i64 0, .int .i64 0, .int .i64 0] 3)).drew).heap.size = wr.heap.size + 1 := by simp
              generalize hwd : (wr.alloc (.cells #[.int .i64 wh, .int .i64 0, .int .i64 0, .int .i64 0] 3)).drew = wd at *
              obtain ⟨wd', rfl⟩ : ∃ wd' : World, wd' = wd := ⟨_, rfl⟩
              have HFR : Hid (∀ (r g' : Nat), vals[r]? = some (Value.slice (some ⟨g', 0, none⟩) 4 4) → g' ≠ wr.heap.size) := Lib.hid (fun r g' hu => by
                obtain ⟨g, e, _, hr⟩ := hW.out.row r _ hu
                injection e with e; injection e with e; injection e with e
                have := hr.lt; omega)
              have hwz := hW.out.below.size
              have hwz2 := hW.out.blk.lt
              have HSW := Lib.hid hsw
              clear hW g1 g2 g1' g2' hwd hb hri hmk hsw
              generalize hg : wr.heap.size = g at *
              clear hg
              obtain ⟨c0, c1, c2, c3, c4⟩ := four_cells W1.out.blk
              have c3' := fun (o1 : Obj) => below_cell (below_al (Below.refl _ _) o1) _ _ c3
              have c5 : w.heap.size + 1 + 1 < wd'.heap.size := by have := HSW.out; omega
              go_wp2_with (at_builtin; go_must (refine wpList_append_own _ rfl (.tmp 45) (.tmp 47) 23 rfl (w.heap.size + 1) 22 i0 (.slice none 0 0) 1 24 Try.underlying23 hi hz0 hz1 hz2 rfl (by decide) _ _ _ rfl ((W1.out.owns).alloc _) ⟨wd'.heap.size, 0, none⟩ 1 1 [.slice (some ⟨g, 0, none⟩) 4 4] rfl rfl ?e1x0 ?e2x0 ?e3x0 ?e4x0 ?e5x0 ?_))
              case e1x0 =>
                have := app.one_at wd' (.slice (some ⟨g, 0, none⟩) 4 4) 22
                simpa using this
              case e2x0 => first | rfl | (intro u hu; simp at hu; subst hu; rfl) | simp
              case e3x0 => have := HK9.out; unfold maxLen; omega
              case e4x0 => have := HK9.out; omega
              case e5x0 => first | omega | (simp; omega)
              intro v' w3 hown' hgrow _
              have HG := Lib.hid (W1.out.keep (below_al (Below.refl _ _) (.cells #[.slice (some ⟨g, 0, none⟩) 4 4] 22)))
              have HRR := Lib.hid (HRI.out.alloc (.cells #[.slice (some ⟨g, 0, none⟩) 4 4] 22))
              obtain ⟨f1, f2⟩ := HG.out.field hgrow
              have W4 := Lib.hid (HG.out.grow HRR.out (by omega) HFR.out hown' hgrow)
              obtain ⟨va, vl, vc, rfl⟩ := make.shape hown'
              clear hown' hgrow W1 HG HRR HFR HRI c0 c1 c2 c3 c4 c3' c5
              go_wp2_with fail
              go_roundw
              case rel => exact ⟨c + 1, by omega, by go_num, _, _, W4⟩
              case measure => simp [intOf]; omega
            · clear fp fq
              go_region
              have hb : Below wr.heap.size wr ((wr.alloc (.cells #[.int .i64 0, .int .i64 wh, .int .i64 0, .int .i64 0] 3)).drew) := by
                repeat (first | exact Below.refl _ _ | refine below_dr ?_ | refine below_al ?_ _)
              have hri : ((wr.alloc (.cells #[.int .i64 0, .int .i64 wh, .int .i64 0, .int .i64 0] 3)).drew).rowIs wr.heap.size 3 4 (fun j => .int .i64 ((make.quad (N ps X Y wh) (a * Y + c)).getD j 0)) := by
                have eN := HN.out
                refine ⟨#[.int .i64 0, .int .i64 wh, .int .i64 0, .int .i64 0], heap_alloc_new wr.drew _, rfl, fun i hi => ?_⟩
                match i, hi with
                | 0, _ => simp [make.quad, eN]
                | 1, _ => simp [make.quad, eN]
                | 2, _ => simp [make.quad, eN]
                | 3, _ => simp [make.quad, eN]
              have W1 := Lib.hid (hW.out.keep hb)
              have HRI := Lib.hid hri
              have hsw : ((wr.alloc (.cells #[.int .i64 0, .int .i64 wh, .int .i64 0, .int .i64 0] 3)).drew).heap.size = wr.heap.size + 1 := by simp
              generalize hwd : (wr.alloc (.cells #[.int .i64 0, .int .i64 wh, .int .i64 0, .int .i64 0] 3)).drew = wd at *
              obtain ⟨wd', rfl⟩ : ∃ wd' : World, wd' = wd := ⟨_, rfl⟩
              have HFR : Hid (∀ (r g' : Nat), vals[r]? = some (Value.slice (some ⟨g', 0, none⟩) 4 4) → g' ≠ wr.heap.size) := Lib.hid (fun r g' hu => by
                obtain ⟨g, e, _, hr⟩ := hW.out.row r _ hu
                injection e with e; injection e with e; injection e with e
                have := hr.lt; omega)
              have hwz := hW.out.below.size
              have hwz2 := hW.out.blk.lt
              have HSW := Lib.hid hsw
              clear hW g1 g2 g1' g2' hwd hb hri hmk hsw
              generalize hg : wr.heap.size = g at *
              clear hg
              obtain ⟨c0, c1, c2, c3, c4⟩ := four_cells W1.out.blk
              have c3' := fun (o1 : Obj) => below_cell (below_al (Below.refl _ _) o1) _ _ c3
              have c5 : w.heap.size + 1 + 1 < wd'.heap.size := by have := HSW.out; omega
              go_wp2_with (at_builtin; go_must (refine wpList_append_own _ rfl (.tmp 45) (.tmp 47) 23 rfl (w.heap.size + 1) 22 i0 (.slice none 0 0) 1 24 Try.underlying23 hi hz0 hz1 hz2 rfl (by decide) _ _ _ rfl ((W1.out.owns).alloc _) ⟨wd'.heap.size, 0, none⟩ 1 1 [.slice (some ⟨g, 0, none⟩) 4 4] rfl rfl ?e1x1 ?e2x1 ?e3x1 ?e4x1 ?e5x1 ?_))
              case e1x1 =>
                have := app.one_at wd' (.slice (some ⟨g, 0, none⟩) 4 4) 22
                simpa using this
              case e2x1 => first | rfl | (intro u hu; simp at hu; subst hu; rfl) | simp
              case e3x1 => have := HK9.out; unfold maxLen; omega
              case e4x1 => have := HK9.out; omega
              case e5x1 => first | omega | (simp; omega)
              intro v' w3 hown' hgrow _
              have HG := Lib.hid (W1.out.keep (below_al (Below.refl _ _) (.cells #[.slice (some ⟨g, 0, none⟩) 4 4] 22)))
              have HRR := Lib.hid (HRI.out.alloc (.cells #[.slice (some ⟨g, 0, none⟩) 4 4] 22))
              obtain ⟨f1, f2⟩ := HG.out.field hgrow
              have W4 := Lib.hid (HG.out.grow HRR.out (by omega) HFR.out hown' hgrow)
              obtain ⟨va, vl, vc, rfl⟩ := make.shape hown'
              clear hown' hgrow W1 HG HRR HFR HRI c0 c1 c2 c3 c4 c3' c5
              go_wp2_with fail
              go_roundw
              case rel => exact ⟨c + 1, by omega, by go_num, _, _, W4⟩
              case measure => simp [intOf]; omega
          · obtain rfl | rfl : q = 0 ∨ q = 1 := by omega
            · clear fp fq
              go_region
              have hb : Below wr.heap.size wr ((wr.alloc (.cells #[.int .i64 0, .int .i64 0, .int .i64 wh, .int .i64 0] 3)).drew) := by
                repeat (first | exact Below.refl _ _ | refine below_dr ?_ | refine below_al ?_ _)
              have hri : ((wr.alloc (.cells #[.int .i64 0, .int .i64 0, .int .i64 wh, .int .i64 0] 3)).drew).rowIs wr.heap.size 3 4 (fun j => .int .i64 ((make.quad (N ps X Y wh) (a * Y + c)).getD j 0)) := by
                have eN := HN.out
                refine ⟨#[.int .i64 0, .int .i64 0, .int .i64 wh, .int .i64 0], heap_alloc_new wr.drew _, rfl, fun i hi => ?_⟩
                match i, hi with
                | 0, _ => simp [make.quad, eN]
                | 1, _ => simp [make.quad, eN]
                | 2, _ => simp [make.quad, eN]
                | 3, _ => simp [make.quad, eN]
              have W1 := Lib.hid (hW.out.keep hb)
              have HRI := Lib.hid hri
              have hsw : ((wr.alloc (.cells #[.int .i64 0, .int .i64 0, .int .i64 wh, .int .i64 0] 3)).drew).heap.size = wr.heap.size + 1 := by simp
              generalize hwd : (wr.alloc (.cells #[.int .i64 0, .int .i64 0, .int .i64 wh, .int .i64 0] 3)).drew = wd at *
              obtain ⟨wd', rfl⟩ : ∃ wd' : World, wd' = wd := ⟨_, rfl⟩
              have HFR : Hid (∀ (r g' : Nat), vals[r]? = some (Value.slice (some ⟨g', 0, none⟩) 4 4) → g' ≠ wr.heap.size) := Lib.hid (fun r g' hu => by
                obtain ⟨g, e, _, hr⟩ := hW.out.row r _ hu
                injection e with e; injection e with e; injection e with e
                have := hr.lt; omega)
              have hwz := hW.out.below.size
              have hwz2 := hW.out.blk.lt
              have HSW := Lib.hid hsw
              clear hW g1 g2 g1' g2' hwd hb hri hmk hsw
              generalize hg : wr.heap.size = g at *
              clear hg
              obtain ⟨c0, c1, c2, c3, c4⟩ := four_cells W1.out.blk
              have c3' := fun (o1 : Obj) => below_cell (below_al (Below.refl _ _) o1) _ _ c3
              have c5 : w.heap.size + 1 + 1 < wd'.heap.size := by have := HSW.out; omega
              go_wp2_with (at_builtin; go_must (refine wpList_append_own _ rfl (.tmp 45) (.tmp 47) 23 rfl (w.heap.size + 1) 22 i0 (.slice none 0 0) 1 24 Try.underlying23 hi hz0 hz1 hz2 rfl (by decide) _ _ _ rfl ((W1.out.owns).alloc _) ⟨wd'.heap.size, 0, none⟩ 1 1 [.slice (some ⟨g, 0, none⟩) 4 4] rfl rfl ?e1x2 ?e2x2 ?e3x2 ?e4x2 ?e5x2 ?_))
              case e1x2 =>
                have := app.one_at wd' (.slice (some ⟨g, 0, none⟩) 4 4) 22
                simpa using this
              case e2x2 => first | rfl | (intro u hu; simp at hu; subst hu; rfl) | simp
              case e3x2 => have := HK9.out; unfold maxLen; omega
              case e4x2 => have := HK9.out; omega
              case e5x2 => first | omega | (simp; omega)
              intro v' w3 hown' hgrow _
              have HG := Lib.hid (W1.out.keep (below_al (Below.refl _ _) (.cells #[.slice (some ⟨g, 0, none⟩) 4 4] 22)))
              have HRR := Lib.hid (HRI.out.alloc (.cells #[.slice (some ⟨g, 0, none⟩) 4 4] 22))
              obtain ⟨f1, f2⟩ := HG.out.field hgrow
              have W4 := Lib.hid (HG.out.grow HRR.out (by omega) HFR.out hown' hgrow)
              obtain ⟨va, vl, vc, rfl⟩ := make.shape hown'
              clear hown' hgrow W1 HG HRR HFR HRI c0 c1 c2 c3 c4 c3' c5
              go_wp2_with fail
              go_roundw
              case rel => exact ⟨c + 1, by omega, by go_num, _, _, W4⟩
              case measure => simp [intOf]; omega
            · clear fp fq
              go_region
              have hb : Below wr.heap.size wr ((wr.alloc (.cells #[.int .i64 0, .int .i64 0, .int .i64 0, .int .i64 wh] 3)).drew) := by
                repeat (first | exact Below.refl _ _ | refine below_dr ?_ | refine below_al ?_ _)
              have hri : ((wr.alloc (.cells #[.int .i64 0, .int .i64 0, .int .i64 0, .int .i64 wh] 3)).drew).rowIs wr.heap.size 3 4 (fun j => .int .i64 ((make.quad (N ps X Y wh) (a * Y + c)).getD j 0)) := by
                have eN := HN.out
                refine ⟨#[.int .i64 0, .int .i64 0, .int .i64 0, .int .i64 wh], heap_alloc_new wr.drew _, rfl, fun i hi => ?_⟩
                match i, hi with
                | 0, _ => simp [make.quad, eN]
                | 1, _ => simp [make.quad, eN]
                | 2, _ => simp [make.quad, eN]
                | 3, _ => simp [make.quad, eN]
              have W1 := Lib.hid (hW.out.keep hb)
              have HRI := Lib.hid hri
              have hsw : ((wr.alloc (.cells #[.int .i64 0, .int .i64 0, .int .i64 0, .int .i64 wh] 3)).drew).heap.size = wr.heap.size + 1 := by simp
              generalize hwd : (wr.alloc (.cells #[.int .i64 0, .int .i64 0, .int .i64 0, .int .i64 wh] 3)).drew = wd at *
              obtain ⟨wd', rfl⟩ : ∃ wd' : World, wd' = wd := ⟨_, rfl⟩
              have HFR : Hid (∀ (r g' : Nat), vals[r]? = some (Value.slice (some ⟨g', 0, none⟩) 4 4) → g' ≠ wr.heap.size) := Lib.hid (fun r g' hu => by
                obtain ⟨g, e, _, hr⟩ := hW.out.row r _ hu
                injection e with e; injection e with e; injection e with e
                have := hr.lt; omega)
              have hwz := hW.out.below.size
              have hwz2 := hW.out.blk.lt
              have HSW := Lib.hid hsw
              clear hW g1 g2 g1' g2' hwd hb hri hmk hsw
              generalize hg : wr.heap.size = g at *
              clear hg
              obtain ⟨c0, c1, c2, c3, c4⟩ := four_cells W1.out.blk
              have c3' := fun (o1 : Obj) => below_cell (below_al (Below.refl _ _) o1) _ _ c3
              have c5 : w.heap.size + 1 + 1 < wd'.heap.size := by have := HSW.out; omega
              go_wp2_with (at_builtin; go_must (refine wpList_append_own _ rfl (.tmp 45) (.tmp 47) 23 rfl (w.heap.size + 1) 22 i0 (.slice none 0 0) 1 24 Try.underlying23 hi hz0 hz1 hz2 rfl (by decide) _ _ _ rfl ((W1.out.owns).alloc _) ⟨wd'.heap.size, 0, none⟩ 1 1 [.slice (some ⟨g, 0, none⟩) 4 4] rfl rfl ?e1x3 ?e2x3 ?e3x3 ?e4x3 ?e5x3 ?_))
              case e1x3 =>
                have := app.one_at wd' (.slice (some ⟨g, 0, none⟩) 4 4) 22
                simpa using this
              case e2x3 => first | rfl | (intro u hu; simp at hu; subst hu; rfl) | simp
              case e3x3 => have := HK9.out; unfold maxLen; omega
              case e4x3 => have := HK9.out; omega
              case e5x3 => first | omega | (simp; omega)
              intro v' w3 hown' hgrow _
              have HG := Lib.hid (W1.out.keep (below_al (Below.refl _ _) (.cells #[.slice (some ⟨g, 0, none⟩) 4 4] 22)))
              have HRR := Lib.hid (HRI.out.alloc (.cells #[.slice (some ⟨g, 0, none⟩) 4 4] 22))
              obtain ⟨f1, f2⟩ := HG.out.field hgrow
              have W4 := Lib.hid (HG.out.grow HRR.out (by omega) HFR.out hown' hgrow)
              obtain ⟨va, vl, vc, rfl⟩ := make.shape hown'
              clear hown' hgrow W1 HG HRR HFR HRI c0 c1 c2 c3 c4 c3' c5
              go_wp2_with fail
              go_roundw
              case rel => exact ⟨c + 1, by omega, by go_num, _, _, W4⟩
              case measure => simp [intOf]; omega
        · have hkc : ¬ (c : Int) < (Y : Int) := by omega
          have hcy : c = Y := by omega
          have HWn : Hid (make.Way w wr (w.heap.size + 1 + 1) X Y wh ((a + 1) * Y) v vals (N ps X Y wh)) := Lib.hid (by have := hW.out; rw [hcy] at this; rw [Nat.add_mul, Nat.one_mul]; exact this)
          clear hcy
          go_wp2_with fail
          go_roundw
          case rel => exact ⟨a + 1, by omega, by go_num, v, vals, HWn⟩
          case measure => simp [intOf]; omega
    · have hkz : ¬ (a : Int) < (X : Int) := by omega
      have haf : a = X := by omega
      have HWn : Hid (make.Way w wo (w.heap.size + 1 + 1) X Y wh (X * Y) v vals (N ps X Y wh)) := Lib.hid (by have := hW.out; rw [haf] at this; exact this)
      clear haf hW
      obtain ⟨va, vl, vc, rfl⟩ := make.shape HWn.out.owns
      obtain ⟨c0, c1, c2, c3, c4⟩ := four_cells HWn.out.blk
      obtain ⟨r0, r1, r2, r3, r4⟩ := four_cells HWn.out.res
      have rf : ∀ k, wo.frozen? ⟨w.heap.size, k, none⟩ = false := fun k => Joins.unfrozen_of_block HWn.out.res k
      have HD := Lib.hid HWn.out.done
      have HB := Lib.hid HWn.out.below
      clear HWn
      go_wp2_with fail
      refine bodyPost_ret (v := .agg #[.int .i64 (X : Int), .int .i64 (Y : Int), .int .i64 wh, .slice va vl vc]) (by simp [results, Try.results155, go_sem, r0, r1, r2, r3]) rfl ⟨_, rfl, ?_, ?_⟩
      · refine (HD.out.wrote (S := fun p => p.block < w.heap.size + 1) ?_ (fun p hp => .inl hp)).mono (Nat.le_refl _) (by simp [World.setCell])
        repeat (first | exact Wrote.refl _ _ | refine Wrote.setCell ?_ (by simp) _)
      · repeat (refine Below.setCell ?_ (by simp <;> omega) _)
        exact HB.out

end Go.Proofs.Ytlaaiahkdkhehab.pbox
