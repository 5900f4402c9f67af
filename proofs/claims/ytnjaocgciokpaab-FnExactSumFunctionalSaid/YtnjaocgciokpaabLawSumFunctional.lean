/- Proved here: for all arguments, the law FnExactSumFunctional returns true: the program's function answers as its model in every field, leaves its arguments as they were, and its answer owns its memory. Conditions: none beyond the row. -/
import Derived.Test.YtnjaocgciokpaabBox
import Derived.Test.YtnjaocgciokpaabSfs
import Derived.Test.YtnjaocgciokpaabSfp
import Derived.Test.YtnjaocgciokpaabOpen
import Derived.Test.YtnjaocgciokpaabRows
import Derived.Deep.RegionHeld3
namespace Go.Proofs.Ytnjaocgciokpaab.lawSumFunctional
open Go.ChangeShapes Go.WideShapes Go.ChangeAt Go.RowKit Go.Deep Go.Proofs.Ytnjaocgciokpaab.base
open Go.ChangeMaps (open_string shut_string)

set_option maxRecDepth 100000 in
set_option maxHeartbeats 4000000 in
theorem walk (a0 a1 p0 p1 q0 q1 a4 : Int) (w : World) :
    Calls Try.prog 4 #[.int .i64 a0, .int .i64 a1, .agg #[.int .i64 p0, .int .i64 p1], .agg #[.int .i64 q0, .int .i64 q1], .int .i64 a4] w fun e w' => e = .returned (.bool true) ∧ Below w.heap.size w w' := by
  have T0 := Lib.hid (sfm.Two2.start w p0 p1 q0 q1)
  obtain ⟨c0, c1, l0⟩ := prt.two_cells T0.out.one
  obtain ⟨d0, d1, l1⟩ := prt.two_cells T0.out.two
  go_enter Try.func4, Try.ntmps4
  go_wp2_with fail
  go_region_held3 (fun w' => w'.cell? ⟨w.heap.size, 0, none⟩ = some (.int .i64 p0) ∧ w'.cell? ⟨w.heap.size, 1, none⟩ = some (.int .i64 p1) ∧ w'.cell? ⟨w.heap.size + 1, 0, none⟩ = some (.int .i64 q0) ∧ w'.cell? ⟨w.heap.size + 1, 1, none⟩ = some (.int .i64 q1) ∧ Below ((w.alloc (.cells #[.int .i64 p0, .int .i64 p1] 32)).alloc (.cells #[.int .i64 q0, .int .i64 q1] 32)).heap.size ((w.alloc (.cells #[.int .i64 p0, .int .i64 p1] 32)).alloc (.cells #[.int .i64 q0, .int .i64 q1] 32)) w')
    ((refine sfm.held22 c0 c1 d0 d1 ?_; repeat (first | exact Below.refl _ _ | assumption | refine below_dr ?_ | refine below_tr ?_ (by assumption))))
    (first
      | (go_at_call 21; (with_reducible refine (prt.to_one p0 p1 _).mono ?_); rintro e wp1 ⟨rfl, hbp⟩)
      | (go_at_call 21; (with_reducible refine (prt.to_one q0 q1 _).mono ?_); rintro e wq1 ⟨rfl, hbq⟩)
      | (go_at_call 20; (with_reducible refine (sfs.spec_any a0 a1 p0 p1 q0 q1 a4 _).mono ?_); rintro e wf1 ⟨uW, rfl, hu, hb⟩; (have VWW := Lib.hid hu); obtain ⟨Wa, Wn, Wc, rfl⟩ := hu.shape; clear hu))
  all_goals
    have BX : Hid (Below ((w.alloc (.cells #[.int .i64 p0, .int .i64 p1] 32)).alloc (.cells #[.int .i64 q0, .int .i64 q1] 32)).heap.size ((w.alloc (.cells #[.int .i64 p0, .int .i64 p1] 32)).alloc (.cells #[.int .i64 q0, .int .i64 q1] 32)) wf1) := Lib.hid (by repeat (first | exact Below.refl _ _ | refine below_dr ?_ | refine below_tr ?_ (by assumption)))
    have BE2 := Lib.hid (below_tr T0.out.below BX.out)
    have T1 := Lib.hid (T0.out.keep BX.out)
    have ZZ2 : Hid (w.heap.size ≤ wf1.heap.size) := Lib.hid BE2.out.size
    have HBW := Lib.hid (Below.refl wf1.heap.size wf1)
    clear BX hb hbp hbq c0 c1 d0 d1 l0 l1
    obtain ⟨c0, c1, l0⟩ := prt.two_cells T1.out.one
    obtain ⟨d0, d1, l1⟩ := prt.two_cells T1.out.two
    go_wp2_with fail
    go_region_held3 (fun w' => w'.cell? ⟨w.heap.size, 0, none⟩ = some (.int .i64 p0) ∧ w'.cell? ⟨w.heap.size, 1, none⟩ = some (.int .i64 p1) ∧ w'.cell? ⟨w.heap.size + 1, 0, none⟩ = some (.int .i64 q0) ∧ w'.cell? ⟨w.heap.size + 1, 1, none⟩ = some (.int .i64 q1) ∧ Below wf1.heap.size wf1 w')
      ((refine sfm.held22 c0 c1 d0 d1 ?_; repeat (first | exact Below.refl _ _ | assumption | refine below_dr ?_ | refine below_tr ?_ (by assumption))))
      (first
        | (go_at_call 21; (with_reducible refine (prt.to_one p0 p1 _).mono ?_); rintro e wp3 ⟨rfl, hbp⟩)
        | (go_at_call 21; (with_reducible refine (prt.to_one q0 q1 _).mono ?_); rintro e wq3 ⟨rfl, hbq⟩)
        | (go_at_call 22; (with_reducible refine (sfp.impl_any a0 a1 p0 p1 q0 q1 a4 _).mono ?_); rintro e wf3 ⟨uG, rfl, hu, hb⟩; obtain ⟨uGa, uGn, uGc, rfl⟩ := hu.rows.shape))
    all_goals
      have BX : Hid (Below wf1.heap.size wf1 wf3) := Lib.hid (by repeat (first | exact Below.refl _ _ | refine below_dr ?_ | refine below_tr ?_ (by assumption)))
      have OWG := Lib.hid (hu.mono (B' := wf1.heap.size) (by have h1 := hbp.size; have h2 := hbq.size; simp at h1 h2 ⊢; omega) (Nat.le_refl _))
      have BE4 := Lib.hid (below_tr BE2.out BX.out)
      have HBW4 := Lib.hid (below_tr HBW.out BX.out)
      have ZZ4 : Hid (wf1.heap.size ≤ wf3.heap.size) := Lib.hid BX.out.size
      clear BE2 HBW hu hb BX hbp hbq c0 c1 d0 d1 l0 l1
      have tk0 : (((sfm.res a0 a1 p0 p1 q0 q1 a4).2) != ((sfm.res a0 a1 p0 p1 q0 q1 a4).2)) = false := bne_self_eq_false _
      go_wp2_with fail
      refine (rws.eq_same _ _ ((sfm.res a0 a1 p0 p1 q0 q1 a4).1) _ OWG.out.rows (VWW.out.below HBW4.out) (sfm.tot a0 a1 p0 p1 q0 q1 a4)).mono ?_
      rintro e we5 ⟨rfl, hb⟩
      have BE6 := Lib.hid (below_tr BE4.out hb)
      have HBW6 := Lib.hid (below_tr HBW4.out hb)
      have OWG6 := Lib.hid (OWG.out.keep hb)
      have ZZ6 : Hid (wf3.heap.size ≤ we5.heap.size) := Lib.hid (by have := (hb).size; simpa using this)
      clear BE4 HBW4 OWG
      clear hb
      have blr := Nat.le_trans (rws.before_le ((sfm.res a0 a1 p0 p1 q0 q1 a4).1) ((sfm.res a0 a1 p0 p1 q0 q1 a4).1).length) (sfm.tot a0 a1 p0 p1 q0 q1 a4)
      have dq : ¬ (1 + (rws.before ((sfm.res a0 a1 p0 p1 q0 q1 a4).1) ((sfm.res a0 a1 p0 p1 q0 q1 a4).1).length : Int) < 0) := by omega
      have tq : ((1 + (rws.before ((sfm.res a0 a1 p0 p1 q0 q1 a4).1) ((sfm.res a0 a1 p0 p1 q0 q1 a4).1).length : Int)) != (1 + (rws.before ((sfm.res a0 a1 p0 p1 q0 q1 a4).1) ((sfm.res a0 a1 p0 p1 q0 q1 a4).1).length : Int))) = false := bne_self_eq_false _
      go_wp2_with fail
      refine (rws.mark_any _ ((sfm.res a0 a1 p0 p1 q0 q1 a4).1) (1) (wf1.heap.size) (wf3.heap.size) _ OWG6.out (sfm.tot a0 a1 p0 p1 q0 q1 a4) (by omega) (by omega)).mono ?_
      rintro e wm7 ⟨rfl, hi, S, hw, hs⟩
      clear OWG6
      have BE9 := Lib.hid (BE6.out.trans (hw.below (fun p hp => by have := (hs p hp).1; have := ZZ2.out; have := ZZ4.out; have := ZZ6.out; omega)))
      have HBW9 := Lib.hid (HBW6.out.trans (hw.below (fun p hp => by have := (hs p hp).1; have := ZZ2.out; have := ZZ4.out; have := ZZ6.out; omega)))
      have ZZ9 : Hid (we5.heap.size ≤ wm7.heap.size) := Lib.hid (by have := hw.size; omega)
      clear BE6 HBW6
      clear hw hs
      have VWM := Lib.hid hi
      have HBM := Lib.hid (Below.refl wm7.heap.size wm7)
      clear hi
      go_wp2_with fail
      refine (calls_below (rws.held_any _ ((sfm.res a0 a1 p0 p1 q0 q1 a4).1) 1 _ (VWM.out.below HBM.out) (sfm.tot a0 a1 p0 p1 q0 q1 a4) (by omega) (by omega))).mono ?_
      rintro e wh10 ⟨rfl, hb⟩
      have BE11 := Lib.hid (below_tr BE9.out hb)
      have HBW11 := Lib.hid (below_tr HBW9.out hb)
      have HBM11 := Lib.hid (below_tr HBM.out hb)
      have ZZ11 : Hid (wm7.heap.size ≤ wh10.heap.size) := Lib.hid (by have := (hb).size; simpa using this)
      clear BE9 HBW9 HBM
      clear hb
      obtain ⟨c0, c1, l0⟩ := prt.two_cells (T1.out.keep HBW11.out).one
      obtain ⟨d0, d1, l1⟩ := prt.two_cells (T1.out.keep HBW11.out).two
      go_wp2_with fail
      go_region_held3 (fun w' => w'.cell? ⟨w.heap.size, 0, none⟩ = some (.int .i64 p0) ∧ w'.cell? ⟨w.heap.size, 1, none⟩ = some (.int .i64 p1) ∧ w'.cell? ⟨w.heap.size + 1, 0, none⟩ = some (.int .i64 q0) ∧ w'.cell? ⟨w.heap.size + 1, 1, none⟩ = some (.int .i64 q1) ∧ Below wh10.heap.size wh10 w')
        ((refine sfm.held22 c0 c1 d0 d1 ?_; repeat (first | exact Below.refl _ _ | assumption | refine below_dr ?_ | refine below_tr ?_ (by assumption))))
        (first
          | (go_at_call 21; (with_reducible refine (prt.to_one p0 p1 _).mono ?_); rintro e wp12 ⟨rfl, hbp⟩)
          | (go_at_call 21; (with_reducible refine (prt.to_one q0 q1 _).mono ?_); rintro e wq12 ⟨rfl, hbq⟩)
          | (go_at_call 22; (with_reducible refine (sfp.impl_any a0 a1 p0 p1 q0 q1 a4 _).mono ?_); rintro e wf12 ⟨uHh, rfl, hu, hb⟩; obtain ⟨uHha, uHhn, uHhc, rfl⟩ := hu.rows.shape))
      all_goals
        have BX : Hid (Below wh10.heap.size wh10 wf12) := Lib.hid (by repeat (first | exact Below.refl _ _ | refine below_dr ?_ | refine below_tr ?_ (by assumption)))
        have OWHh := Lib.hid (hu.mono (B' := wh10.heap.size) (by have h1 := hbp.size; have h2 := hbq.size; simp at h1 h2 ⊢; omega) (Nat.le_refl _))
        have BE13 := Lib.hid (below_tr BE11.out BX.out)
        have HBW13 := Lib.hid (below_tr HBW11.out BX.out)
        have HBM13 := Lib.hid (below_tr HBM11.out BX.out)
        have ZZ13 : Hid (wh10.heap.size ≤ wf12.heap.size) := Lib.hid BX.out.size
        clear BE11 HBW11 HBM11 hu hb BX hbp hbq c0 c1 d0 d1 l0 l1
        go_wp2_with fail
        refine (rws.eq_same _ _ ((sfm.res a0 a1 p0 p1 q0 q1 a4).1) _ OWHh.out.rows (VWW.out.below HBW13.out) (sfm.tot a0 a1 p0 p1 q0 q1 a4)).mono ?_
        rintro e we14 ⟨rfl, hb⟩
        have BE15 := Lib.hid (below_tr BE13.out hb)
        have HBW15 := Lib.hid (below_tr HBW13.out hb)
        have HBM15 := Lib.hid (below_tr HBM13.out hb)
        have OWHh15 := Lib.hid (OWHh.out.keep hb)
        have ZZ15 : Hid (wf12.heap.size ≤ we14.heap.size) := Lib.hid (by have := (hb).size; simpa using this)
        clear BE13 HBW13 HBM13 OWHh
        clear hb
        go_wp2_with fail
        refine (calls_below (rws.held_any _ ((sfm.res a0 a1 p0 p1 q0 q1 a4).1) 1 _ (VWM.out.below HBM15.out) (sfm.tot a0 a1 p0 p1 q0 q1 a4) (by omega) (by omega))).mono ?_
        rintro e wh16 ⟨rfl, hb⟩
        have BE17 := Lib.hid (below_tr BE15.out hb)
        have HBW17 := Lib.hid (below_tr HBW15.out hb)
        have HBM17 := Lib.hid (below_tr HBM15.out hb)
        have OWHh17 := Lib.hid (OWHh15.out.keep hb)
        have ZZ17 : Hid (we14.heap.size ≤ wh16.heap.size) := Lib.hid (by have := (hb).size; simpa using this)
        clear BE15 HBW15 HBM15 OWHh15
        clear hb
        go_wp2_with fail
        go_ret
        exact ⟨rfl, BE17.out⟩

/-! ### the frame of the row -/
set_option maxRecDepth 100000 in
theorem a2_of_trod {H : Type} {enc : TypeId × Value → H} {W : World} {b0 : Nat} {r : Reach} {v : Value} {dd : DataW H} {ps : List MemPlace} (hw : Value.okWide Try.prog W r b0 32 v) (h : DataW.Trod enc Try.prog W 0 (fun _ => true) true 32 v dd ps) :
    ∃ x y : Int, v = .agg #[.int .i64 x, .int .i64 y] := by
  obtain ⟨xs, rfl, hn⟩ := WideMaps.okWide_arr sfn.arrKey hw
  obtain ⟨fuel, hf⟩ := h
  obtain ⟨ys, k, _, _, _, hyl, hx⟩ := DataW.trod_array Try.underlying32 hf
  have cq : Try.prog.cellsOf 3 = 1 := by kernel_rfl
  have g0 := hx 0 (by omega)
  have g1 := hx 1 (by omega)
  rw [cq] at g0 g1
  obtain ⟨xl⟩ := xs
  match xl, hn, ys, hyl with
  | [v0, v1], _, [y0, y1], _ =>
    simp [Value.cells] at g0 g1
    obtain ⟨z0, r0, _⟩ := opn.int_of_trod1 Try.underlying3 g0
    obtain ⟨z1, r1, _⟩ := opn.int_of_trod1 Try.underlying3 g1
    subst r0; subst r1
    exact ⟨z0, z1, rfl⟩


theorem own : ownKnob Try.prog.godebug = none := by kernel_rfl
theorem laidOut : laidOutB Try.prog = true := by kernel_rfl
set_option maxRecDepth 100000 in
theorem lifted (os : Os) (started : os.Started) (H : Type) (enc : TypeId × Value → H) :
    ReturnsInHanded {} Try.checked os 4 .any (Rows.fnExactSumFunctionalSpec.pre6 enc Try.prog Try.f4 Rows.fnExactSumFunctionalRow.domain false) (Rows.fnExactSumFunctionalSpec.post enc Try.prog Try.f4 false true false false) := by
  refine returnsInHanded_of_change (C := Try.checked) own started (by kernel_rfl) Try.func4
    (ChangeSpec.witness6 (enc := enc) (C := Try.checked) false ⟨#[], #[.int .i64 0, .int .i64 0, .agg #[.int .i64 0, .int .i64 0], .agg #[.int .i64 0, .int .i64 0], .int .i64 0], []⟩ 8 (by kernel_rfl) (by kernel_rfl) (by kernel_rfl) (by kernel_rfl)) ?_
  intro W base args ds gs before hval0 hW _ _
  have hval : ∀ (j : Nat) t v, Try.f4.params[j]? = some t → args[j]? = some v → Value.okWide Try.prog W .any base t v := hval0
  have hW' := hW
  obtain ⟨p, q, hA0, hV, rfl, hfz, hnd⟩ := hW
  have hA : DataW.TrodAll enc Try.prog W 0 (fun _ => true) true Try.f4.params.toList args.toList ds p := hA0
  rw [Try.params4] at hA hval
  obtain ⟨v0, vs0, d0, ds0, p0, q0, hargs, rfl, rfl, h0, r0⟩ := trodAll_cons hA
  obtain ⟨v1, vs1, d1, ds1, p1, q1, rfl, rfl, rfl, h1, r1⟩ := trodAll_cons r0
  obtain ⟨v2, vs2, d2, ds2, p2, q2, rfl, rfl, rfl, h2, r2⟩ := trodAll_cons r1
  obtain ⟨v3, vs3, d3, ds3, p3, q3, rfl, rfl, rfl, h3, r3⟩ := trodAll_cons r2
  obtain ⟨v4, vs4, d4, ds4, p4, q4, rfl, rfl, rfl, h4, r4⟩ := trodAll_cons r3
  obtain ⟨rfl, rfl, rfl⟩ := trodAll_nil r4
  obtain rfl : args = #[v0, v1, v2, v3, v4] := by cases args; simp_all
  obtain ⟨rfl, rfl⟩ := trodVars_none hV
  have lt2 : ∀ x ∈ p2, x.block < W.heap.size := by obtain ⟨m, hm⟩ := h2; exact DataW.trod_lt m _ _ _ hm
  have lt3 : ∀ x ∈ p3, x.block < W.heap.size := by obtain ⟨m, hm⟩ := h3; exact DataW.trod_lt m _ _ _ hm
  obtain ⟨a0, rfl, rfl, rfl, w0⟩ := open_int Try.underlying3 (hval 0 3 v0 rfl rfl) h0
  obtain ⟨a1, rfl, rfl, rfl, w1⟩ := open_int Try.underlying3 (hval 1 3 v1 rfl rfl) h1
  obtain ⟨x0, x1, rfl⟩ := a2_of_trod (hval 2 32 v2 rfl rfl) h2
  obtain ⟨y0, y1, rfl⟩ := a2_of_trod (hval 3 32 v3 rfl rfl) h3
  obtain ⟨a4, rfl, rfl, rfl, w4⟩ := open_int Try.underlying3 (hval 4 3 v4 rfl rfl) h4
  clear hA0 hval0
  refine (walk a0 a1 x0 x1 y0 y1 a4 W).mono fun e W' ⟨he, bel⟩ => ?_
  subst he
  exact ⟨_, rfl, _, _, _, [], _, [], hW', trodAll_mk1 (shut_bool Try.underlying4 _), (trodAll_cons_mk (shut_int Try.underlying3 w0) (trodAll_cons_mk (shut_int Try.underlying3 w1) (trodAll_cons_mk (Below.trod laidOut (by kernel_rfl) (of_decide_eq_true (by kernel_rfl)) h2 bel lt2) (trodAll_cons_mk (Below.trod laidOut (by kernel_rfl) (of_decide_eq_true (by kernel_rfl)) h3 bel lt3) (trodAll_cons_mk (shut_int Try.underlying3 w4) trodAll_mk0))))), rfl, bel.frame _, fun h => by cases h⟩

theorem over : Rows.fnExactSumFunctionalRow.holds Try.pinned (OpenSpec.ofChange Rows.fnExactSumFunctionalSpec) :=
  OpenClaim.holds_of_wide 4 Try.f4 rfl rfl rfl rfl rfl rfl rfl ⟨rfl, rfl, rfl, rfl, rfl⟩ rfl rfl rfl rfl rfl (by kernel_rfl) Try.func4 (by kernel_rfl)
    (of_decide_eq_true (by kernel_rfl)) (by unfold Func.isWrapper; first | (rw [if_pos (by decide +kernel)]; kernel_rfl) | (rw [if_neg (by decide +kernel)]; exact ⟨rfl, rfl⟩))
    (fun os started H enc _ => lifted os started H enc)

theorem proved : Rows.FnExactSumFunctionalSaid := over
#print axioms proved
end Go.Proofs.Ytnjaocgciokpaab.lawSumFunctional
