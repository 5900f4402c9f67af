/- Proved here: for all arguments, the law FnExactSumOf returns true: the program's function answers as its model in every field, leaves its arguments as they were, and its answer owns its memory. Conditions: none beyond the row. -/
import Derived.Test.YtnjaocgciokpaabBox
import Derived.Test.YtnjaocgciokpaabSos
import Derived.Test.YtnjaocgciokpaabSop
import Derived.Test.YtnjaocgciokpaabOpen
import Derived.Test.YtnjaocgciokpaabRows
import Derived.Deep.RegionHeld3
namespace Go.Proofs.Ytnjaocgciokpaab.lawSumOf
open Go.ChangeShapes Go.WideShapes Go.ChangeAt Go.RowKit Go.Deep Go.Proofs.Ytnjaocgciokpaab.base
open Go.ChangeMaps (open_string shut_string)

/-- the law's Box and two pairs in memory of the call's own -/
structure LBox2 (w wr : World) (x y wh : Int) (v : Value) (a b c d : Int) : Prop where
  below : Below w.heap.size w wr
  box : Blk wr w.heap.size 24 #[.int .i64 x, .int .i64 y, .int .i64 wh, v]
  one : Blk wr (w.heap.size + 1) 32 #[.int .i64 a, .int .i64 b]
  two : Blk wr (w.heap.size + 1 + 1) 32 #[.int .i64 c, .int .i64 d]
theorem LBox2.keep {w wr w' : World} {x y wh : Int} {v : Value} {a b c d : Int} (h : LBox2 w wr x y wh v a b c d) (hb : Below wr.heap.size wr w') : LBox2 w w' x y wh v a b c d := ⟨below_tr h.below hb, h.box.below hb, h.one.below hb, h.two.below hb⟩
theorem LBox2.start (w : World) (x y wh : Int) (v : Value) (a b c d : Int) : LBox2 w (((w.alloc (.cells #[.int .i64 x, .int .i64 y, .int .i64 wh, v] 24)).alloc (.cells #[.int .i64 a, .int .i64 b] 32)).alloc (.cells #[.int .i64 c, .int .i64 d] 32)) x y wh v a b c d :=
  ⟨below_al (below_al (below_al (Below.refl _ _) _) _) _, ((Blk.new _ _ _).alloc _).alloc _, by
    have := (Blk.new (w.alloc (.cells #[.int .i64 x, .int .i64 y, .int .i64 wh, v] 24)) 32 #[.int .i64 a, .int .i64 b]).alloc (.cells #[.int .i64 c, .int .i64 d] 32)
    simpa using this, by
    have := Blk.new ((w.alloc (.cells #[.int .i64 x, .int .i64 y, .int .i64 wh, v] 24)).alloc (.cells #[.int .i64 a, .int .i64 b] 32)) 32 #[.int .i64 c, .int .i64 d]
    simpa using this⟩

set_option maxRecDepth 100000 in
set_option maxHeartbeats 16000000 in
theorem walk (x y wh : Int) (v : Value) (xss : List (List Int)) (p0 p1 q0 q1 a4 : Int) (w : World) (h : IRows w v xss) :
    Calls Try.prog 5 #[.agg #[.int .i64 x, .int .i64 y, .int .i64 wh, v], .agg #[.int .i64 p0, .int .i64 p1], .agg #[.int .i64 q0, .int .i64 q1], .int .i64 a4] w fun e w' => e = .returned (.bool true) ∧ Below w.heap.size w w' := by
  obtain ⟨va, vn, vc, rfl⟩ := h.shape
  have H1 := Lib.hid h
  clear h
  have T0 := Lib.hid (LBox2.start w x y wh (.slice va vn vc) p0 p1 q0 q1)
  obtain ⟨b0, b1, b2, b3, _⟩ := four_cells T0.out.box
  obtain ⟨c0, c1, _⟩ := prt.two_cells T0.out.one
  obtain ⟨d0, d1, _⟩ := prt.two_cells T0.out.two
  by_cases hs : rws.sz xss (1048576) < 0
  · go_enter Try.func5, Try.ntmps5
    go_wp2_with fail
    refine (box.sz_any x y wh _ xss (1048576) _ (H1.out.below T0.out.below) (by omega) (by omega)).mono ?_
    rintro e w1 ⟨rfl, hb⟩
    have B1 := Lib.hid (below_tr T0.out.below hb)
    clear hb b0 b1 b2 b3 c0 c1 d0 d1 T0
    go_wp2_with fail
    go_ret
    exact ⟨rfl, B1.out⟩
  have hq := rws.sz_bound hs
  have hn : rws.total xss ≤ 1048576 := by omega
  go_enter Try.func5, Try.ntmps5
  go_wp2_with fail
  refine (box.sz_any x y wh _ xss (1048576) _ (H1.out.below T0.out.below) (by omega) (by omega)).mono ?_
  rintro e w1 ⟨rfl, hb⟩
  have T1 := Lib.hid (T0.out.keep hb)
  have HA := Lib.hid (H1.out.below T1.out.below)
  clear hb b0 b1 b2 b3 c0 c1 d0 d1 T0
  obtain ⟨b0, b1, b2, b3, _⟩ := four_cells T1.out.box
  obtain ⟨c0, c1, _⟩ := prt.two_cells T1.out.one
  obtain ⟨d0, d1, _⟩ := prt.two_cells T1.out.two
  go_wp2_with fail
  go_region_held3 (fun w' => w'.cell? ⟨w.heap.size, 0, none⟩ = some (.int .i64 x) ∧ w'.cell? ⟨w.heap.size, 1, none⟩ = some (.int .i64 y) ∧ w'.cell? ⟨w.heap.size, 2, none⟩ = some (.int .i64 wh) ∧ w'.cell? ⟨w.heap.size, 3, none⟩ = some (.slice va vn vc) ∧ w'.cell? ⟨w.heap.size + 1, 0, none⟩ = some (.int .i64 p0) ∧ w'.cell? ⟨w.heap.size + 1, 1, none⟩ = some (.int .i64 p1) ∧ w'.cell? ⟨w.heap.size + 1 + 1, 0, none⟩ = some (.int .i64 q0) ∧ w'.cell? ⟨w.heap.size + 1 + 1, 1, none⟩ = some (.int .i64 q1) ∧ Below w1.heap.size w1 w')
    ((refine sop.held44 b0 b1 b2 b3 c0 c1 d0 d1 ?_; repeat (first | exact Below.refl _ _ | assumption | refine below_dr ?_ | refine below_tr ?_ (by assumption))))
    (first
      | (go_at_call 21; (with_reducible refine (prt.to_one p0 p1 _).mono ?_); rintro e wp ⟨rfl, hbp⟩)
      | (go_at_call 21; (with_reducible refine (prt.to_one q0 q1 _).mono ?_); rintro e wq ⟨rfl, hbq⟩)
      | (go_at_call 17; (with_reducible refine (box.to_any x y wh _ xss _ (HA.out.below ?_) hn).mono ?_); (repeat (first | exact Below.refl _ _ | assumption | refine below_dr ?_ | refine below_tr ?_ (by assumption))); rintro e wb ⟨ub, rfl, hub, hbb⟩; (have UB := Lib.hid hub.rows); obtain ⟨uba, ubn, ubc, rfl⟩ := hub.rows.shape; clear hub)
      | (go_at_call 26; (with_reducible refine (sos.spec_any x y wh _ xss p0 p1 q0 q1 a4 _ (UB.out.below ?_) hn).mono ?_); (repeat (first | exact Below.refl _ _ | assumption | refine below_dr ?_ | refine below_tr ?_ (by assumption))); rintro e wf ⟨rfl, hbf⟩))
  all_goals
    have BX : Hid (Below w1.heap.size w1 wf) := Lib.hid (by repeat (first | exact Below.refl _ _ | refine below_dr ?_ | refine below_tr ?_ (by assumption)))
    have T2 := Lib.hid (T1.out.keep BX.out)
    clear BX hbp hbq hbb hbf UB b0 b1 b2 b3 c0 c1 d0 d1
    obtain ⟨b0, b1, b2, b3, _⟩ := four_cells T2.out.box
    go_wp2_with fail
    refine (box.to_any x y wh _ xss _ (H1.out.below T2.out.below) hn).mono ?_
    rintro e wc ⟨ux, rfl, hu, hb⟩
    obtain ⟨xa, xn, xc, rfl⟩ := hu.rows.shape
    have OX := Lib.hid (hu.rows.below (below_al (Below.refl _ _) (.cells #[.int .i64 x, .int .i64 y, .int .i64 wh, .slice xa xn xc] 28)))
    have KX := Lib.hid (Blk.new wc 28 #[.int .i64 x, .int .i64 y, .int .i64 wh, .slice xa xn xc])
    have T3 := Lib.hid (T2.out.keep (below_tr hb (below_al (Below.refl _ _) (.cells #[.int .i64 x, .int .i64 y, .int .i64 wh, .slice xa xn xc] 28))))
    obtain ⟨c0, c1, _⟩ := prt.two_cells T3.out.one
    obtain ⟨d0, d1, _⟩ := prt.two_cells T3.out.two
    obtain ⟨b0', b1', b2', b3', _⟩ := four_cells T3.out.box
    obtain ⟨e0, e1, e2, e3, _⟩ := four_cells KX.out
    have hrf : ∀ j, (wc.alloc (.cells #[.int .i64 x, .int .i64 y, .int .i64 wh, .slice xa xn xc] 28)).frozen? ⟨wc.heap.size, j, none⟩ = false := fun j => Joins.unfrozen_of_block KX.out j
    clear hu hb b0 b1 b2 b3
    go_wp2_with fail
    go_region_held3 (fun w' => w'.cell? ⟨wc.heap.size, 0, none⟩ = some (.int .i64 x) ∧ w'.cell? ⟨wc.heap.size, 1, none⟩ = some (.int .i64 y) ∧ w'.cell? ⟨wc.heap.size, 2, none⟩ = some (.int .i64 wh) ∧ w'.cell? ⟨wc.heap.size, 3, none⟩ = some (.slice xa xn xc) ∧ w'.cell? ⟨w.heap.size + 1, 0, none⟩ = some (.int .i64 p0) ∧ w'.cell? ⟨w.heap.size + 1, 1, none⟩ = some (.int .i64 p1) ∧ w'.cell? ⟨w.heap.size + 1 + 1, 0, none⟩ = some (.int .i64 q0) ∧ w'.cell? ⟨w.heap.size + 1 + 1, 1, none⟩ = some (.int .i64 q1) ∧ Below (wc.alloc (.cells #[.int .i64 x, .int .i64 y, .int .i64 wh, .slice xa xn xc] 28)).heap.size (wc.alloc (.cells #[.int .i64 x, .int .i64 y, .int .i64 wh, .slice xa xn xc] 28)) w')
      ((refine sop.held44 e0 e1 e2 e3 c0 c1 d0 d1 ?_; repeat (first | exact Below.refl _ _ | assumption | refine below_dr ?_ | refine below_tr ?_ (by assumption))))
      (first
        | (go_at_call 21; (with_reducible refine (prt.to_one p0 p1 _).mono ?_); rintro e wp ⟨rfl, hbp⟩)
        | (go_at_call 21; (with_reducible refine (prt.to_one q0 q1 _).mono ?_); rintro e wq ⟨rfl, hbq⟩)
        | (go_at_call 27; (with_reducible refine (sop.impl_any x y wh _ xss p0 p1 q0 q1 a4 _ (OX.out.below ?_) hn).mono ?_); (repeat (first | exact Below.refl _ _ | assumption | refine below_dr ?_ | refine below_tr ?_ (by assumption))); rintro e wg ⟨rfl, hbg⟩))
    have BX : Hid (Below (wc.alloc (.cells #[.int .i64 x, .int .i64 y, .int .i64 wh, .slice xa xn xc] 28)).heap.size (wc.alloc (.cells #[.int .i64 x, .int .i64 y, .int .i64 wh, .slice xa xn xc] 28)) wg) := Lib.hid (by repeat (first | exact Below.refl _ _ | refine below_dr ?_ | refine below_tr ?_ (by assumption)))
    have T4 := Lib.hid (T3.out.keep BX.out)
    have KX4 := Lib.hid (KX.out.below BX.out)
    have HX := Lib.hid (OX.out.below BX.out)
    have HA4 := Lib.hid (H1.out.below T4.out.below)
    clear BX hbp hbq hbg c0 c1 d0 d1 b0' b1' b2' b3' e0 e1 e2 e3 hrf
    obtain ⟨b0, b1, b2, b3, _⟩ := four_cells T4.out.box
    obtain ⟨e0, e1, e2, e3, _⟩ := four_cells KX4.out
    have tk0 : ((som.res x y wh xss p0 p1 q0 q1 a4).1 != (som.res x y wh xss p0 p1 q0 q1 a4).1) = false := bne_self_eq_false _
    have tk1 : ((som.res x y wh xss p0 p1 q0 q1 a4).2 != (som.res x y wh xss p0 p1 q0 q1 a4).2) = false := bne_self_eq_false _
    go_wp2_with fail
    go_region_held3 (fun w' => w'.cell? ⟨w.heap.size, 0, none⟩ = some (.int .i64 x) ∧ w'.cell? ⟨w.heap.size, 1, none⟩ = some (.int .i64 y) ∧ w'.cell? ⟨w.heap.size, 2, none⟩ = some (.int .i64 wh) ∧ w'.cell? ⟨w.heap.size, 3, none⟩ = some (.slice va vn vc) ∧ w'.cell? ⟨wc.heap.size, 0, none⟩ = some (.int .i64 x) ∧ w'.cell? ⟨wc.heap.size, 1, none⟩ = some (.int .i64 y) ∧ w'.cell? ⟨wc.heap.size, 2, none⟩ = some (.int .i64 wh) ∧ w'.cell? ⟨wc.heap.size, 3, none⟩ = some (.slice xa xn xc) ∧ Below wg.heap.size wg w')
      ((refine held8 b0 b1 b2 b3 e0 e1 e2 e3 ?_; repeat (first | exact Below.refl _ _ | assumption | refine below_dr ?_ | refine below_tr ?_ (by assumption))))
      (first
        | (go_at_call 17; (with_reducible refine (box.to_any x y wh _ xss _ (HA4.out.below ?_) hn).mono ?_); (repeat (first | exact Below.refl _ _ | assumption | refine below_dr ?_ | refine below_tr ?_ (by assumption))); rintro e wt ⟨ut, rfl, hut, hbt⟩)
        | (go_at_call 19; refine (box.eq_same x y wh _ _ xss _ (HX.out.below (below_tr (below_dr (Below.refl _ _)) hbt)) hut.rows hn).mono ?_; rintro e wz ⟨rfl, hbz⟩))
    have B5 := Lib.hid (below_tr T4.out.below (below_tr (below_tr (below_dr (Below.refl _ _)) hbt) hbz))
    clear hut hbt hbz b0 b1 b2 b3 e0 e1 e2 e3
    go_wp2_with fail
    go_ret
    exact ⟨rfl, B5.out⟩

/-! ### the frame of the row -/
set_option maxRecDepth 100000 in
theorem a2_of_trod {H : Type} {enc : TypeId × Value → H} {W : World} {b0 : Nat} {r : Reach} {v : Value} {dd : DataW H} {ps : List MemPlace} (hw : Value.okWide Try.prog W r b0 32 v) (h : DataW.Trod enc Try.prog W 0 (fun _ => true) true 32 v dd ps) :
    ∃ x y : Int, v = .agg #[.int .i64 x, .int .i64 y] := by
  obtain ⟨xs, rfl, hn⟩ := WideMaps.okWide_arr sfn.arrKey hw
  obtain ⟨fuel, hf⟩ := h
  obtain ⟨ys, k, _, _, _, hyl, hx⟩ := DataW.trod_array Try.underlying32 hf
  have cq : Try.prog.cellsOf 3 = 1 := by kernel_rfl
  have g0 := hx 0 (by omega)
  have g1 := hx 1 (by omega)
  rw [cq] at g0 g1
  obtain ⟨xl⟩ := xs
  match xl, hn, ys, hyl with
  | [v0, v1], _, [y0, y1], _ =>
    simp [Value.cells] at g0 g1
    obtain ⟨z0, r0, _⟩ := opn.int_of_trod1 Try.underlying3 g0
    obtain ⟨z1, r1, _⟩ := opn.int_of_trod1 Try.underlying3 g1
    subst r0; subst r1
    exact ⟨z0, z1, rfl⟩


theorem own : ownKnob Try.prog.godebug = none := by kernel_rfl
theorem laidOut : laidOutB Try.prog = true := by kernel_rfl
set_option maxRecDepth 100000 in
theorem lifted (os : Os) (started : os.Started) (H : Type) (enc : TypeId × Value → H) :
    ReturnsInHanded {} Try.checked os 5 .any (Rows.fnExactSumOfSpec.pre6 enc Try.prog Try.f5 Rows.fnExactSumOfRow.domain false) (Rows.fnExactSumOfSpec.post enc Try.prog Try.f5 false true false false) := by
  refine returnsInHanded_of_change (C := Try.checked) own started (by kernel_rfl) Try.func5
    (ChangeSpec.witness6 (enc := enc) (C := Try.checked) false ⟨#[], #[.agg #[.int .i64 0, .int .i64 0, .int .i64 0, .slice none 0 0], .agg #[.int .i64 0, .int .i64 0], .agg #[.int .i64 0, .int .i64 0], .int .i64 0], []⟩ 8 (by kernel_rfl) (by kernel_rfl) (by kernel_rfl) (by kernel_rfl)) ?_
  intro W base args ds gs before hval0 hW _ _
  have hval : ∀ (j : Nat) t v, Try.f5.params[j]? = some t → args[j]? = some v → Value.okWide Try.prog W .any base t v := hval0
  have hW' := hW
  obtain ⟨p, q, hA0, hV, rfl, hfz, hnd⟩ := hW
  have hA : DataW.TrodAll enc Try.prog W 0 (fun _ => true) true Try.f5.params.toList args.toList ds p := hA0
  rw [Try.params5] at hA hval
  obtain ⟨v0, vs0, d0, ds0, p0, q0, hargs, rfl, rfl, h0, r0⟩ := trodAll_cons hA
  obtain ⟨v1, vs1, d1, ds1, p1, q1, rfl, rfl, rfl, h1, r1⟩ := trodAll_cons r0
  obtain ⟨v2, vs2, d2, ds2, p2, q2, rfl, rfl, rfl, h2, r2⟩ := trodAll_cons r1
  obtain ⟨v3, vs3, d3, ds3, p3, q3, rfl, rfl, rfl, h3, r3⟩ := trodAll_cons r2
  obtain ⟨rfl, rfl, rfl⟩ := trodAll_nil r3
  obtain rfl : args = #[v0, v1, v2, v3] := by cases args; simp_all
  obtain ⟨rfl, rfl⟩ := trodVars_none hV
  have lt0 : ∀ x ∈ p0, x.block < W.heap.size := by obtain ⟨m, hm⟩ := h0; exact DataW.trod_lt m _ _ _ hm
  have lt1 : ∀ x ∈ p1, x.block < W.heap.size := by obtain ⟨m, hm⟩ := h1; exact DataW.trod_lt m _ _ _ hm
  have lt2 : ∀ x ∈ p2, x.block < W.heap.size := by obtain ⟨m, hm⟩ := h2; exact DataW.trod_lt m _ _ _ hm
  obtain ⟨x, y, wh, u, xss, rfl, g0⟩ := opn.box_of_trod Try.underlying24 (by kernel_rfl) (by kernel_rfl) Try.underlying3 Try.underlying3 Try.underlying3 Try.underlying22 Try.underlying44 Try.underlying3 (by kernel_rfl) (by kernel_rfl) (hval 0 24 v0 rfl rfl) h0
  obtain ⟨x0, x1, rfl⟩ := a2_of_trod (hval 1 32 v1 rfl rfl) h1
  obtain ⟨y0, y1, rfl⟩ := a2_of_trod (hval 2 32 v2 rfl rfl) h2
  obtain ⟨a4, rfl, rfl, rfl, w4⟩ := open_int Try.underlying3 (hval 3 3 v3 rfl rfl) h3
  clear hA0 hval0
  refine (walk x y wh u xss x0 x1 y0 y1 a4 W g0).mono fun e W' ⟨he, bel⟩ => ?_
  subst he
  exact ⟨_, rfl, _, _, _, [], _, [], hW', trodAll_mk1 (shut_bool Try.underlying4 _), (trodAll_cons_mk (Below.trod laidOut (by kernel_rfl) (of_decide_eq_true (by kernel_rfl)) h0 bel lt0) (trodAll_cons_mk (Below.trod laidOut (by kernel_rfl) (of_decide_eq_true (by kernel_rfl)) h1 bel lt1) (trodAll_cons_mk (Below.trod laidOut (by kernel_rfl) (of_decide_eq_true (by kernel_rfl)) h2 bel lt2) (trodAll_cons_mk (shut_int Try.underlying3 w4) trodAll_mk0)))), rfl, bel.frame _, fun h => by cases h⟩

theorem over : Rows.fnExactSumOfRow.holds Try.pinned (OpenSpec.ofChange Rows.fnExactSumOfSpec) :=
  OpenClaim.holds_of_wide 5 Try.f5 rfl rfl rfl rfl rfl rfl rfl ⟨rfl, rfl, rfl, rfl, rfl⟩ rfl rfl rfl rfl rfl (by kernel_rfl) Try.func5 (by kernel_rfl)
    (of_decide_eq_true (by kernel_rfl)) (by unfold Func.isWrapper; first | (rw [if_pos (by decide +kernel)]; kernel_rfl) | (rw [if_neg (by decide +kernel)]; exact ⟨rfl, rfl⟩))
    (fun os started H enc _ => lifted os started H enc)

theorem proved : Rows.FnExactSumOfSaid := over
#print axioms proved
end Go.Proofs.Ytnjaocgciokpaab.lawSumOf
