/- Proved here: for all arguments, the law FnExactNoisySum returns true: the program's function answers as its model in every field, leaves its arguments as they were, and its answer owns its memory. Conditions: none beyond the row. -/
import Derived.Test.YtkikdecepdbbnabBox
import Derived.Test.YtkikdecepdbbnabNss
import Derived.Test.YtkikdecepdbbnabOpen
import Derived.Test.YtkikdecepdbbnabRows
import Derived.Deep.RegionHeld3
namespace Go.Proofs.Ytkikdecepdbbnab.lawNoisySum
open Go.ChangeShapes Go.WideShapes Go.ChangeAt Go.RowKit Go.Deep Go.Proofs.Ytkikdecepdbbnab.base
open Go.ChangeMaps (open_string shut_string)

set_option maxRecDepth 100000 in
set_option maxHeartbeats 4000000 in
theorem walk (a0 : Int) (a1 : Int) (a2 : Int) (w : World) (_f0 : (Lit.int .i64 a0).wf = true) (_f1 : (Lit.int .i64 a1).wf = true) (_f2 : (Lit.int .i64 a2).wf = true) :
    Calls Try.prog 8 #[.int .i64 a0, .int .i64 a1, .int .i64 a2] w fun e w' => e = .returned (.bool true) ∧ Below w.heap.size w w' := by
  go_enter Try.func8, Try.ntmps8
  have BE0 := Lib.hid (Below.refl w.heap.size w)
  go_wp2_with fail
  refine (nsi.spec_any a0 a1 a2 _).mono ?_
  rintro e wf1 ⟨uW, rfl, hu, hb⟩
  obtain ⟨Wa, Wn, Wc, rfl⟩ := hu.shape
  have BE2 := Lib.hid (below_tr BE0.out hb)
  have ZZ2 : Hid (w.heap.size ≤ wf1.heap.size) := Lib.hid (by have := (hb).size; simpa using this)
  clear BE0
  have VWW := Lib.hid hu
  have HBW := Lib.hid (Below.refl wf1.heap.size wf1)
  clear hu hb
  go_wp2_with fail
  have BE3 := Lib.hid (below_al BE2.out (.cells #[.int .i64 ((nsi.res a0 a1 a2).x), .int .i64 ((nsi.res a0 a1 a2).y), .int .i64 ((nsi.res a0 a1 a2).wh), .slice Wa Wn Wc] 41))
  have HBW3 := Lib.hid (below_al HBW.out (.cells #[.int .i64 ((nsi.res a0 a1 a2).x), .int .i64 ((nsi.res a0 a1 a2).y), .int .i64 ((nsi.res a0 a1 a2).wh), .slice Wa Wn Wc] 41))
  have KBbW3 := Lib.hid (Blk.new wf1 41 #[.int .i64 ((nsi.res a0 a1 a2).x), .int .i64 ((nsi.res a0 a1 a2).y), .int .i64 ((nsi.res a0 a1 a2).wh), .slice Wa Wn Wc])
  clear BE2 HBW
  go_wp2_with fail
  refine (nsi.impl_any a0 a1 a2 _).mono ?_
  rintro e wf4 ⟨uG, rfl, hu, hb⟩
  obtain ⟨Ga, Gn, Gc, rfl⟩ := hu.rows.shape
  have BE5 := Lib.hid (below_tr BE3.out hb)
  have HBW5 := Lib.hid (below_tr HBW3.out hb)
  have KBbW5 := Lib.hid (KBbW3.out.below hb)
  have ZZ5 : Hid (wf1.heap.size + 1 ≤ wf4.heap.size) := Lib.hid (by have := (hb).size; simpa using this)
  clear BE3 HBW3 KBbW3
  obtain ⟨bWc0, bWc1, bWc2, bWc3, bWc4⟩ := four_cells KBbW5.out
  have OWG := Lib.hid (hu.mono (B' := wf1.heap.size + 1) (by simp) (Nat.le_refl _))
  clear hu hb
  go_wp2_with fail
  have BE6 := Lib.hid (below_al BE5.out (.cells #[.int .i64 ((nsi.res a0 a1 a2).x), .int .i64 ((nsi.res a0 a1 a2).y), .int .i64 ((nsi.res a0 a1 a2).wh), .slice Ga Gn Gc] 41))
  have HBW6 := Lib.hid (below_al HBW5.out (.cells #[.int .i64 ((nsi.res a0 a1 a2).x), .int .i64 ((nsi.res a0 a1 a2).y), .int .i64 ((nsi.res a0 a1 a2).wh), .slice Ga Gn Gc] 41))
  have OWG6 := Lib.hid (OWG.out.keep (below_al (Below.refl _ _) (.cells #[.int .i64 ((nsi.res a0 a1 a2).x), .int .i64 ((nsi.res a0 a1 a2).y), .int .i64 ((nsi.res a0 a1 a2).wh), .slice Ga Gn Gc] 41)))
  have KBbW6 := Lib.hid (KBbW5.out.alloc (.cells #[.int .i64 ((nsi.res a0 a1 a2).x), .int .i64 ((nsi.res a0 a1 a2).y), .int .i64 ((nsi.res a0 a1 a2).wh), .slice Ga Gn Gc] 41))
  have KBbG6 := Lib.hid (Blk.new wf4 41 #[.int .i64 ((nsi.res a0 a1 a2).x), .int .i64 ((nsi.res a0 a1 a2).y), .int .i64 ((nsi.res a0 a1 a2).wh), .slice Ga Gn Gc])
  clear BE5 HBW5 OWG KBbW5
  have tk0 : (((nsi.res a0 a1 a2).ok) != ((nsi.res a0 a1 a2).ok)) = false := bne_self_eq_false _
  go_wp2_with fail
  refine (box.eq_same ((nsi.res a0 a1 a2).x) ((nsi.res a0 a1 a2).y) ((nsi.res a0 a1 a2).wh) _ _ ((nsi.res a0 a1 a2).rows) _ OWG6.out.rows (VWW.out.below HBW6.out) (nsi.tot a0 a1 a2)).mono ?_
  rintro e we7 ⟨rfl, hb⟩
  clear bWc0 bWc1 bWc2 bWc3 bWc4
  have BE8 := Lib.hid (below_tr BE6.out hb)
  have HBW8 := Lib.hid (below_tr HBW6.out hb)
  have OWG8 := Lib.hid (OWG6.out.keep hb)
  have KBbW8 := Lib.hid (KBbW6.out.below hb)
  have KBbG8 := Lib.hid (KBbG6.out.below hb)
  have ZZ8 : Hid (wf4.heap.size + 1 ≤ we7.heap.size) := Lib.hid (by have := (hb).size; simpa using this)
  clear BE6 HBW6 OWG6 KBbW6 KBbG6
  obtain ⟨bWc0, bWc1, bWc2, bWc3, bWc4⟩ := four_cells KBbW8.out
  obtain ⟨bGc0, bGc1, bGc2, bGc3, bGc4⟩ := four_cells KBbG8.out
  clear hb
  have blr := Nat.le_trans (rws.before_le ((nsi.res a0 a1 a2).rows) ((nsi.res a0 a1 a2).rows).length) (nsi.tot a0 a1 a2)
  have dq : ¬ (1 + (rws.before ((nsi.res a0 a1 a2).rows) ((nsi.res a0 a1 a2).rows).length : Int) < 0) := by omega
  have tq : ((1 + (rws.before ((nsi.res a0 a1 a2).rows) ((nsi.res a0 a1 a2).rows).length : Int)) != (1 + (rws.before ((nsi.res a0 a1 a2).rows) ((nsi.res a0 a1 a2).rows).length : Int))) = false := bne_self_eq_false _
  go_wp2_with fail
  refine (box.mark_any ((nsi.res a0 a1 a2).x) ((nsi.res a0 a1 a2).y) ((nsi.res a0 a1 a2).wh) _ ((nsi.res a0 a1 a2).rows) (1) (wf1.heap.size + 1) (wf4.heap.size) _ OWG8.out (nsi.tot a0 a1 a2) (by omega) (by omega)).mono ?_
  rintro e wm9 ⟨rfl, hi, S, wl10, hb, hw, hs⟩
  clear OWG8
  clear bWc0 bWc1 bWc2 bWc3 bWc4 bGc0 bGc1 bGc2 bGc3 bGc4
  have BE11 := Lib.hid (below_tr BE8.out hb)
  have HBW11 := Lib.hid (below_tr HBW8.out hb)
  have KBbW11 := Lib.hid (KBbW8.out.below hb)
  have KBbG11 := Lib.hid (KBbG8.out.below hb)
  have ZZ11 : Hid (we7.heap.size ≤ wl10.heap.size) := Lib.hid (by have := (hb).size; simpa using this)
  clear BE8 HBW8 KBbW8 KBbG8
  obtain ⟨bWc0, bWc1, bWc2, bWc3, bWc4⟩ := four_cells KBbW11.out
  obtain ⟨bGc0, bGc1, bGc2, bGc3, bGc4⟩ := four_cells KBbG11.out
  clear bWc0 bWc1 bWc2 bWc3 bWc4 bGc0 bGc1 bGc2 bGc3 bGc4
  have BE12 := Lib.hid (BE11.out.trans (hw.below (fun p hp => by have := (hs p hp).1; have := ZZ2.out; have := ZZ5.out; have := ZZ8.out; have := ZZ11.out; omega)))
  have HBW12 := Lib.hid (HBW11.out.trans (hw.below (fun p hp => by have := (hs p hp).1; have := ZZ2.out; have := ZZ5.out; have := ZZ8.out; have := ZZ11.out; omega)))
  have KBbW12 := Lib.hid (KBbW11.out.wrote hw (fun p hp e => by have := hs p hp; have := ZZ2.out; have := ZZ5.out; have := ZZ8.out; have := ZZ11.out; omega))
  have KBbG12 := Lib.hid (KBbG11.out.wrote hw (fun p hp e => by have := hs p hp; have := ZZ2.out; have := ZZ5.out; have := ZZ8.out; have := ZZ11.out; omega))
  have ZZ12 : Hid (wl10.heap.size ≤ wm9.heap.size) := Lib.hid (by have := hw.size; omega)
  clear BE11 HBW11 KBbW11 KBbG11
  obtain ⟨bWc0, bWc1, bWc2, bWc3, bWc4⟩ := four_cells KBbW12.out
  obtain ⟨bGc0, bGc1, bGc2, bGc3, bGc4⟩ := four_cells KBbG12.out
  clear hb
  clear hw hs
  have VWM := Lib.hid hi
  have HBM := Lib.hid (Below.refl wm9.heap.size wm9)
  clear hi
  go_wp2_with fail
  refine (box.held_any ((nsi.res a0 a1 a2).x) ((nsi.res a0 a1 a2).y) ((nsi.res a0 a1 a2).wh) _ ((nsi.res a0 a1 a2).rows) 1 _ (VWM.out.below HBM.out) (nsi.tot a0 a1 a2) (by omega) (by omega)).mono ?_
  rintro e wh13 ⟨rfl, hb⟩
  clear bWc0 bWc1 bWc2 bWc3 bWc4 bGc0 bGc1 bGc2 bGc3 bGc4
  have BE14 := Lib.hid (below_tr BE12.out hb)
  have HBW14 := Lib.hid (below_tr HBW12.out hb)
  have HBM14 := Lib.hid (below_tr HBM.out hb)
  have KBbW14 := Lib.hid (KBbW12.out.below hb)
  have KBbG14 := Lib.hid (KBbG12.out.below hb)
  have ZZ14 : Hid (wm9.heap.size ≤ wh13.heap.size) := Lib.hid (by have := (hb).size; simpa using this)
  clear BE12 HBW12 HBM KBbW12 KBbG12
  obtain ⟨bWc0, bWc1, bWc2, bWc3, bWc4⟩ := four_cells KBbW14.out
  obtain ⟨bGc0, bGc1, bGc2, bGc3, bGc4⟩ := four_cells KBbG14.out
  clear hb
  go_wp2_with fail
  refine (nsi.impl_any a0 a1 a2 _).mono ?_
  rintro e wf15 ⟨uHh, rfl, hu, hb⟩
  obtain ⟨Hha, Hhn, Hhc, rfl⟩ := hu.rows.shape
  clear bWc0 bWc1 bWc2 bWc3 bWc4 bGc0 bGc1 bGc2 bGc3 bGc4
  have BE16 := Lib.hid (below_tr BE14.out hb)
  have HBW16 := Lib.hid (below_tr HBW14.out hb)
  have HBM16 := Lib.hid (below_tr HBM14.out hb)
  have KBbW16 := Lib.hid (KBbW14.out.below hb)
  have KBbG16 := Lib.hid (KBbG14.out.below hb)
  have ZZ16 : Hid (wh13.heap.size ≤ wf15.heap.size) := Lib.hid (by have := (hb).size; simpa using this)
  clear BE14 HBW14 HBM14 KBbW14 KBbG14
  obtain ⟨bWc0, bWc1, bWc2, bWc3, bWc4⟩ := four_cells KBbW16.out
  obtain ⟨bGc0, bGc1, bGc2, bGc3, bGc4⟩ := four_cells KBbG16.out
  have OWHh := Lib.hid (hu.mono (B' := wh13.heap.size) (by simp) (Nat.le_refl _))
  clear hu hb
  go_wp2_with fail
  have BE17 := Lib.hid (below_al BE16.out (.cells #[.int .i64 ((nsi.res a0 a1 a2).x), .int .i64 ((nsi.res a0 a1 a2).y), .int .i64 ((nsi.res a0 a1 a2).wh), .slice Hha Hhn Hhc] 41))
  have HBW17 := Lib.hid (below_al HBW16.out (.cells #[.int .i64 ((nsi.res a0 a1 a2).x), .int .i64 ((nsi.res a0 a1 a2).y), .int .i64 ((nsi.res a0 a1 a2).wh), .slice Hha Hhn Hhc] 41))
  have HBM17 := Lib.hid (below_al HBM16.out (.cells #[.int .i64 ((nsi.res a0 a1 a2).x), .int .i64 ((nsi.res a0 a1 a2).y), .int .i64 ((nsi.res a0 a1 a2).wh), .slice Hha Hhn Hhc] 41))
  have OWHh17 := Lib.hid (OWHh.out.keep (below_al (Below.refl _ _) (.cells #[.int .i64 ((nsi.res a0 a1 a2).x), .int .i64 ((nsi.res a0 a1 a2).y), .int .i64 ((nsi.res a0 a1 a2).wh), .slice Hha Hhn Hhc] 41)))
  have KBbW17 := Lib.hid (KBbW16.out.alloc (.cells #[.int .i64 ((nsi.res a0 a1 a2).x), .int .i64 ((nsi.res a0 a1 a2).y), .int .i64 ((nsi.res a0 a1 a2).wh), .slice Hha Hhn Hhc] 41))
  have KBbG17 := Lib.hid (KBbG16.out.alloc (.cells #[.int .i64 ((nsi.res a0 a1 a2).x), .int .i64 ((nsi.res a0 a1 a2).y), .int .i64 ((nsi.res a0 a1 a2).wh), .slice Hha Hhn Hhc] 41))
  have KBbHh17 := Lib.hid (Blk.new wf15 41 #[.int .i64 ((nsi.res a0 a1 a2).x), .int .i64 ((nsi.res a0 a1 a2).y), .int .i64 ((nsi.res a0 a1 a2).wh), .slice Hha Hhn Hhc])
  clear BE16 HBW16 HBM16 OWHh KBbW16 KBbG16
  go_wp2_with fail
  refine (box.eq_same ((nsi.res a0 a1 a2).x) ((nsi.res a0 a1 a2).y) ((nsi.res a0 a1 a2).wh) _ _ ((nsi.res a0 a1 a2).rows) _ OWHh17.out.rows (VWW.out.below HBW17.out) (nsi.tot a0 a1 a2)).mono ?_
  rintro e we18 ⟨rfl, hb⟩
  clear bWc0 bWc1 bWc2 bWc3 bWc4 bGc0 bGc1 bGc2 bGc3 bGc4
  have BE19 := Lib.hid (below_tr BE17.out hb)
  have HBW19 := Lib.hid (below_tr HBW17.out hb)
  have HBM19 := Lib.hid (below_tr HBM17.out hb)
  have OWHh19 := Lib.hid (OWHh17.out.keep hb)
  have KBbW19 := Lib.hid (KBbW17.out.below hb)
  have KBbG19 := Lib.hid (KBbG17.out.below hb)
  have KBbHh19 := Lib.hid (KBbHh17.out.below hb)
  have ZZ19 : Hid (wf15.heap.size + 1 ≤ we18.heap.size) := Lib.hid (by have := (hb).size; simpa using this)
  clear BE17 HBW17 HBM17 OWHh17 KBbW17 KBbG17 KBbHh17
  obtain ⟨bWc0, bWc1, bWc2, bWc3, bWc4⟩ := four_cells KBbW19.out
  obtain ⟨bGc0, bGc1, bGc2, bGc3, bGc4⟩ := four_cells KBbG19.out
  obtain ⟨bHhc0, bHhc1, bHhc2, bHhc3, bHhc4⟩ := four_cells KBbHh19.out
  clear hb
  go_wp2_with fail
  refine (box.held_any ((nsi.res a0 a1 a2).x) ((nsi.res a0 a1 a2).y) ((nsi.res a0 a1 a2).wh) _ ((nsi.res a0 a1 a2).rows) 1 _ (VWM.out.below HBM19.out) (nsi.tot a0 a1 a2) (by omega) (by omega)).mono ?_
  rintro e wh20 ⟨rfl, hb⟩
  clear bWc0 bWc1 bWc2 bWc3 bWc4 bGc0 bGc1 bGc2 bGc3 bGc4 bHhc0 bHhc1 bHhc2 bHhc3 bHhc4
  have BE21 := Lib.hid (below_tr BE19.out hb)
  have HBW21 := Lib.hid (below_tr HBW19.out hb)
  have HBM21 := Lib.hid (below_tr HBM19.out hb)
  have OWHh21 := Lib.hid (OWHh19.out.keep hb)
  have KBbW21 := Lib.hid (KBbW19.out.below hb)
  have KBbG21 := Lib.hid (KBbG19.out.below hb)
  have KBbHh21 := Lib.hid (KBbHh19.out.below hb)
  have ZZ21 : Hid (we18.heap.size ≤ wh20.heap.size) := Lib.hid (by have := (hb).size; simpa using this)
  clear BE19 HBW19 HBM19 OWHh19 KBbW19 KBbG19 KBbHh19
  obtain ⟨bWc0, bWc1, bWc2, bWc3, bWc4⟩ := four_cells KBbW21.out
  obtain ⟨bGc0, bGc1, bGc2, bGc3, bGc4⟩ := four_cells KBbG21.out
  obtain ⟨bHhc0, bHhc1, bHhc2, bHhc3, bHhc4⟩ := four_cells KBbHh21.out
  clear hb
  go_wp2_with fail
  go_ret
  exact ⟨rfl, BE21.out⟩

/-! ### the frame of the row -/
theorem own : ownKnob Try.prog.godebug = none := by kernel_rfl
theorem laidOut : laidOutB Try.prog = true := by kernel_rfl
set_option maxRecDepth 100000 in
theorem lifted (os : Os) (started : os.Started) (H : Type) (enc : TypeId × Value → H) :
    ReturnsInHanded {} Try.checked os 8 .any (Rows.fnExactNoisySumSpec.pre6 enc Try.prog Try.f8 Rows.fnExactNoisySumRow.domain false) (Rows.fnExactNoisySumSpec.post enc Try.prog Try.f8 false true false false) := by
  refine returnsInHanded_of_change (C := Try.checked) own started (by kernel_rfl) Try.func8
    (ChangeSpec.witness6 (enc := enc) (C := Try.checked) false ⟨#[], #[.int .i64 0, .int .i64 0, .int .i64 0], []⟩ 8 (by kernel_rfl) (by kernel_rfl) (by kernel_rfl) (by kernel_rfl)) ?_
  intro W base args ds gs before hval0 hW _ _
  have hval : ∀ (j : Nat) t v, Try.f8.params[j]? = some t → args[j]? = some v → Value.okWide Try.prog W .any base t v := hval0
  have hW' := hW
  obtain ⟨p, q, hA0, hV, rfl, hfz, hnd⟩ := hW
  have hA : DataW.TrodAll enc Try.prog W 0 (fun _ => true) true Try.f8.params.toList args.toList ds p := hA0
  rw [Try.params8] at hA hval
  obtain ⟨v0, vs0, d0, ds0, p0, q0, hargs, rfl, rfl, h0, r0⟩ := trodAll_cons hA
  obtain ⟨v1, vs1, d1, ds1, p1, q1, rfl, rfl, rfl, h1, r1⟩ := trodAll_cons r0
  obtain ⟨v2, vs2, d2, ds2, p2, q2, rfl, rfl, rfl, h2, r2⟩ := trodAll_cons r1
  obtain ⟨rfl, rfl, rfl⟩ := trodAll_nil r2
  obtain rfl : args = #[v0, v1, v2] := by cases args; simp_all
  obtain ⟨rfl, rfl⟩ := trodVars_none hV
  obtain ⟨a0, rfl, rfl, rfl, w0⟩ := open_int Try.underlying3 (hval 0 3 v0 rfl rfl) h0
  obtain ⟨a1, rfl, rfl, rfl, w1⟩ := open_int Try.underlying3 (hval 1 3 v1 rfl rfl) h1
  obtain ⟨a2, rfl, rfl, rfl, w2⟩ := open_int Try.underlying3 (hval 2 3 v2 rfl rfl) h2
  clear hA0 hval0
  refine (walk a0 a1 a2 W w0 w1 w2).mono fun e W' ⟨he, bel⟩ => ?_
  subst he
  exact ⟨_, rfl, _, _, _, [], _, [], hW', trodAll_mk1 (shut_bool Try.underlying4 _), (trodAll_cons_mk (shut_int Try.underlying3 w0) (trodAll_cons_mk (shut_int Try.underlying3 w1) (trodAll_cons_mk (shut_int Try.underlying3 w2) trodAll_mk0))), rfl, bel.frame _, fun h => by cases h⟩

theorem over : Rows.fnExactNoisySumRow.holds Try.pinned (OpenSpec.ofChange Rows.fnExactNoisySumSpec) :=
  OpenClaim.holds_of_wide 8 Try.f8 rfl rfl rfl rfl rfl rfl rfl ⟨rfl, rfl, rfl, rfl, rfl⟩ rfl rfl rfl rfl rfl (by kernel_rfl) Try.func8 (by kernel_rfl)
    (of_decide_eq_true (by kernel_rfl)) (by unfold Func.isWrapper; first | (rw [if_pos (by decide +kernel)]; kernel_rfl) | (rw [if_neg (by decide +kernel)]; exact ⟨rfl, rfl⟩))
    (fun os started H enc _ => lifted os started H enc)

theorem proved : Rows.FnExactNoisySumSaid := over
#print axioms proved
end Go.Proofs.Ytkikdecepdbbnab.lawNoisySum
