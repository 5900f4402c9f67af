/- Proved here: for all arguments, the law FnExactFairCode returns true: the program's function answers as its model in every field, leaves its arguments as they were, and its answer owns its memory. Conditions: none beyond the row. -/
import Derived.Test.YtnjaocgciokpaaaInts
import Derived.Test.YtnjaocgciokpaaaBco
import Derived.Test.YtnjaocgciokpaaaOpen
import Derived.Test.YtnjaocgciokpaaaRows
import Derived.Deep.RegionHeld3
namespace Go.Proofs.Ytnjaocgciokpaaa.lawFairCode
open Go.ChangeShapes Go.WideShapes Go.ChangeAt Go.RowKit Go.Deep Go.Proofs.Ytnjaocgciokpaaa.base
open Go.ChangeMaps (open_string shut_string)

set_option maxRecDepth 100000 in
set_option maxHeartbeats 4000000 in
theorem walk (a0 : Int) (w : World) (_f0 : (Lit.int .i64 a0).wf = true) :
    Calls Try.prog 8 #[.int .i64 a0] w fun e w' => e = .returned (.bool true) ∧ Below w.heap.size w w' := by
  go_enter Try.func8, Try.ntmps8
  have BE0 := Lib.hid (Below.refl w.heap.size w)
  go_wp2_with fail
  refine (bco.spec_true a0 _).mono ?_
  rintro e wf1 ⟨uW, rfl, hu, hb⟩
  obtain ⟨Wa, Wn, Wc, rfl⟩ := hu.shape
  have BE2 := Lib.hid (below_tr BE0.out hb)
  have ZZ2 : Hid (w.heap.size ≤ wf1.heap.size) := Lib.hid (by have := (hb).size; simpa using this)
  clear BE0
  have VWW := Lib.hid hu
  have HBW := Lib.hid (Below.refl wf1.heap.size wf1)
  clear hu hb
  go_wp2_with fail
  refine (bco.impl_true a0 _).mono ?_
  rintro e wf3 ⟨uG, rfl, hu, hb⟩
  obtain ⟨Ga, Gn, Gc, rfl⟩ := hu.ints.shape
  have BE4 := Lib.hid (below_tr BE2.out hb)
  have HBW4 := Lib.hid (below_tr HBW.out hb)
  have ZZ4 : Hid (wf1.heap.size ≤ wf3.heap.size) := Lib.hid (by have := (hb).size; simpa using this)
  clear BE2 HBW
  have OWG := Lib.hid (hu.mono (B' := wf1.heap.size) (by simp) (Nat.le_refl _))
  clear hu hb
  have tk0 : (((bco.res true a0).2) != ((bco.res true a0).2)) = false := bne_self_eq_false _
  go_wp2_with fail
  refine (ints.eq_same _ _ ((bco.res true a0).1) _ OWG.out.ints (VWW.out.below HBW4.out) (bco.len_res true a0)).mono ?_
  rintro e we5 ⟨rfl, hb⟩
  have BE6 := Lib.hid (below_tr BE4.out hb)
  have HBW6 := Lib.hid (below_tr HBW4.out hb)
  have OWG6 := Lib.hid (OWG.out.keep hb)
  have ZZ6 : Hid (wf3.heap.size ≤ we5.heap.size) := Lib.hid (by have := (hb).size; simpa using this)
  clear BE4 HBW4 OWG
  clear hb
  have blr := (bco.len_res true a0)
  have dq : ¬ (1 + (((bco.res true a0).1).length : Int) < 0) := by omega
  have tq : ((1 + (((bco.res true a0).1).length : Int)) != (1 + (((bco.res true a0).1).length : Int))) = false := bne_self_eq_false _
  go_wp2_with fail
  refine (ints.mark_own _ ((bco.res true a0).1) (1) (wf1.heap.size) (wf3.heap.size) _ OWG6.out (bco.len_res true a0) (by omega) (by omega)).mono ?_
  rintro e wm7 ⟨rfl, hi, S, hw, hs⟩
  clear OWG6
  have BE9 := Lib.hid (BE6.out.trans (hw.below (fun p hp => by have := (hs p hp).1; have := ZZ2.out; have := ZZ4.out; have := ZZ6.out; omega)))
  have HBW9 := Lib.hid (HBW6.out.trans (hw.below (fun p hp => by have := (hs p hp).1; have := ZZ2.out; have := ZZ4.out; have := ZZ6.out; omega)))
  have ZZ9 : Hid (we5.heap.size ≤ wm7.heap.size) := Lib.hid (by have := hw.size; omega)
  clear BE6 HBW6
  clear hw hs
  have VWM := Lib.hid hi
  have HBM := Lib.hid (Below.refl wm7.heap.size wm7)
  clear hi
  go_wp2_with fail
  refine (ints.held_below _ ((bco.res true a0).1).length 1 _ (VWM.out.below HBM.out) (bco.len_res true a0) (by omega) (by omega)).mono ?_
  rintro e wh10 ⟨rfl, hb⟩
  have BE11 := Lib.hid (below_tr BE9.out hb)
  have HBW11 := Lib.hid (below_tr HBW9.out hb)
  have HBM11 := Lib.hid (below_tr HBM.out hb)
  have ZZ11 : Hid (wm7.heap.size ≤ wh10.heap.size) := Lib.hid (by have := (hb).size; simpa using this)
  clear BE9 HBW9 HBM
  clear hb
  go_wp2_with fail
  refine (bco.impl_true a0 _).mono ?_
  rintro e wf12 ⟨uHh, rfl, hu, hb⟩
  obtain ⟨Hha, Hhn, Hhc, rfl⟩ := hu.ints.shape
  have BE13 := Lib.hid (below_tr BE11.out hb)
  have HBW13 := Lib.hid (below_tr HBW11.out hb)
  have HBM13 := Lib.hid (below_tr HBM11.out hb)
  have ZZ13 : Hid (wh10.heap.size ≤ wf12.heap.size) := Lib.hid (by have := (hb).size; simpa using this)
  clear BE11 HBW11 HBM11
  have OWHh := Lib.hid (hu.mono (B' := wh10.heap.size) (by simp) (Nat.le_refl _))
  clear hu hb
  go_wp2_with fail
  refine (ints.eq_same _ _ ((bco.res true a0).1) _ OWHh.out.ints (VWW.out.below HBW13.out) (bco.len_res true a0)).mono ?_
  rintro e we14 ⟨rfl, hb⟩
  have BE15 := Lib.hid (below_tr BE13.out hb)
  have HBW15 := Lib.hid (below_tr HBW13.out hb)
  have HBM15 := Lib.hid (below_tr HBM13.out hb)
  have OWHh15 := Lib.hid (OWHh.out.keep hb)
  have ZZ15 : Hid (wf12.heap.size ≤ we14.heap.size) := Lib.hid (by have := (hb).size; simpa using this)
  clear BE13 HBW13 HBM13 OWHh
  clear hb
  go_wp2_with fail
  refine (ints.held_below _ ((bco.res true a0).1).length 1 _ (VWM.out.below HBM15.out) (bco.len_res true a0) (by omega) (by omega)).mono ?_
  rintro e wh16 ⟨rfl, hb⟩
  have BE17 := Lib.hid (below_tr BE15.out hb)
  have HBW17 := Lib.hid (below_tr HBW15.out hb)
  have HBM17 := Lib.hid (below_tr HBM15.out hb)
  have OWHh17 := Lib.hid (OWHh15.out.keep hb)
  have ZZ17 : Hid (we14.heap.size ≤ wh16.heap.size) := Lib.hid (by have := (hb).size; simpa using this)
  clear BE15 HBW15 HBM15 OWHh15
  clear hb
  go_wp2_with fail
  go_ret
  exact ⟨rfl, BE17.out⟩

/-! ### the frame of the row -/
theorem own : ownKnob Try.prog.godebug = none := by kernel_rfl
theorem laidOut : laidOutB Try.prog = true := by kernel_rfl
set_option maxRecDepth 100000 in
theorem lifted (os : Os) (started : os.Started) (H : Type) (enc : TypeId × Value → H) :
    ReturnsInHanded {} Try.checked os 8 .any (Rows.fnExactFairCodeSpec.pre6 enc Try.prog Try.f8 Rows.fnExactFairCodeRow.domain false) (Rows.fnExactFairCodeSpec.post enc Try.prog Try.f8 false true false false) := by
  refine returnsInHanded_of_change (C := Try.checked) own started (by kernel_rfl) Try.func8
    (ChangeSpec.witness6 (enc := enc) (C := Try.checked) false ⟨#[], #[.int .i64 0], []⟩ 8 (by kernel_rfl) (by kernel_rfl) (by kernel_rfl) (by kernel_rfl)) ?_
  intro W base args ds gs before hval0 hW _ _
  have hval : ∀ (j : Nat) t v, Try.f8.params[j]? = some t → args[j]? = some v → Value.okWide Try.prog W .any base t v := hval0
  have hW' := hW
  obtain ⟨p, q, hA0, hV, rfl, hfz, hnd⟩ := hW
  have hA : DataW.TrodAll enc Try.prog W 0 (fun _ => true) true Try.f8.params.toList args.toList ds p := hA0
  rw [Try.params8] at hA hval
  obtain ⟨v0, vs0, d0, ds0, p0, q0, hargs, rfl, rfl, h0, r0⟩ := trodAll_cons hA
  obtain ⟨rfl, rfl, rfl⟩ := trodAll_nil r0
  obtain rfl : args = #[v0] := by cases args; simp_all
  obtain ⟨rfl, rfl⟩ := trodVars_none hV
  obtain ⟨a0, rfl, rfl, rfl, w0⟩ := open_int Try.underlying3 (hval 0 3 v0 rfl rfl) h0
  clear hA0 hval0
  refine (walk a0 W w0).mono fun e W' ⟨he, bel⟩ => ?_
  subst he
  exact ⟨_, rfl, _, _, _, [], _, [], hW', trodAll_mk1 (shut_bool Try.underlying4 _), (trodAll_cons_mk (shut_int Try.underlying3 w0) trodAll_mk0), rfl, bel.frame _, fun h => by cases h⟩

theorem over : Rows.fnExactFairCodeRow.holds Try.pinned (OpenSpec.ofChange Rows.fnExactFairCodeSpec) :=
  OpenClaim.holds_of_wide 8 Try.f8 rfl rfl rfl rfl rfl rfl rfl ⟨rfl, rfl, rfl, rfl, rfl⟩ rfl rfl rfl rfl rfl (by kernel_rfl) Try.func8 (by kernel_rfl)
    (of_decide_eq_true (by kernel_rfl)) (by unfold Func.isWrapper; first | (rw [if_pos (by decide +kernel)]; kernel_rfl) | (rw [if_neg (by decide +kernel)]; exact ⟨rfl, rfl⟩))
    (fun os started H enc _ => lifted os started H enc)

theorem proved : Rows.FnExactFairCodeSaid := over
#print axioms proved
end Go.Proofs.Ytnjaocgciokpaaa.lawFairCode
