/- Proved here: for all arguments, the law FnExactCodeGuesses returns true: the program's function answers as its model in every field, leaves its arguments as they were, and its answer owns its memory. Conditions: none beyond the row. -/
import Derived.Test.YtnjaocgciokpaaaInts
import Derived.Test.YtnjaocgciokpaaaCdw
import Derived.Test.YtnjaocgciokpaaaPrt
import Derived.Test.YtnjaocgciokpaaaOpen
import Derived.Test.YtnjaocgciokpaaaRows
import Derived.Deep.RegionHeld3
namespace Go.Proofs.Ytnjaocgciokpaaa.lawCodeGuesses
open Go.ChangeShapes Go.WideShapes Go.ChangeAt Go.RowKit Go.Deep Go.Proofs.Ytnjaocgciokpaaa.base
open Go.ChangeMaps (open_string shut_string)

set_option maxRecDepth 100000 in
set_option maxHeartbeats 4000000 in
theorem walk (a0 : Int) (v1 : Value) (xs1 : List Int) (w : World) (_f0 : (Lit.int .i64 a0).wf = true) (h1 : Ints w v1 xs1) :
    Calls Try.prog 5 #[.int .i64 a0, v1] w fun e w' => e = .returned (.bool true) ∧ Below w.heap.size w w' := by
  obtain ⟨va1, vc1, hv1⟩ : ∃ A c, v1 = .slice A xs1.length c := by obtain ⟨A, c, hv, _⟩ := h1; exact ⟨A, c, by rw [hv, len_i64s]⟩
  subst hv1
  have H1 := Lib.hid h1
  clear h1
  by_cases hs1 : 1048576 < (xs1.length : Int)
  · skip
    go_enter Try.func5, Try.ntmps5
    have BE0 := Lib.hid (Below.refl w.heap.size w)
    go_wp2_with fail
    go_ret
    exact ⟨rfl, BE0.out⟩
  have hn1 : xs1.length ≤ 1048576 := by omega
  go_enter Try.func5, Try.ntmps5
  have BE0 := Lib.hid (Below.refl w.heap.size w)
  go_wp2_with fail
  refine (ints.to_any _ xs1 _ (H1.out.below BE0.out) hn1).mono ?_
  rintro e wc1 ⟨us1, rfl, hu, hb⟩
  obtain ⟨s1a, s1n, s1c, rfl⟩ := hu.ints.shape
  have BE2 := Lib.hid (below_tr BE0.out hb)
  have ZZ2 : Hid (w.heap.size ≤ wc1.heap.size) := Lib.hid (by have := (hb).size; simpa using this)
  clear BE0
  have OWs1 := Lib.hid (hu.mono (B' := w.heap.size) (by simp) (Nat.le_refl _))
  clear hu hb
  go_wp2_with fail
  refine (cdw.spec_any a0 (.slice s1a s1n s1c) xs1 _ OWs1.out.ints).mono ?_
  rintro e wf3 ⟨uW, rfl, hu, hb⟩
  obtain ⟨Wa, Wn, Wc, rfl⟩ := hu.shape
  have BE4 := Lib.hid (below_tr BE2.out hb)
  have OWs14 := Lib.hid (OWs1.out.keep hb)
  have ZZ4 : Hid (wc1.heap.size ≤ wf3.heap.size) := Lib.hid (by have := (hb).size; simpa using this)
  clear BE2 OWs1
  have VWW := Lib.hid hu
  have HBW := Lib.hid (Below.refl wf3.heap.size wf3)
  clear hu hb
  go_wp2_with fail
  refine (ints.to_any _ xs1 _ (H1.out.below BE4.out) hn1).mono ?_
  rintro e wc5 ⟨ux1, rfl, hu, hb⟩
  obtain ⟨x1a, x1n, x1c, rfl⟩ := hu.ints.shape
  have BE6 := Lib.hid (below_tr BE4.out hb)
  have HBW6 := Lib.hid (below_tr HBW.out hb)
  have ZZ6 : Hid (wf3.heap.size ≤ wc5.heap.size) := Lib.hid (by have := (hb).size; simpa using this)
  clear BE4 HBW
  have OWx1 := Lib.hid (hu.mono (B' := wf3.heap.size) (by simp) (Nat.le_refl _))
  clear hu hb
  go_wp2_with fail
  refine (cdw.impl_any a0 (.slice x1a x1n x1c) xs1 _ OWx1.out.ints).mono ?_
  rintro e wf7 ⟨uG, rfl, hu, hb⟩
  obtain ⟨Ga, Gn, Gc, rfl⟩ := hu.pairs.shape
  have BE8 := Lib.hid (below_tr BE6.out hb)
  have HBW8 := Lib.hid (below_tr HBW6.out hb)
  have OWx18 := Lib.hid (OWx1.out.keep hb)
  have ZZ8 : Hid (wc5.heap.size ≤ wf7.heap.size) := Lib.hid (by have := (hb).size; simpa using this)
  clear BE6 HBW6 OWx1
  have OWG := Lib.hid (hu.mono (B' := wc5.heap.size) (by simp) (Nat.le_refl _))
  clear hu hb
  have tk0 : (((cdw.res a0 xs1).2) != ((cdw.res a0 xs1).2)) = false := bne_self_eq_false _
  go_wp2_with fail
  refine (prt.eq_same _ _ ((cdw.res a0 xs1).1) _ OWG.out.pairs (VWW.out.below HBW8.out)).mono ?_
  rintro e we9 ⟨rfl, hb⟩
  have BE10 := Lib.hid (below_tr BE8.out hb)
  have HBW10 := Lib.hid (below_tr HBW8.out hb)
  have OWx110 := Lib.hid (OWx18.out.keep hb)
  have OWG10 := Lib.hid (OWG.out.keep hb)
  have ZZ10 : Hid (wf7.heap.size ≤ we9.heap.size) := Lib.hid (by have := (hb).size; simpa using this)
  clear BE8 HBW8 OWx18 OWG
  clear hb
  go_wp2_with fail
  go_wp2_with fail
  refine (ints.to_any _ xs1 _ (H1.out.below BE10.out) hn1).mono ?_
  rintro e wc11 ⟨uy1, rfl, hu, hb⟩
  obtain ⟨y1a, y1n, y1c, rfl⟩ := hu.ints.shape
  have BE12 := Lib.hid (below_tr BE10.out hb)
  have HBW12 := Lib.hid (below_tr HBW10.out hb)
  have OWx112 := Lib.hid (OWx110.out.keep hb)
  have OWG12 := Lib.hid (OWG10.out.keep hb)
  have ZZ12 : Hid (we9.heap.size ≤ wc11.heap.size) := Lib.hid (by have := (hb).size; simpa using this)
  clear BE10 HBW10 OWx110 OWG10
  have OWy1 := Lib.hid (hu.mono (B' := we9.heap.size) (by simp) (Nat.le_refl _))
  clear hu hb
  go_wp2_with fail
  refine (ints.eq_same _ _ xs1 _ OWx112.out.ints OWy1.out.ints hn1).mono ?_
  rintro e we13 ⟨rfl, hb⟩
  have BE14 := Lib.hid (below_tr BE12.out hb)
  have HBW14 := Lib.hid (below_tr HBW12.out hb)
  have OWx114 := Lib.hid (OWx112.out.keep hb)
  have OWG14 := Lib.hid (OWG12.out.keep hb)
  have OWy114 := Lib.hid (OWy1.out.keep hb)
  have ZZ14 : Hid (wc11.heap.size ≤ we13.heap.size) := Lib.hid (by have := (hb).size; simpa using this)
  clear BE12 HBW12 OWx112 OWG12 OWy1
  clear hb
  clear OWy114
  go_wp2_with fail
  refine (ints.mark_own _ xs1 (1) (wf3.heap.size) (wc5.heap.size) _ OWx114.out hn1 (by omega) (by omega)).mono ?_
  rintro e wm15 ⟨rfl, hi, S, hw, hs⟩
  clear OWx114
  have BE17 := Lib.hid (BE14.out.trans (hw.below (fun p hp => by have := (hs p hp).1; have := ZZ2.out; have := ZZ4.out; have := ZZ6.out; have := ZZ8.out; have := ZZ10.out; have := ZZ12.out; have := ZZ14.out; omega)))
  have HBW17 := Lib.hid (HBW14.out.trans (hw.below (fun p hp => by have := (hs p hp).1; have := ZZ2.out; have := ZZ4.out; have := ZZ6.out; have := ZZ8.out; have := ZZ10.out; have := ZZ12.out; have := ZZ14.out; omega)))
  have OWG17 := Lib.hid (OWG14.out.wrote hw (fun p hp => by have := hs p hp; have := ZZ2.out; have := ZZ4.out; have := ZZ6.out; have := ZZ8.out; have := ZZ10.out; have := ZZ12.out; have := ZZ14.out; omega))
  have ZZ17 : Hid (we13.heap.size ≤ wm15.heap.size) := Lib.hid (by have := hw.size; omega)
  clear BE14 HBW14 OWG14
  clear hw hs
  clear hi
  have dk : decide (1 + (xs1.length : Int) < 0) = false := by simp; omega
  have dk' : ¬ (1 + (xs1.length : Int) < 0) := by omega
  go_wp2_with fail
  refine (prt.eq_same _ _ ((cdw.res a0 xs1).1) _ OWG17.out.pairs (VWW.out.below HBW17.out)).mono ?_
  rintro e we18 ⟨rfl, hb⟩
  have BE19 := Lib.hid (below_tr BE17.out hb)
  have HBW19 := Lib.hid (below_tr HBW17.out hb)
  have OWG19 := Lib.hid (OWG17.out.keep hb)
  have ZZ19 : Hid (wm15.heap.size ≤ we18.heap.size) := Lib.hid (by have := (hb).size; simpa using this)
  clear BE17 HBW17 OWG17
  clear hb
  have blr := (cdw.len_res a0 xs1)
  have dq : ¬ (1 + 2 * (((cdw.res a0 xs1).1).length : Int) < 0) := by omega
  have tq : ((1 + 2 * (((cdw.res a0 xs1).1).length : Int)) != (1 + 2 * (((cdw.res a0 xs1).1).length : Int))) = false := bne_self_eq_false _
  go_wp2_with fail
  refine (prt.mark_own _ ((cdw.res a0 xs1).1) (1) (wc5.heap.size) (wf7.heap.size) _ OWG19.out (cdw.len_res a0 xs1) (by omega) (by omega)).mono ?_
  rintro e wm20 ⟨rfl, hi, S, hw, hs⟩
  clear OWG19
  have BE22 := Lib.hid (BE19.out.trans (hw.below (fun p hp => by have := (hs p hp).1; have := ZZ2.out; have := ZZ4.out; have := ZZ6.out; have := ZZ8.out; have := ZZ10.out; have := ZZ12.out; have := ZZ14.out; have := ZZ17.out; have := ZZ19.out; omega)))
  have HBW22 := Lib.hid (HBW19.out.trans (hw.below (fun p hp => by have := (hs p hp).1; have := ZZ2.out; have := ZZ4.out; have := ZZ6.out; have := ZZ8.out; have := ZZ10.out; have := ZZ12.out; have := ZZ14.out; have := ZZ17.out; have := ZZ19.out; omega)))
  have ZZ22 : Hid (we18.heap.size ≤ wm20.heap.size) := Lib.hid (by have := hw.size; omega)
  clear BE19 HBW19
  clear hw hs
  have VWM := Lib.hid hi
  have HBM := Lib.hid (Below.refl wm20.heap.size wm20)
  clear hi
  go_wp2_with fail
  refine (calls_below (prt.held_any _ ((cdw.res a0 xs1).1).length 1 _ (VWM.out.below HBM.out) (cdw.len_res a0 xs1) (by omega) (by omega))).mono ?_
  rintro e wh23 ⟨rfl, hb⟩
  have BE24 := Lib.hid (below_tr BE22.out hb)
  have HBW24 := Lib.hid (below_tr HBW22.out hb)
  have HBM24 := Lib.hid (below_tr HBM.out hb)
  have ZZ24 : Hid (wm20.heap.size ≤ wh23.heap.size) := Lib.hid (by have := (hb).size; simpa using this)
  clear BE22 HBW22 HBM
  clear hb
  go_wp2_with fail
  refine (ints.to_any _ xs1 _ (H1.out.below BE24.out) hn1).mono ?_
  rintro e wc25 ⟨uz1, rfl, hu, hb⟩
  obtain ⟨z1a, z1n, z1c, rfl⟩ := hu.ints.shape
  have BE26 := Lib.hid (below_tr BE24.out hb)
  have HBW26 := Lib.hid (below_tr HBW24.out hb)
  have HBM26 := Lib.hid (below_tr HBM24.out hb)
  have ZZ26 : Hid (wh23.heap.size ≤ wc25.heap.size) := Lib.hid (by have := (hb).size; simpa using this)
  clear BE24 HBW24 HBM24
  have OWz1 := Lib.hid (hu.mono (B' := wh23.heap.size) (by simp) (Nat.le_refl _))
  clear hu hb
  go_wp2_with fail
  refine (cdw.impl_any a0 (.slice z1a z1n z1c) xs1 _ OWz1.out.ints).mono ?_
  rintro e wf27 ⟨uHh, rfl, hu, hb⟩
  obtain ⟨Hha, Hhn, Hhc, rfl⟩ := hu.pairs.shape
  have BE28 := Lib.hid (below_tr BE26.out hb)
  have HBW28 := Lib.hid (below_tr HBW26.out hb)
  have HBM28 := Lib.hid (below_tr HBM26.out hb)
  have OWz128 := Lib.hid (OWz1.out.keep hb)
  have ZZ28 : Hid (wc25.heap.size ≤ wf27.heap.size) := Lib.hid (by have := (hb).size; simpa using this)
  clear BE26 HBW26 HBM26 OWz1
  have OWHh := Lib.hid (hu.mono (B' := wc25.heap.size) (by simp) (Nat.le_refl _))
  clear hu hb
  clear OWz128
  go_wp2_with fail
  refine (prt.eq_same _ _ ((cdw.res a0 xs1).1) _ OWHh.out.pairs (VWW.out.below HBW28.out)).mono ?_
  rintro e we29 ⟨rfl, hb⟩
  have BE30 := Lib.hid (below_tr BE28.out hb)
  have HBW30 := Lib.hid (below_tr HBW28.out hb)
  have HBM30 := Lib.hid (below_tr HBM28.out hb)
  have OWHh30 := Lib.hid (OWHh.out.keep hb)
  have ZZ30 : Hid (wf27.heap.size ≤ we29.heap.size) := Lib.hid (by have := (hb).size; simpa using this)
  clear BE28 HBW28 HBM28 OWHh
  clear hb
  go_wp2_with fail
  refine (calls_below (prt.held_any _ ((cdw.res a0 xs1).1).length 1 _ (VWM.out.below HBM30.out) (cdw.len_res a0 xs1) (by omega) (by omega))).mono ?_
  rintro e wh31 ⟨rfl, hb⟩
  have BE32 := Lib.hid (below_tr BE30.out hb)
  have HBW32 := Lib.hid (below_tr HBW30.out hb)
  have HBM32 := Lib.hid (below_tr HBM30.out hb)
  have OWHh32 := Lib.hid (OWHh30.out.keep hb)
  have ZZ32 : Hid (we29.heap.size ≤ wh31.heap.size) := Lib.hid (by have := (hb).size; simpa using this)
  clear BE30 HBW30 HBM30 OWHh30
  clear hb
  go_wp2_with fail
  go_ret
  exact ⟨rfl, BE32.out⟩

/-! ### the frame of the row -/
theorem own : ownKnob Try.prog.godebug = none := by kernel_rfl
theorem laidOut : laidOutB Try.prog = true := by kernel_rfl
set_option maxRecDepth 100000 in
theorem lifted (os : Os) (started : os.Started) (H : Type) (enc : TypeId × Value → H) :
    ReturnsInHanded {} Try.checked os 5 .any (Rows.fnExactCodeGuessesSpec.pre6 enc Try.prog Try.f5 Rows.fnExactCodeGuessesRow.domain false) (Rows.fnExactCodeGuessesSpec.post enc Try.prog Try.f5 false true false false) := by
  refine returnsInHanded_of_change (C := Try.checked) own started (by kernel_rfl) Try.func5
    (ChangeSpec.witness6 (enc := enc) (C := Try.checked) false ⟨#[], #[.int .i64 0, .slice none 0 0], []⟩ 8 (by kernel_rfl) (by kernel_rfl) (by kernel_rfl) (by kernel_rfl)) ?_
  intro W base args ds gs before hval0 hW _ _
  have hval : ∀ (j : Nat) t v, Try.f5.params[j]? = some t → args[j]? = some v → Value.okWide Try.prog W .any base t v := hval0
  have hW' := hW
  obtain ⟨p, q, hA0, hV, rfl, hfz, hnd⟩ := hW
  have hA : DataW.TrodAll enc Try.prog W 0 (fun _ => true) true Try.f5.params.toList args.toList ds p := hA0
  rw [Try.params5] at hA hval
  obtain ⟨v0, vs0, d0, ds0, p0, q0, hargs, rfl, rfl, h0, r0⟩ := trodAll_cons hA
  obtain ⟨v1, vs1, d1, ds1, p1, q1, rfl, rfl, rfl, h1, r1⟩ := trodAll_cons r0
  obtain ⟨rfl, rfl, rfl⟩ := trodAll_nil r1
  obtain rfl : args = #[v0, v1] := by cases args; simp_all
  obtain ⟨rfl, rfl⟩ := trodVars_none hV
  obtain ⟨a0, rfl, rfl, rfl, w0⟩ := open_int Try.underlying3 (hval 0 3 v0 rfl rfl) h0
  have lt1 : ∀ x ∈ p1, x.block < W.heap.size := by obtain ⟨m, hm⟩ := h1; exact DataW.trod_lt m _ _ _ hm
  obtain ⟨xs1, g1⟩ := opn.ints_of_trod Try.underlying22 Try.underlying3 (by kernel_rfl) (hval 1 22 v1 rfl rfl) h1
  clear hA0 hval0
  refine (walk a0 v1 xs1 W w0 g1).mono fun e W' ⟨he, bel⟩ => ?_
  subst he
  exact ⟨_, rfl, _, _, _, [], _, [], hW', trodAll_mk1 (shut_bool Try.underlying4 _), (trodAll_cons_mk (shut_int Try.underlying3 w0) (trodAll_cons_mk (Below.trod laidOut (by kernel_rfl) (of_decide_eq_true (by kernel_rfl)) h1 bel lt1) trodAll_mk0)), rfl, bel.frame _, fun h => by cases h⟩

theorem over : Rows.fnExactCodeGuessesRow.holds Try.pinned (OpenSpec.ofChange Rows.fnExactCodeGuessesSpec) :=
  OpenClaim.holds_of_wide 5 Try.f5 rfl rfl rfl rfl rfl rfl rfl ⟨rfl, rfl, rfl, rfl, rfl⟩ rfl rfl rfl rfl rfl (by kernel_rfl) Try.func5 (by kernel_rfl)
    (of_decide_eq_true (by kernel_rfl)) (by unfold Func.isWrapper; first | (rw [if_pos (by decide +kernel)]; kernel_rfl) | (rw [if_neg (by decide +kernel)]; exact ⟨rfl, rfl⟩))
    (fun os started H enc _ => lifted os started H enc)

theorem proved : Rows.FnExactCodeGuessesSaid := over
#print axioms proved
end Go.Proofs.Ytnjaocgciokpaaa.lawCodeGuesses
