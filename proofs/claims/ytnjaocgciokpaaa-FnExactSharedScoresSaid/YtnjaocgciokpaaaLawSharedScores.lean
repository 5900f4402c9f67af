/- Proved here: for all arguments, the law FnExactSharedScores returns true: the program's function answers as its model in every field, leaves its arguments as they were, and its answer owns its memory. Conditions: none beyond the row. -/
import Derived.Test.YtnjaocgciokpaaaRws
import Derived.Test.YtnjaocgciokpaaaShs
import Derived.Test.YtnjaocgciokpaaaOpen
import Derived.Test.YtnjaocgciokpaaaRows
import Derived.Deep.RegionHeld3
namespace Go.Proofs.Ytnjaocgciokpaaa.lawSharedScores
open Go.ChangeShapes Go.WideShapes Go.ChangeAt Go.RowKit Go.Deep Go.Proofs.Ytnjaocgciokpaaa.base
open Go.ChangeMaps (open_string shut_string)

set_option maxRecDepth 100000 in
set_option maxHeartbeats 4000000 in
theorem walk (a0 : Int) (v1 : Value) (xss1 : List (List Int)) (w : World) (_f0 : (Lit.int .i64 a0).wf = true) (h1 : IRows w v1 xss1) :
    Calls Try.prog 12 #[.int .i64 a0, v1] w fun e w' => e = .returned (.bool true) ∧ Below w.heap.size w w' := by
  obtain ⟨va1, vn1, vc1, rfl⟩ := h1.shape
  have H1 := Lib.hid h1
  clear h1
  by_cases hs1 : rws.sz xss1 (1048576) < 0
  · skip
    go_enter Try.func12, Try.ntmps12
    have BE0 := Lib.hid (Below.refl w.heap.size w)
    go_wp2_with fail
    refine (rws.sz_below _ xss1 (1048576) _ (H1.out.below BE0.out) (by omega) (by omega)).mono ?_
    rintro e wz1 ⟨rfl, hb⟩
    have BE2 := Lib.hid (below_tr BE0.out hb)
    have ZZ2 : Hid (w.heap.size ≤ wz1.heap.size) := Lib.hid (by have := (hb).size; simpa using this)
    clear BE0
    clear hb
    go_wp2_with fail
    go_ret
    exact ⟨rfl, BE2.out⟩
  have hq1 := rws.sz_bound hs1
  have hn1 : rws.total xss1 ≤ 1048576 := by omega
  go_enter Try.func12, Try.ntmps12
  have BE0 := Lib.hid (Below.refl w.heap.size w)
  go_wp2_with fail
  refine (rws.sz_below _ xss1 (1048576) _ (H1.out.below BE0.out) (by omega) (by omega)).mono ?_
  rintro e wz3 ⟨rfl, hb⟩
  have BE4 := Lib.hid (below_tr BE0.out hb)
  have ZZ4 : Hid (w.heap.size ≤ wz3.heap.size) := Lib.hid (by have := (hb).size; simpa using this)
  clear BE0
  clear hb
  go_wp2_with fail
  refine (rws.to_any _ xss1 _ (H1.out.below BE4.out) hn1).mono ?_
  rintro e wc5 ⟨us1, rfl, hu, hb⟩
  obtain ⟨s1a, s1n, s1c, rfl⟩ := hu.rows.shape
  have BE6 := Lib.hid (below_tr BE4.out hb)
  have ZZ6 : Hid (wz3.heap.size ≤ wc5.heap.size) := Lib.hid (by have := (hb).size; simpa using this)
  clear BE4
  have OWs1 := Lib.hid (hu.mono (B' := wz3.heap.size) (by simp) (Nat.le_refl _))
  clear hu hb
  go_wp2_with fail
  refine (shs.spec_any a0 (.slice s1a s1n s1c) xss1 _ OWs1.out.rows).mono ?_
  rintro e wf7 ⟨uW, rfl, hu, hb⟩
  obtain ⟨Wa, Wn, Wc, rfl⟩ := hu.shape
  have BE8 := Lib.hid (below_tr BE6.out hb)
  have OWs18 := Lib.hid (OWs1.out.keep hb)
  have ZZ8 : Hid (wc5.heap.size ≤ wf7.heap.size) := Lib.hid (by have := (hb).size; simpa using this)
  clear BE6 OWs1
  have VWW := Lib.hid hu
  have HBW := Lib.hid (Below.refl wf7.heap.size wf7)
  clear hu hb
  go_wp2_with fail
  refine (rws.to_any _ xss1 _ (H1.out.below BE8.out) hn1).mono ?_
  rintro e wc9 ⟨ux1, rfl, hu, hb⟩
  obtain ⟨x1a, x1n, x1c, rfl⟩ := hu.rows.shape
  have BE10 := Lib.hid (below_tr BE8.out hb)
  have HBW10 := Lib.hid (below_tr HBW.out hb)
  have ZZ10 : Hid (wf7.heap.size ≤ wc9.heap.size) := Lib.hid (by have := (hb).size; simpa using this)
  clear BE8 HBW
  have OWx1 := Lib.hid (hu.mono (B' := wf7.heap.size) (by simp) (Nat.le_refl _))
  clear hu hb
  go_wp2_with fail
  refine (shs.impl_any a0 (.slice x1a x1n x1c) xss1 _ OWx1.out.rows).mono ?_
  rintro e wf11 ⟨uG, rfl, hu, hb⟩
  obtain ⟨Ga, Gn, Gc, rfl⟩ := hu.ints.shape
  have BE12 := Lib.hid (below_tr BE10.out hb)
  have HBW12 := Lib.hid (below_tr HBW10.out hb)
  have OWx112 := Lib.hid (OWx1.out.keep hb)
  have ZZ12 : Hid (wc9.heap.size ≤ wf11.heap.size) := Lib.hid (by have := (hb).size; simpa using this)
  clear BE10 HBW10 OWx1
  have OWG := Lib.hid (hu.mono (B' := wc9.heap.size) (by simp) (Nat.le_refl _))
  clear hu hb
  have tk0 : (((shs.res a0 xss1).2) != ((shs.res a0 xss1).2)) = false := bne_self_eq_false _
  go_wp2_with fail
  refine (ints.eq_same _ _ ((shs.res a0 xss1).1) _ OWG.out.ints (VWW.out.below HBW12.out) (shs.len_res a0 xss1)).mono ?_
  rintro e we13 ⟨rfl, hb⟩
  have BE14 := Lib.hid (below_tr BE12.out hb)
  have HBW14 := Lib.hid (below_tr HBW12.out hb)
  have OWx114 := Lib.hid (OWx112.out.keep hb)
  have OWG14 := Lib.hid (OWG.out.keep hb)
  have ZZ14 : Hid (wf11.heap.size ≤ we13.heap.size) := Lib.hid (by have := (hb).size; simpa using this)
  clear BE12 HBW12 OWx112 OWG
  clear hb
  go_wp2_with fail
  go_wp2_with fail
  refine (rws.to_any _ xss1 _ (H1.out.below BE14.out) hn1).mono ?_
  rintro e wc15 ⟨uy1, rfl, hu, hb⟩
  obtain ⟨y1a, y1n, y1c, rfl⟩ := hu.rows.shape
  have BE16 := Lib.hid (below_tr BE14.out hb)
  have HBW16 := Lib.hid (below_tr HBW14.out hb)
  have OWx116 := Lib.hid (OWx114.out.keep hb)
  have OWG16 := Lib.hid (OWG14.out.keep hb)
  have ZZ16 : Hid (we13.heap.size ≤ wc15.heap.size) := Lib.hid (by have := (hb).size; simpa using this)
  clear BE14 HBW14 OWx114 OWG14
  have OWy1 := Lib.hid (hu.mono (B' := we13.heap.size) (by simp) (Nat.le_refl _))
  clear hu hb
  go_wp2_with fail
  refine (rws.eq_same _ _ xss1 _ OWx116.out.rows OWy1.out.rows hn1).mono ?_
  rintro e we17 ⟨rfl, hb⟩
  have BE18 := Lib.hid (below_tr BE16.out hb)
  have HBW18 := Lib.hid (below_tr HBW16.out hb)
  have OWx118 := Lib.hid (OWx116.out.keep hb)
  have OWG18 := Lib.hid (OWG16.out.keep hb)
  have OWy118 := Lib.hid (OWy1.out.keep hb)
  have ZZ18 : Hid (wc15.heap.size ≤ we17.heap.size) := Lib.hid (by have := (hb).size; simpa using this)
  clear BE16 HBW16 OWx116 OWG16 OWy1
  clear hb
  clear OWy118
  have bl1 := rws.before_le xss1 xss1.length
  go_wp2_with fail
  refine (rws.mark_any _ xss1 (1) (wf7.heap.size) (wc9.heap.size) _ OWx118.out hn1 (by omega) (by omega)).mono ?_
  rintro e wm19 ⟨rfl, hi, S, hw, hs⟩
  clear OWx118
  have BE21 := Lib.hid (BE18.out.trans (hw.below (fun p hp => by have := (hs p hp).1; have := ZZ4.out; have := ZZ6.out; have := ZZ8.out; have := ZZ10.out; have := ZZ12.out; have := ZZ14.out; have := ZZ16.out; have := ZZ18.out; omega)))
  have HBW21 := Lib.hid (HBW18.out.trans (hw.below (fun p hp => by have := (hs p hp).1; have := ZZ4.out; have := ZZ6.out; have := ZZ8.out; have := ZZ10.out; have := ZZ12.out; have := ZZ14.out; have := ZZ16.out; have := ZZ18.out; omega)))
  have OWG21 := Lib.hid (OWG18.out.wrote hw (fun p hp => by have := hs p hp; have := ZZ4.out; have := ZZ6.out; have := ZZ8.out; have := ZZ10.out; have := ZZ12.out; have := ZZ14.out; have := ZZ16.out; have := ZZ18.out; omega))
  have ZZ21 : Hid (we17.heap.size ≤ wm19.heap.size) := Lib.hid (by have := hw.size; omega)
  clear BE18 HBW18 OWG18
  clear hw hs
  clear hi
  have dk : decide (1 + (rws.before xss1 xss1.length : Int) < 0) = false := by simp; omega
  have dk' : ¬ (1 + (rws.before xss1 xss1.length : Int) < 0) := by omega
  go_wp2_with fail
  refine (ints.eq_same _ _ ((shs.res a0 xss1).1) _ OWG21.out.ints (VWW.out.below HBW21.out) (shs.len_res a0 xss1)).mono ?_
  rintro e we22 ⟨rfl, hb⟩
  have BE23 := Lib.hid (below_tr BE21.out hb)
  have HBW23 := Lib.hid (below_tr HBW21.out hb)
  have OWG23 := Lib.hid (OWG21.out.keep hb)
  have ZZ23 : Hid (wm19.heap.size ≤ we22.heap.size) := Lib.hid (by have := (hb).size; simpa using this)
  clear BE21 HBW21 OWG21
  clear hb
  have blr := (shs.len_res a0 xss1)
  have dq : ¬ (1 + (((shs.res a0 xss1).1).length : Int) < 0) := by omega
  have tq : ((1 + (((shs.res a0 xss1).1).length : Int)) != (1 + (((shs.res a0 xss1).1).length : Int))) = false := bne_self_eq_false _
  go_wp2_with fail
  refine (ints.mark_own _ ((shs.res a0 xss1).1) (1) (wc9.heap.size) (wf11.heap.size) _ OWG23.out (shs.len_res a0 xss1) (by omega) (by omega)).mono ?_
  rintro e wm24 ⟨rfl, hi, S, hw, hs⟩
  clear OWG23
  have BE26 := Lib.hid (BE23.out.trans (hw.below (fun p hp => by have := (hs p hp).1; have := ZZ4.out; have := ZZ6.out; have := ZZ8.out; have := ZZ10.out; have := ZZ12.out; have := ZZ14.out; have := ZZ16.out; have := ZZ18.out; have := ZZ21.out; have := ZZ23.out; omega)))
  have HBW26 := Lib.hid (HBW23.out.trans (hw.below (fun p hp => by have := (hs p hp).1; have := ZZ4.out; have := ZZ6.out; have := ZZ8.out; have := ZZ10.out; have := ZZ12.out; have := ZZ14.out; have := ZZ16.out; have := ZZ18.out; have := ZZ21.out; have := ZZ23.out; omega)))
  have ZZ26 : Hid (we22.heap.size ≤ wm24.heap.size) := Lib.hid (by have := hw.size; omega)
  clear BE23 HBW23
  clear hw hs
  have VWM := Lib.hid hi
  have HBM := Lib.hid (Below.refl wm24.heap.size wm24)
  clear hi
  go_wp2_with fail
  refine (ints.held_below _ ((shs.res a0 xss1).1).length 1 _ (VWM.out.below HBM.out) (shs.len_res a0 xss1) (by omega) (by omega)).mono ?_
  rintro e wh27 ⟨rfl, hb⟩
  have BE28 := Lib.hid (below_tr BE26.out hb)
  have HBW28 := Lib.hid (below_tr HBW26.out hb)
  have HBM28 := Lib.hid (below_tr HBM.out hb)
  have ZZ28 : Hid (wm24.heap.size ≤ wh27.heap.size) := Lib.hid (by have := (hb).size; simpa using this)
  clear BE26 HBW26 HBM
  clear hb
  go_wp2_with fail
  refine (rws.to_any _ xss1 _ (H1.out.below BE28.out) hn1).mono ?_
  rintro e wc29 ⟨uz1, rfl, hu, hb⟩
  obtain ⟨z1a, z1n, z1c, rfl⟩ := hu.rows.shape
  have BE30 := Lib.hid (below_tr BE28.out hb)
  have HBW30 := Lib.hid (below_tr HBW28.out hb)
  have HBM30 := Lib.hid (below_tr HBM28.out hb)
  have ZZ30 : Hid (wh27.heap.size ≤ wc29.heap.size) := Lib.hid (by have := (hb).size; simpa using this)
  clear BE28 HBW28 HBM28
  have OWz1 := Lib.hid (hu.mono (B' := wh27.heap.size) (by simp) (Nat.le_refl _))
  clear hu hb
  go_wp2_with fail
  refine (shs.impl_any a0 (.slice z1a z1n z1c) xss1 _ OWz1.out.rows).mono ?_
  rintro e wf31 ⟨uHh, rfl, hu, hb⟩
  obtain ⟨Hha, Hhn, Hhc, rfl⟩ := hu.ints.shape
  have BE32 := Lib.hid (below_tr BE30.out hb)
  have HBW32 := Lib.hid (below_tr HBW30.out hb)
  have HBM32 := Lib.hid (below_tr HBM30.out hb)
  have OWz132 := Lib.hid (OWz1.out.keep hb)
  have ZZ32 : Hid (wc29.heap.size ≤ wf31.heap.size) := Lib.hid (by have := (hb).size; simpa using this)
  clear BE30 HBW30 HBM30 OWz1
  have OWHh := Lib.hid (hu.mono (B' := wc29.heap.size) (by simp) (Nat.le_refl _))
  clear hu hb
  clear OWz132
  go_wp2_with fail
  refine (ints.eq_same _ _ ((shs.res a0 xss1).1) _ OWHh.out.ints (VWW.out.below HBW32.out) (shs.len_res a0 xss1)).mono ?_
  rintro e we33 ⟨rfl, hb⟩
  have BE34 := Lib.hid (below_tr BE32.out hb)
  have HBW34 := Lib.hid (below_tr HBW32.out hb)
  have HBM34 := Lib.hid (below_tr HBM32.out hb)
  have OWHh34 := Lib.hid (OWHh.out.keep hb)
  have ZZ34 : Hid (wf31.heap.size ≤ we33.heap.size) := Lib.hid (by have := (hb).size; simpa using this)
  clear BE32 HBW32 HBM32 OWHh
  clear hb
  go_wp2_with fail
  refine (ints.held_below _ ((shs.res a0 xss1).1).length 1 _ (VWM.out.below HBM34.out) (shs.len_res a0 xss1) (by omega) (by omega)).mono ?_
  rintro e wh35 ⟨rfl, hb⟩
  have BE36 := Lib.hid (below_tr BE34.out hb)
  have HBW36 := Lib.hid (below_tr HBW34.out hb)
  have HBM36 := Lib.hid (below_tr HBM34.out hb)
  have OWHh36 := Lib.hid (OWHh34.out.keep hb)
  have ZZ36 : Hid (we33.heap.size ≤ wh35.heap.size) := Lib.hid (by have := (hb).size; simpa using this)
  clear BE34 HBW34 HBM34 OWHh34
  clear hb
  go_wp2_with fail
  go_ret
  exact ⟨rfl, BE36.out⟩

/-! ### the frame of the row -/
theorem own : ownKnob Try.prog.godebug = none := by kernel_rfl
theorem laidOut : laidOutB Try.prog = true := by kernel_rfl
set_option maxRecDepth 100000 in
theorem lifted (os : Os) (started : os.Started) (H : Type) (enc : TypeId × Value → H) :
    ReturnsInHanded {} Try.checked os 12 .any (Rows.fnExactSharedScoresSpec.pre6 enc Try.prog Try.f12 Rows.fnExactSharedScoresRow.domain false) (Rows.fnExactSharedScoresSpec.post enc Try.prog Try.f12 false true false false) := by
  refine returnsInHanded_of_change (C := Try.checked) own started (by kernel_rfl) Try.func12
    (ChangeSpec.witness6 (enc := enc) (C := Try.checked) false ⟨#[], #[.int .i64 0, .slice none 0 0], []⟩ 8 (by kernel_rfl) (by kernel_rfl) (by kernel_rfl) (by kernel_rfl)) ?_
  intro W base args ds gs before hval0 hW _ _
  have hval : ∀ (j : Nat) t v, Try.f12.params[j]? = some t → args[j]? = some v → Value.okWide Try.prog W .any base t v := hval0
  have hW' := hW
  obtain ⟨p, q, hA0, hV, rfl, hfz, hnd⟩ := hW
  have hA : DataW.TrodAll enc Try.prog W 0 (fun _ => true) true Try.f12.params.toList args.toList ds p := hA0
  rw [Try.params12] at hA hval
  obtain ⟨v0, vs0, d0, ds0, p0, q0, hargs, rfl, rfl, h0, r0⟩ := trodAll_cons hA
  obtain ⟨v1, vs1, d1, ds1, p1, q1, rfl, rfl, rfl, h1, r1⟩ := trodAll_cons r0
  obtain ⟨rfl, rfl, rfl⟩ := trodAll_nil r1
  obtain rfl : args = #[v0, v1] := by cases args; simp_all
  obtain ⟨rfl, rfl⟩ := trodVars_none hV
  obtain ⟨a0, rfl, rfl, rfl, w0⟩ := open_int Try.underlying3 (hval 0 3 v0 rfl rfl) h0
  have lt1 : ∀ x ∈ p1, x.block < W.heap.size := by obtain ⟨m, hm⟩ := h1; exact DataW.trod_lt m _ _ _ hm
  obtain ⟨xss1, g1⟩ := opn.rows_of_trod Try.underlying40 Try.underlying22 Try.underlying3 (by kernel_rfl) (by kernel_rfl) (hval 1 40 v1 rfl rfl) h1
  clear hA0 hval0
  refine (walk a0 v1 xss1 W w0 g1).mono fun e W' ⟨he, bel⟩ => ?_
  subst he
  exact ⟨_, rfl, _, _, _, [], _, [], hW', trodAll_mk1 (shut_bool Try.underlying4 _), (trodAll_cons_mk (shut_int Try.underlying3 w0) (trodAll_cons_mk (Below.trod laidOut (by kernel_rfl) (of_decide_eq_true (by kernel_rfl)) h1 bel lt1) trodAll_mk0)), rfl, bel.frame _, fun h => by cases h⟩

theorem over : Rows.fnExactSharedScoresRow.holds Try.pinned (OpenSpec.ofChange Rows.fnExactSharedScoresSpec) :=
  OpenClaim.holds_of_wide 12 Try.f12 rfl rfl rfl rfl rfl rfl rfl ⟨rfl, rfl, rfl, rfl, rfl⟩ rfl rfl rfl rfl rfl (by kernel_rfl) Try.func12 (by kernel_rfl)
    (of_decide_eq_true (by kernel_rfl)) (by unfold Func.isWrapper; first | (rw [if_pos (by decide +kernel)]; kernel_rfl) | (rw [if_neg (by decide +kernel)]; exact ⟨rfl, rfl⟩))
    (fun os started H enc _ => lifted os started H enc)

theorem proved : Rows.FnExactSharedScoresSaid := over
#print axioms proved
end Go.Proofs.Ytnjaocgciokpaaa.lawSharedScores
