/- Proved here: for all arguments, the law FnExactLocalValue returns true: the program's function answers as its model in every field, leaves its arguments as they were, and its answer owns its memory. Conditions: none beyond the row. -/
import Derived.Test.YtkajebhagkbcaabBox
import Derived.Test.YtkajebhagkbcaabLocalb
import Derived.Test.YtkajebhagkbcaabLocalc
import Derived.Test.YtkajebhagkbcaabOpen
import Derived.Test.YtkajebhagkbcaabRows
import Derived.Deep.RegionHeld3
namespace Go.Proofs.Ytkajebhagkbcaab.lawLocalValue
open Go.ChangeShapes Go.WideShapes Go.ChangeAt Go.RowKit Go.Deep Go.Proofs.Ytkajebhagkbcaab.base
open Go.ChangeMaps (open_string shut_string)

set_option maxRecDepth 100000 in
set_option maxHeartbeats 4000000 in
theorem walk (a0 : Int) (a1 : Int) (v2 : Value) (xss2 : List (List Int)) (w : World) (_f0 : (Lit.int .i64 a0).wf = true) (_f1 : (Lit.int .i64 a1).wf = true) (h2 : IRows w v2 xss2) :
    Calls Try.prog 3 #[.int .i64 a0, .int .i64 a1, v2] w fun e w' => e = .returned (.bool true) ∧ Below w.heap.size w w' := by
  obtain ⟨va2, vn2, vc2, rfl⟩ := h2.shape
  have H2 := Lib.hid h2
  clear h2
  by_cases hs2 : rws.sz xss2 (1048576) < 0
  · skip
    go_enter Try.func3, Try.ntmps3
    have BE0 := Lib.hid (Below.refl w.heap.size w)
    go_wp2_with fail
    refine (rws.sz_below _ xss2 (1048576) _ (H2.out.below BE0.out) (by omega) (by omega)).mono ?_
    rintro e wz1 ⟨rfl, hb⟩
    have BE2 := Lib.hid (below_tr BE0.out hb)
    have ZZ2 : Hid (w.heap.size ≤ wz1.heap.size) := Lib.hid (by have := (hb).size; simpa using this)
    clear BE0
    clear hb
    go_wp2_with fail
    go_ret
    exact ⟨rfl, BE2.out⟩
  have hq2 := rws.sz_bound hs2
  have hn2 : rws.total xss2 ≤ 1048576 := by omega
  go_enter Try.func3, Try.ntmps3
  have BE0 := Lib.hid (Below.refl w.heap.size w)
  go_wp2_with fail
  refine (rws.sz_below _ xss2 (1048576) _ (H2.out.below BE0.out) (by omega) (by omega)).mono ?_
  rintro e wz3 ⟨rfl, hb⟩
  have BE4 := Lib.hid (below_tr BE0.out hb)
  have ZZ4 : Hid (w.heap.size ≤ wz3.heap.size) := Lib.hid (by have := (hb).size; simpa using this)
  clear BE0
  clear hb
  go_wp2_with fail
  refine (rws.to_any _ xss2 _ (H2.out.below BE4.out) hn2).mono ?_
  rintro e wc5 ⟨us2, rfl, hu, hb⟩
  obtain ⟨s2a, s2n, s2c, rfl⟩ := hu.rows.shape
  have BE6 := Lib.hid (below_tr BE4.out hb)
  have ZZ6 : Hid (wz3.heap.size ≤ wc5.heap.size) := Lib.hid (by have := (hb).size; simpa using this)
  clear BE4
  have OWs2 := Lib.hid (hu.mono (B' := wz3.heap.size) (by simp) (Nat.le_refl _))
  clear hu hb
  go_wp2_with fail
  refine (loc.spec_value a0 a1 (.slice s2a s2n s2c) xss2 _ OWs2.out.rows hn2).mono ?_
  rintro e wf7 ⟨rfl, hb⟩
  have BE8 := Lib.hid (below_tr BE6.out hb)
  have OWs28 := Lib.hid (OWs2.out.keep hb)
  have ZZ8 : Hid (wc5.heap.size ≤ wf7.heap.size) := Lib.hid (by have := (hb).size; simpa using this)
  clear BE6 OWs2
  clear hb
  go_wp2_with fail
  refine (rws.to_any _ xss2 _ (H2.out.below BE8.out) hn2).mono ?_
  rintro e wc9 ⟨ux2, rfl, hu, hb⟩
  obtain ⟨x2a, x2n, x2c, rfl⟩ := hu.rows.shape
  have BE10 := Lib.hid (below_tr BE8.out hb)
  have ZZ10 : Hid (wf7.heap.size ≤ wc9.heap.size) := Lib.hid (by have := (hb).size; simpa using this)
  clear BE8
  have OWx2 := Lib.hid (hu.mono (B' := wf7.heap.size) (by simp) (Nat.le_refl _))
  clear hu hb
  go_wp2_with fail
  refine (loc.impl_value a0 a1 (.slice x2a x2n x2c) xss2 _ OWx2.out.rows hn2).mono ?_
  rintro e wf11 ⟨rfl, hb⟩
  have BE12 := Lib.hid (below_tr BE10.out hb)
  have OWx212 := Lib.hid (OWx2.out.keep hb)
  have ZZ12 : Hid (wc9.heap.size ≤ wf11.heap.size) := Lib.hid (by have := (hb).size; simpa using this)
  clear BE10 OWx2
  clear hb
  have tk0 : (((loc.res a0 a1 xss2).1) != ((loc.res a0 a1 xss2).1)) = false := bne_self_eq_false _
  have tk1 : (((loc.res a0 a1 xss2).2.2) != ((loc.res a0 a1 xss2).2.2)) = false := bne_self_eq_false _
  go_wp2_with fail
  go_wp2_with fail
  refine (rws.to_any _ xss2 _ (H2.out.below BE12.out) hn2).mono ?_
  rintro e wc13 ⟨uy2, rfl, hu, hb⟩
  obtain ⟨y2a, y2n, y2c, rfl⟩ := hu.rows.shape
  have BE14 := Lib.hid (below_tr BE12.out hb)
  have OWx214 := Lib.hid (OWx212.out.keep hb)
  have ZZ14 : Hid (wf11.heap.size ≤ wc13.heap.size) := Lib.hid (by have := (hb).size; simpa using this)
  clear BE12 OWx212
  have OWy2 := Lib.hid (hu.mono (B' := wf11.heap.size) (by simp) (Nat.le_refl _))
  clear hu hb
  go_wp2_with fail
  refine (rws.eq_same _ _ xss2 _ OWx214.out.rows OWy2.out.rows hn2).mono ?_
  rintro e we15 ⟨rfl, hb⟩
  have BE16 := Lib.hid (below_tr BE14.out hb)
  have OWx216 := Lib.hid (OWx214.out.keep hb)
  have OWy216 := Lib.hid (OWy2.out.keep hb)
  have ZZ16 : Hid (wc13.heap.size ≤ we15.heap.size) := Lib.hid (by have := (hb).size; simpa using this)
  clear BE14 OWx214 OWy2
  clear hb
  clear OWy216
  go_wp2_with fail
  go_ret
  exact ⟨rfl, BE16.out⟩

/-! ### the frame of the row -/
theorem own : ownKnob Try.prog.godebug = none := by kernel_rfl
theorem laidOut : laidOutB Try.prog = true := by kernel_rfl
set_option maxRecDepth 100000 in
theorem lifted (os : Os) (started : os.Started) (H : Type) (enc : TypeId × Value → H) :
    ReturnsInHanded {} Try.checked os 3 .any (Rows.fnExactLocalValueSpec.pre6 enc Try.prog Try.f3 Rows.fnExactLocalValueRow.domain false) (Rows.fnExactLocalValueSpec.post enc Try.prog Try.f3 false true false false) := by
  refine returnsInHanded_of_change (C := Try.checked) own started (by kernel_rfl) Try.func3
    (ChangeSpec.witness6 (enc := enc) (C := Try.checked) false ⟨#[], #[.int .i64 0, .int .i64 0, .slice none 0 0], []⟩ 8 (by kernel_rfl) (by kernel_rfl) (by kernel_rfl) (by kernel_rfl)) ?_
  intro W base args ds gs before hval0 hW _ _
  have hval : ∀ (j : Nat) t v, Try.f3.params[j]? = some t → args[j]? = some v → Value.okWide Try.prog W .any base t v := hval0
  have hW' := hW
  obtain ⟨p, q, hA0, hV, rfl, hfz, hnd⟩ := hW
  have hA : DataW.TrodAll enc Try.prog W 0 (fun _ => true) true Try.f3.params.toList args.toList ds p := hA0
  rw [Try.params3] at hA hval
  obtain ⟨v0, vs0, d0, ds0, p0, q0, hargs, rfl, rfl, h0, r0⟩ := trodAll_cons hA
  obtain ⟨v1, vs1, d1, ds1, p1, q1, rfl, rfl, rfl, h1, r1⟩ := trodAll_cons r0
  obtain ⟨v2, vs2, d2, ds2, p2, q2, rfl, rfl, rfl, h2, r2⟩ := trodAll_cons r1
  obtain ⟨rfl, rfl, rfl⟩ := trodAll_nil r2
  obtain rfl : args = #[v0, v1, v2] := by cases args; simp_all
  obtain ⟨rfl, rfl⟩ := trodVars_none hV
  obtain ⟨a0, rfl, rfl, rfl, w0⟩ := open_int Try.underlying3 (hval 0 3 v0 rfl rfl) h0
  obtain ⟨a1, rfl, rfl, rfl, w1⟩ := open_int Try.underlying3 (hval 1 3 v1 rfl rfl) h1
  have lt2 : ∀ x ∈ p2, x.block < W.heap.size := by obtain ⟨m, hm⟩ := h2; exact DataW.trod_lt m _ _ _ hm
  obtain ⟨xss2, g2⟩ := opn.rows_of_trod Try.underlying22 Try.underlying40 Try.underlying3 (by kernel_rfl) (by kernel_rfl) (hval 2 22 v2 rfl rfl) h2
  clear hA0 hval0
  refine (walk a0 a1 v2 xss2 W w0 w1 g2).mono fun e W' ⟨he, bel⟩ => ?_
  subst he
  exact ⟨_, rfl, _, _, _, [], _, [], hW', trodAll_mk1 (shut_bool Try.underlying4 _), (trodAll_cons_mk (shut_int Try.underlying3 w0) (trodAll_cons_mk (shut_int Try.underlying3 w1) (trodAll_cons_mk (Below.trod laidOut (by kernel_rfl) (of_decide_eq_true (by kernel_rfl)) h2 bel lt2) trodAll_mk0))), rfl, bel.frame _, fun h => by cases h⟩

theorem over : Rows.fnExactLocalValueRow.holds Try.pinned (OpenSpec.ofChange Rows.fnExactLocalValueSpec) :=
  OpenClaim.holds_of_wide 3 Try.f3 rfl rfl rfl rfl rfl rfl rfl ⟨rfl, rfl, rfl, rfl, rfl⟩ rfl rfl rfl rfl rfl (by kernel_rfl) Try.func3 (by kernel_rfl)
    (of_decide_eq_true (by kernel_rfl)) (by unfold Func.isWrapper; first | (rw [if_pos (by decide +kernel)]; kernel_rfl) | (rw [if_neg (by decide +kernel)]; exact ⟨rfl, rfl⟩))
    (fun os started H enc _ => lifted os started H enc)

theorem proved : Rows.FnExactLocalValueSaid := over
#print axioms proved
end Go.Proofs.Ytkajebhagkbcaab.lawLocalValue
