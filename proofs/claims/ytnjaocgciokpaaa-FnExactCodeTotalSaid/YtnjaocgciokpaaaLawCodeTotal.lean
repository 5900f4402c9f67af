/- Proved here: for all arguments, the law FnExactCodeTotal returns true: the program's function answers as its model in every field, leaves its arguments as they were, and its answer owns its memory. Conditions: none beyond the row. -/
import Derived.Test.YtnjaocgciokpaaaInts
import Derived.Test.YtnjaocgciokpaaaCdv
import Derived.Test.YtnjaocgciokpaaaOpen
import Derived.Test.YtnjaocgciokpaaaRows
import Derived.Deep.RegionHeld3
namespace Go.Proofs.Ytnjaocgciokpaaa.lawCodeTotal
open Go.ChangeShapes Go.WideShapes Go.ChangeAt Go.RowKit Go.Deep Go.Proofs.Ytnjaocgciokpaaa.base
open Go.ChangeMaps (open_string shut_string)

set_option maxRecDepth 100000 in
set_option maxHeartbeats 4000000 in
theorem walk (a0 : Int) (v1 : Value) (xs1 : List Int) (w : World) (_f0 : (Lit.int .i64 a0).wf = true) (h1 : Ints w v1 xs1) :
    Calls Try.prog 6 #[.int .i64 a0, v1] w fun e w' => e = .returned (.bool true) ∧ Below w.heap.size w w' := by
  obtain ⟨va1, vc1, hv1⟩ : ∃ A c, v1 = .slice A xs1.length c := by obtain ⟨A, c, hv, _⟩ := h1; exact ⟨A, c, by rw [hv, len_i64s]⟩
  subst hv1
  have H1 := Lib.hid h1
  clear h1
  by_cases hs1 : 1048576 < (xs1.length : Int)
  · skip
    go_enter Try.func6, Try.ntmps6
    have BE0 := Lib.hid (Below.refl w.heap.size w)
    go_wp2_with fail
    go_ret
    exact ⟨rfl, BE0.out⟩
  have hn1 : xs1.length ≤ 1048576 := by omega
  go_enter Try.func6, Try.ntmps6
  have BE0 := Lib.hid (Below.refl w.heap.size w)
  go_wp2_with fail
  refine (ints.to_any _ xs1 _ (H1.out.below BE0.out) hn1).mono ?_
  rintro e wc1 ⟨us1, rfl, hu, hb⟩
  obtain ⟨s1a, s1n, s1c, rfl⟩ := hu.ints.shape
  have BE2 := Lib.hid (below_tr BE0.out hb)
  have ZZ2 : Hid (w.heap.size ≤ wc1.heap.size) := Lib.hid (by have := (hb).size; simpa using this)
  clear BE0
  have OWs1 := Lib.hid (hu.mono (B' := w.heap.size) (by simp) (Nat.le_refl _))
  clear hu hb
  go_wp2_with fail
  refine (cdt.spec_tot a0 (.slice s1a s1n s1c) xs1 _ OWs1.out.ints).mono ?_
  rintro e wf3 ⟨rfl, hb⟩
  have BE4 := Lib.hid (below_tr BE2.out hb)
  have OWs14 := Lib.hid (OWs1.out.keep hb)
  have ZZ4 : Hid (wc1.heap.size ≤ wf3.heap.size) := Lib.hid (by have := (hb).size; simpa using this)
  clear BE2 OWs1
  clear hb
  go_wp2_with fail
  refine (ints.to_any _ xs1 _ (H1.out.below BE4.out) hn1).mono ?_
  rintro e wc5 ⟨ux1, rfl, hu, hb⟩
  obtain ⟨x1a, x1n, x1c, rfl⟩ := hu.ints.shape
  have BE6 := Lib.hid (below_tr BE4.out hb)
  have ZZ6 : Hid (wf3.heap.size ≤ wc5.heap.size) := Lib.hid (by have := (hb).size; simpa using this)
  clear BE4
  have OWx1 := Lib.hid (hu.mono (B' := wf3.heap.size) (by simp) (Nat.le_refl _))
  clear hu hb
  go_wp2_with fail
  refine (cdv.impl_tot a0 (.slice x1a x1n x1c) xs1 _ OWx1.out.ints).mono ?_
  rintro e wf7 ⟨rfl, hb⟩
  have BE8 := Lib.hid (below_tr BE6.out hb)
  have OWx18 := Lib.hid (OWx1.out.keep hb)
  have ZZ8 : Hid (wc5.heap.size ≤ wf7.heap.size) := Lib.hid (by have := (hb).size; simpa using this)
  clear BE6 OWx1
  clear hb
  have tk0 : (((cdt.resT a0 xs1).1) != ((cdt.resT a0 xs1).1)) = false := bne_self_eq_false _
  have tk1 : (((cdt.resT a0 xs1).2) != ((cdt.resT a0 xs1).2)) = false := bne_self_eq_false _
  go_wp2_with fail
  go_wp2_with fail
  refine (ints.to_any _ xs1 _ (H1.out.below BE8.out) hn1).mono ?_
  rintro e wc9 ⟨uy1, rfl, hu, hb⟩
  obtain ⟨y1a, y1n, y1c, rfl⟩ := hu.ints.shape
  have BE10 := Lib.hid (below_tr BE8.out hb)
  have OWx110 := Lib.hid (OWx18.out.keep hb)
  have ZZ10 : Hid (wf7.heap.size ≤ wc9.heap.size) := Lib.hid (by have := (hb).size; simpa using this)
  clear BE8 OWx18
  have OWy1 := Lib.hid (hu.mono (B' := wf7.heap.size) (by simp) (Nat.le_refl _))
  clear hu hb
  go_wp2_with fail
  refine (ints.eq_same _ _ xs1 _ OWx110.out.ints OWy1.out.ints hn1).mono ?_
  rintro e we11 ⟨rfl, hb⟩
  have BE12 := Lib.hid (below_tr BE10.out hb)
  have OWx112 := Lib.hid (OWx110.out.keep hb)
  have OWy112 := Lib.hid (OWy1.out.keep hb)
  have ZZ12 : Hid (wc9.heap.size ≤ we11.heap.size) := Lib.hid (by have := (hb).size; simpa using this)
  clear BE10 OWx110 OWy1
  clear hb
  clear OWy112
  go_wp2_with fail
  go_ret
  exact ⟨rfl, BE12.out⟩

/-! ### the frame of the row -/
theorem own : ownKnob Try.prog.godebug = none := by kernel_rfl
theorem laidOut : laidOutB Try.prog = true := by kernel_rfl
set_option maxRecDepth 100000 in
theorem lifted (os : Os) (started : os.Started) (H : Type) (enc : TypeId × Value → H) :
    ReturnsInHanded {} Try.checked os 6 .any (Rows.fnExactCodeTotalSpec.pre6 enc Try.prog Try.f6 Rows.fnExactCodeTotalRow.domain false) (Rows.fnExactCodeTotalSpec.post enc Try.prog Try.f6 false true false false) := by
  refine returnsInHanded_of_change (C := Try.checked) own started (by kernel_rfl) Try.func6
    (ChangeSpec.witness6 (enc := enc) (C := Try.checked) false ⟨#[], #[.int .i64 0, .slice none 0 0], []⟩ 8 (by kernel_rfl) (by kernel_rfl) (by kernel_rfl) (by kernel_rfl)) ?_
  intro W base args ds gs before hval0 hW _ _
  have hval : ∀ (j : Nat) t v, Try.f6.params[j]? = some t → args[j]? = some v → Value.okWide Try.prog W .any base t v := hval0
  have hW' := hW
  obtain ⟨p, q, hA0, hV, rfl, hfz, hnd⟩ := hW
  have hA : DataW.TrodAll enc Try.prog W 0 (fun _ => true) true Try.f6.params.toList args.toList ds p := hA0
  rw [Try.params6] at hA hval
  obtain ⟨v0, vs0, d0, ds0, p0, q0, hargs, rfl, rfl, h0, r0⟩ := trodAll_cons hA
  obtain ⟨v1, vs1, d1, ds1, p1, q1, rfl, rfl, rfl, h1, r1⟩ := trodAll_cons r0
  obtain ⟨rfl, rfl, rfl⟩ := trodAll_nil r1
  obtain rfl : args = #[v0, v1] := by cases args; simp_all
  obtain ⟨rfl, rfl⟩ := trodVars_none hV
  obtain ⟨a0, rfl, rfl, rfl, w0⟩ := open_int Try.underlying3 (hval 0 3 v0 rfl rfl) h0
  have lt1 : ∀ x ∈ p1, x.block < W.heap.size := by obtain ⟨m, hm⟩ := h1; exact DataW.trod_lt m _ _ _ hm
  obtain ⟨xs1, g1⟩ := opn.ints_of_trod Try.underlying22 Try.underlying3 (by kernel_rfl) (hval 1 22 v1 rfl rfl) h1
  clear hA0 hval0
  refine (walk a0 v1 xs1 W w0 g1).mono fun e W' ⟨he, bel⟩ => ?_
  subst he
  exact ⟨_, rfl, _, _, _, [], _, [], hW', trodAll_mk1 (shut_bool Try.underlying4 _), (trodAll_cons_mk (shut_int Try.underlying3 w0) (trodAll_cons_mk (Below.trod laidOut (by kernel_rfl) (of_decide_eq_true (by kernel_rfl)) h1 bel lt1) trodAll_mk0)), rfl, bel.frame _, fun h => by cases h⟩

theorem over : Rows.fnExactCodeTotalRow.holds Try.pinned (OpenSpec.ofChange Rows.fnExactCodeTotalSpec) :=
  OpenClaim.holds_of_wide 6 Try.f6 rfl rfl rfl rfl rfl rfl rfl ⟨rfl, rfl, rfl, rfl, rfl⟩ rfl rfl rfl rfl rfl (by kernel_rfl) Try.func6 (by kernel_rfl)
    (of_decide_eq_true (by kernel_rfl)) (by unfold Func.isWrapper; first | (rw [if_pos (by decide +kernel)]; kernel_rfl) | (rw [if_neg (by decide +kernel)]; exact ⟨rfl, rfl⟩))
    (fun os started H enc _ => lifted os started H enc)

theorem proved : Rows.FnExactCodeTotalSaid := over
#print axioms proved
end Go.Proofs.Ytnjaocgciokpaaa.lawCodeTotal
