/- Proved here: for all arguments, the law FnExactCoverNumber returns true: the program's function answers as its model in every field, leaves its arguments as they were, and its answer owns its memory. Conditions: none beyond the row. -/
import Derived.Test.YtimfnhejiiagmaaRws
import Derived.Test.YtimfnhejiiagmaaCvz
import Derived.Test.YtimfnhejiiagmaaOpen
import Derived.Test.YtimfnhejiiagmaaRows
import Derived.Deep.RegionHeld3
namespace Go.Proofs.Ytimfnhejiiagmaa.lawCoverNumber
open Go.ChangeShapes Go.WideShapes Go.ChangeAt Go.RowKit Go.Deep Go.Proofs.Ytimfnhejiiagmaa.base
open Go.ChangeMaps (open_string shut_string)

set_option maxRecDepth 100000 in
set_option maxHeartbeats 4000000 in
theorem walk (v0 : Value) (xss0 : List (List Int)) (a1 : Int) (w : World) (h0 : IRows w v0 xss0) (_f1 : (Lit.int .i64 a1).wf = true) :
    Calls Try.prog 13 #[v0, .int .i64 a1] w fun e w' => e = .returned (.bool true) ∧ Below w.heap.size w w' := by
  obtain ⟨va0, vn0, vc0, rfl⟩ := h0.shape
  have H0 := Lib.hid h0
  clear h0
  by_cases hs0 : rws.sz xss0 (1048576) < 0
  · skip
    go_enter Try.func13, Try.ntmps13
    have BE0 := Lib.hid (Below.refl w.heap.size w)
    go_wp2_with fail
    refine (rws.sz_below _ xss0 (1048576) _ (H0.out.below BE0.out) (by omega) (by omega)).mono ?_
    rintro e wz1 ⟨rfl, hb⟩
    have BE2 := Lib.hid (below_tr BE0.out hb)
    have ZZ2 : Hid (w.heap.size ≤ wz1.heap.size) := Lib.hid (by have := (hb).size; simpa using this)
    clear BE0
    clear hb
    go_wp2_with fail
    go_ret
    exact ⟨rfl, BE2.out⟩
  have hq0 := rws.sz_bound hs0
  have hn0 : rws.total xss0 ≤ 1048576 := by omega
  go_enter Try.func13, Try.ntmps13
  have BE0 := Lib.hid (Below.refl w.heap.size w)
  go_wp2_with fail
  refine (rws.sz_below _ xss0 (1048576) _ (H0.out.below BE0.out) (by omega) (by omega)).mono ?_
  rintro e wz3 ⟨rfl, hb⟩
  have BE4 := Lib.hid (below_tr BE0.out hb)
  have ZZ4 : Hid (w.heap.size ≤ wz3.heap.size) := Lib.hid (by have := (hb).size; simpa using this)
  clear BE0
  clear hb
  go_wp2_with fail
  refine (rws.to_any _ xss0 _ (H0.out.below BE4.out) hn0).mono ?_
  rintro e wc5 ⟨us0, rfl, hu, hb⟩
  obtain ⟨s0a, s0n, s0c, rfl⟩ := hu.rows.shape
  have BE6 := Lib.hid (below_tr BE4.out hb)
  have ZZ6 : Hid (wz3.heap.size ≤ wc5.heap.size) := Lib.hid (by have := (hb).size; simpa using this)
  clear BE4
  have OWs0 := Lib.hid (hu.mono (B' := wz3.heap.size) (by simp) (Nat.le_refl _))
  clear hu hb
  go_wp2_with fail
  refine (cvz.spec_any (.slice s0a s0n s0c) xss0 a1 _ OWs0.out.rows).mono ?_
  rintro e wf7 ⟨rfl, hb⟩
  have BE8 := Lib.hid (below_tr BE6.out hb)
  have OWs08 := Lib.hid (OWs0.out.keep hb)
  have ZZ8 : Hid (wc5.heap.size ≤ wf7.heap.size) := Lib.hid (by have := (hb).size; simpa using this)
  clear BE6 OWs0
  clear hb
  go_wp2_with fail
  refine (rws.to_any _ xss0 _ (H0.out.below BE8.out) hn0).mono ?_
  rintro e wc9 ⟨ux0, rfl, hu, hb⟩
  obtain ⟨x0a, x0n, x0c, rfl⟩ := hu.rows.shape
  have BE10 := Lib.hid (below_tr BE8.out hb)
  have ZZ10 : Hid (wf7.heap.size ≤ wc9.heap.size) := Lib.hid (by have := (hb).size; simpa using this)
  clear BE8
  have OWx0 := Lib.hid (hu.mono (B' := wf7.heap.size) (by simp) (Nat.le_refl _))
  clear hu hb
  go_wp2_with fail
  refine (cvz.impl_any (.slice x0a x0n x0c) xss0 a1 _ OWx0.out.rows).mono ?_
  rintro e wf11 ⟨rfl, hb⟩
  have BE12 := Lib.hid (below_tr BE10.out hb)
  have OWx012 := Lib.hid (OWx0.out.keep hb)
  have ZZ12 : Hid (wc9.heap.size ≤ wf11.heap.size) := Lib.hid (by have := (hb).size; simpa using this)
  clear BE10 OWx0
  clear hb
  have tk0 : (((cvz.res xss0 a1).1) != ((cvz.res xss0 a1).1)) = false := bne_self_eq_false _
  have tk1 : (((cvz.res xss0 a1).2) != ((cvz.res xss0 a1).2)) = false := bne_self_eq_false _
  go_wp2_with fail
  go_wp2_with fail
  refine (rws.to_any _ xss0 _ (H0.out.below BE12.out) hn0).mono ?_
  rintro e wc13 ⟨uy0, rfl, hu, hb⟩
  obtain ⟨y0a, y0n, y0c, rfl⟩ := hu.rows.shape
  have BE14 := Lib.hid (below_tr BE12.out hb)
  have OWx014 := Lib.hid (OWx012.out.keep hb)
  have ZZ14 : Hid (wf11.heap.size ≤ wc13.heap.size) := Lib.hid (by have := (hb).size; simpa using this)
  clear BE12 OWx012
  have OWy0 := Lib.hid (hu.mono (B' := wf11.heap.size) (by simp) (Nat.le_refl _))
  clear hu hb
  go_wp2_with fail
  refine (rws.eq_same _ _ xss0 _ OWx014.out.rows OWy0.out.rows hn0).mono ?_
  rintro e we15 ⟨rfl, hb⟩
  have BE16 := Lib.hid (below_tr BE14.out hb)
  have OWx016 := Lib.hid (OWx014.out.keep hb)
  have OWy016 := Lib.hid (OWy0.out.keep hb)
  have ZZ16 : Hid (wc13.heap.size ≤ we15.heap.size) := Lib.hid (by have := (hb).size; simpa using this)
  clear BE14 OWx014 OWy0
  clear hb
  clear OWy016
  go_wp2_with fail
  go_ret
  exact ⟨rfl, BE16.out⟩

/-! ### the frame of the row -/
theorem own : ownKnob Try.prog.godebug = none := by kernel_rfl
theorem laidOut : laidOutB Try.prog = true := by kernel_rfl
set_option maxRecDepth 100000 in
theorem lifted (os : Os) (started : os.Started) (H : Type) (enc : TypeId × Value → H) :
    ReturnsInHanded {} Try.checked os 13 .any (Rows.fnExactCoverNumberSpec.pre6 enc Try.prog Try.f13 Rows.fnExactCoverNumberRow.domain false) (Rows.fnExactCoverNumberSpec.post enc Try.prog Try.f13 false true false false) := by
  refine returnsInHanded_of_change (C := Try.checked) own started (by kernel_rfl) Try.func13
    (ChangeSpec.witness6 (enc := enc) (C := Try.checked) false ⟨#[], #[.slice none 0 0, .int .i64 0], []⟩ 8 (by kernel_rfl) (by kernel_rfl) (by kernel_rfl) (by kernel_rfl)) ?_
  intro W base args ds gs before hval0 hW _ _
  have hval : ∀ (j : Nat) t v, Try.f13.params[j]? = some t → args[j]? = some v → Value.okWide Try.prog W .any base t v := hval0
  have hW' := hW
  obtain ⟨p, q, hA0, hV, rfl, hfz, hnd⟩ := hW
  have hA : DataW.TrodAll enc Try.prog W 0 (fun _ => true) true Try.f13.params.toList args.toList ds p := hA0
  rw [Try.params13] at hA hval
  obtain ⟨v0, vs0, d0, ds0, p0, q0, hargs, rfl, rfl, h0, r0⟩ := trodAll_cons hA
  obtain ⟨v1, vs1, d1, ds1, p1, q1, rfl, rfl, rfl, h1, r1⟩ := trodAll_cons r0
  obtain ⟨rfl, rfl, rfl⟩ := trodAll_nil r1
  obtain rfl : args = #[v0, v1] := by cases args; simp_all
  obtain ⟨rfl, rfl⟩ := trodVars_none hV
  have lt0 : ∀ x ∈ p0, x.block < W.heap.size := by obtain ⟨m, hm⟩ := h0; exact DataW.trod_lt m _ _ _ hm
  obtain ⟨xss0, g0⟩ := opn.rows_of_trod Try.underlying22 Try.underlying34 Try.underlying3 (by kernel_rfl) (by kernel_rfl) (hval 0 22 v0 rfl rfl) h0
  obtain ⟨a1, rfl, rfl, rfl, w1⟩ := open_int Try.underlying3 (hval 1 3 v1 rfl rfl) h1
  clear hA0 hval0
  refine (walk v0 xss0 a1 W g0 w1).mono fun e W' ⟨he, bel⟩ => ?_
  subst he
  exact ⟨_, rfl, _, _, _, [], _, [], hW', trodAll_mk1 (shut_bool Try.underlying4 _), (trodAll_cons_mk (Below.trod laidOut (by kernel_rfl) (of_decide_eq_true (by kernel_rfl)) h0 bel lt0) (trodAll_cons_mk (shut_int Try.underlying3 w1) trodAll_mk0)), rfl, bel.frame _, fun h => by cases h⟩

theorem over : Rows.fnExactCoverNumberRow.holds Try.pinned (OpenSpec.ofChange Rows.fnExactCoverNumberSpec) :=
  OpenClaim.holds_of_wide 13 Try.f13 rfl rfl rfl rfl rfl rfl rfl ⟨rfl, rfl, rfl, rfl, rfl⟩ rfl rfl rfl rfl rfl (by kernel_rfl) Try.func13 (by kernel_rfl)
    (of_decide_eq_true (by kernel_rfl)) (by unfold Func.isWrapper; first | (rw [if_pos (by decide +kernel)]; kernel_rfl) | (rw [if_neg (by decide +kernel)]; exact ⟨rfl, rfl⟩))
    (fun os started H enc _ => lifted os started H enc)

theorem proved : Rows.FnExactCoverNumberSaid := over
#print axioms proved
end Go.Proofs.Ytimfnhejiiagmaa.lawCoverNumber
