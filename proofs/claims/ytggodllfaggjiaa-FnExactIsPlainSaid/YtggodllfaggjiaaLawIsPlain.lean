/- Proved here: for all arguments, the law FnExactIsPlain returns true: the program's function answers as its model in every field, leaves its arguments as they were, and its answer owns its memory. Conditions: none beyond the row. -/
import Derived.Test.YtggodllfaggjiaaRws
import Derived.Test.YtggodllfaggjiaaIpl
import Derived.Test.YtggodllfaggjiaaOpen
import Derived.Test.YtggodllfaggjiaaRows
import Derived.Deep.RegionHeld3
namespace Go.Proofs.Ytggodllfaggjiaa.lawIsPlain
open Go.ChangeShapes Go.WideShapes Go.ChangeAt Go.RowKit Go.Deep Go.Proofs.Ytggodllfaggjiaa.base
open Go.ChangeMaps (open_string shut_string)

set_option maxRecDepth 100000 in
set_option maxHeartbeats 4000000 in
theorem walk (v0 : Value) (xss0 : List (List Int)) (v1 : Value) (xs1 : List Int) (v2 : Value) (xs2 : List Int) (w : World) (h0 : IRows w v0 xss0) (h1 : Ints w v1 xs1) (h2 : Ints w v2 xs2) :
    Calls Try.prog 8 #[v0, v1, v2] w fun e w' => e = .returned (.bool true) ∧ Below w.heap.size w w' := by
  obtain ⟨va0, vn0, vc0, rfl⟩ := h0.shape
  obtain ⟨va1, vc1, hv1⟩ : ∃ A c, v1 = .slice A xs1.length c := by obtain ⟨A, c, hv, _⟩ := h1; exact ⟨A, c, by rw [hv, len_i64s]⟩
  subst hv1
  obtain ⟨va2, vc2, hv2⟩ : ∃ A c, v2 = .slice A xs2.length c := by obtain ⟨A, c, hv, _⟩ := h2; exact ⟨A, c, by rw [hv, len_i64s]⟩
  subst hv2
  have H0 := Lib.hid h0
  have H1 := Lib.hid h1
  have H2 := Lib.hid h2
  clear h0 h1 h2
  by_cases hs1 : 1048576 < (xs1.length : Int)
  · skip
    go_enter Try.func8, Try.ntmps8
    have BE0 := Lib.hid (Below.refl w.heap.size w)
    go_wp2_with fail
    go_ret
    exact ⟨rfl, BE0.out⟩
  have hn1 : xs1.length ≤ 1048576 := by omega
  by_cases hs2 : 1048576 < (xs2.length : Int)
  · skip
    go_enter Try.func8, Try.ntmps8
    have BE0 := Lib.hid (Below.refl w.heap.size w)
    go_wp2_with fail
    go_ret
    exact ⟨rfl, BE0.out⟩
  have hn2 : xs2.length ≤ 1048576 := by omega
  by_cases hs0 : rws.sz xss0 (1048576) < 0
  · skip
    go_enter Try.func8, Try.ntmps8
    have BE0 := Lib.hid (Below.refl w.heap.size w)
    go_wp2_with fail
    refine (rws.sz_below _ xss0 (1048576) _ (H0.out.below BE0.out) (by omega) (by omega)).mono ?_
    rintro e wz1 ⟨rfl, hb⟩
    have BE2 := Lib.hid (below_tr BE0.out hb)
    have ZZ2 : Hid (w.heap.size ≤ wz1.heap.size) := Lib.hid (by have := (hb).size; simpa using this)
    clear BE0
    clear hb
    go_wp2_with fail
    go_ret
    exact ⟨rfl, BE2.out⟩
  have hq0 := rws.sz_bound hs0
  have hn0 : rws.total xss0 ≤ 1048576 := by omega
  go_enter Try.func8, Try.ntmps8
  have BE0 := Lib.hid (Below.refl w.heap.size w)
  go_wp2_with fail
  refine (rws.sz_below _ xss0 (1048576) _ (H0.out.below BE0.out) (by omega) (by omega)).mono ?_
  rintro e wz3 ⟨rfl, hb⟩
  have BE4 := Lib.hid (below_tr BE0.out hb)
  have ZZ4 : Hid (w.heap.size ≤ wz3.heap.size) := Lib.hid (by have := (hb).size; simpa using this)
  clear BE0
  clear hb
  go_wp2_with fail
  refine (rws.to_any _ xss0 _ (H0.out.below BE4.out) hn0).mono ?_
  rintro e wc5 ⟨us0, rfl, hu, hb⟩
  obtain ⟨s0a, s0n, s0c, rfl⟩ := hu.rows.shape
  have BE6 := Lib.hid (below_tr BE4.out hb)
  have ZZ6 : Hid (wz3.heap.size ≤ wc5.heap.size) := Lib.hid (by have := (hb).size; simpa using this)
  clear BE4
  have OWs0 := Lib.hid (hu.mono (B' := wz3.heap.size) (by simp) (Nat.le_refl _))
  clear hu hb
  go_wp2_with fail
  refine (ints.to_any _ xs1 _ (H1.out.below BE6.out) hn1).mono ?_
  rintro e wc7 ⟨us1, rfl, hu, hb⟩
  obtain ⟨s1a, s1n, s1c, rfl⟩ := hu.ints.shape
  have BE8 := Lib.hid (below_tr BE6.out hb)
  have OWs08 := Lib.hid (OWs0.out.keep hb)
  have ZZ8 : Hid (wc5.heap.size ≤ wc7.heap.size) := Lib.hid (by have := (hb).size; simpa using this)
  clear BE6 OWs0
  have OWs1 := Lib.hid (hu.mono (B' := wc5.heap.size) (by simp) (Nat.le_refl _))
  clear hu hb
  go_wp2_with fail
  refine (ints.to_any _ xs2 _ (H2.out.below BE8.out) hn2).mono ?_
  rintro e wc9 ⟨us2, rfl, hu, hb⟩
  obtain ⟨s2a, s2n, s2c, rfl⟩ := hu.ints.shape
  have BE10 := Lib.hid (below_tr BE8.out hb)
  have OWs010 := Lib.hid (OWs08.out.keep hb)
  have OWs110 := Lib.hid (OWs1.out.keep hb)
  have ZZ10 : Hid (wc7.heap.size ≤ wc9.heap.size) := Lib.hid (by have := (hb).size; simpa using this)
  clear BE8 OWs08 OWs1
  have OWs2 := Lib.hid (hu.mono (B' := wc7.heap.size) (by simp) (Nat.le_refl _))
  clear hu hb
  go_wp2_with fail
  refine (ipl.spec_any (.slice s0a s0n s0c) xss0 (.slice s1a s1n s1c) xs1 (.slice s2a s2n s2c) xs2 _ OWs010.out.rows OWs110.out.ints OWs2.out.ints).mono ?_
  rintro e wf11 ⟨rfl, hb⟩
  have BE12 := Lib.hid (below_tr BE10.out hb)
  have OWs012 := Lib.hid (OWs010.out.keep hb)
  have OWs112 := Lib.hid (OWs110.out.keep hb)
  have OWs212 := Lib.hid (OWs2.out.keep hb)
  have ZZ12 : Hid (wc9.heap.size ≤ wf11.heap.size) := Lib.hid (by have := (hb).size; simpa using this)
  clear BE10 OWs010 OWs110 OWs2
  clear hb
  go_wp2_with fail
  refine (rws.to_any _ xss0 _ (H0.out.below BE12.out) hn0).mono ?_
  rintro e wc13 ⟨ux0, rfl, hu, hb⟩
  obtain ⟨x0a, x0n, x0c, rfl⟩ := hu.rows.shape
  have BE14 := Lib.hid (below_tr BE12.out hb)
  have ZZ14 : Hid (wf11.heap.size ≤ wc13.heap.size) := Lib.hid (by have := (hb).size; simpa using this)
  clear BE12
  have OWx0 := Lib.hid (hu.mono (B' := wf11.heap.size) (by simp) (Nat.le_refl _))
  clear hu hb
  go_wp2_with fail
  refine (ints.to_any _ xs1 _ (H1.out.below BE14.out) hn1).mono ?_
  rintro e wc15 ⟨ux1, rfl, hu, hb⟩
  obtain ⟨x1a, x1n, x1c, rfl⟩ := hu.ints.shape
  have BE16 := Lib.hid (below_tr BE14.out hb)
  have OWx016 := Lib.hid (OWx0.out.keep hb)
  have ZZ16 : Hid (wc13.heap.size ≤ wc15.heap.size) := Lib.hid (by have := (hb).size; simpa using this)
  clear BE14 OWx0
  have OWx1 := Lib.hid (hu.mono (B' := wc13.heap.size) (by simp) (Nat.le_refl _))
  clear hu hb
  go_wp2_with fail
  refine (ints.to_any _ xs2 _ (H2.out.below BE16.out) hn2).mono ?_
  rintro e wc17 ⟨ux2, rfl, hu, hb⟩
  obtain ⟨x2a, x2n, x2c, rfl⟩ := hu.ints.shape
  have BE18 := Lib.hid (below_tr BE16.out hb)
  have OWx018 := Lib.hid (OWx016.out.keep hb)
  have OWx118 := Lib.hid (OWx1.out.keep hb)
  have ZZ18 : Hid (wc15.heap.size ≤ wc17.heap.size) := Lib.hid (by have := (hb).size; simpa using this)
  clear BE16 OWx016 OWx1
  have OWx2 := Lib.hid (hu.mono (B' := wc15.heap.size) (by simp) (Nat.le_refl _))
  clear hu hb
  go_wp2_with fail
  refine (ipl.impl_any (.slice x0a x0n x0c) xss0 (.slice x1a x1n x1c) xs1 (.slice x2a x2n x2c) xs2 _ OWx018.out.rows OWx118.out.ints OWx2.out.ints).mono ?_
  rintro e wf19 ⟨rfl, hb⟩
  have BE20 := Lib.hid (below_tr BE18.out hb)
  have OWx020 := Lib.hid (OWx018.out.keep hb)
  have OWx120 := Lib.hid (OWx118.out.keep hb)
  have OWx220 := Lib.hid (OWx2.out.keep hb)
  have ZZ20 : Hid (wc17.heap.size ≤ wf19.heap.size) := Lib.hid (by have := (hb).size; simpa using this)
  clear BE18 OWx018 OWx118 OWx2
  clear hb
  have tk0 : (((ipl.res xss0 xs1 xs2).1) != ((ipl.res xss0 xs1 xs2).1)) = false := bne_self_eq_false _
  have tk1 : (((ipl.res xss0 xs1 xs2).2) != ((ipl.res xss0 xs1 xs2).2)) = false := bne_self_eq_false _
  go_wp2_with fail
  go_wp2_with fail
  refine (rws.to_any _ xss0 _ (H0.out.below BE20.out) hn0).mono ?_
  rintro e wc21 ⟨uy0, rfl, hu, hb⟩
  obtain ⟨y0a, y0n, y0c, rfl⟩ := hu.rows.shape
  have BE22 := Lib.hid (below_tr BE20.out hb)
  have OWx022 := Lib.hid (OWx020.out.keep hb)
  have OWx122 := Lib.hid (OWx120.out.keep hb)
  have OWx222 := Lib.hid (OWx220.out.keep hb)
  have ZZ22 : Hid (wf19.heap.size ≤ wc21.heap.size) := Lib.hid (by have := (hb).size; simpa using this)
  clear BE20 OWx020 OWx120 OWx220
  have OWy0 := Lib.hid (hu.mono (B' := wf19.heap.size) (by simp) (Nat.le_refl _))
  clear hu hb
  go_wp2_with fail
  refine (rws.eq_same _ _ xss0 _ OWx022.out.rows OWy0.out.rows hn0).mono ?_
  rintro e we23 ⟨rfl, hb⟩
  have BE24 := Lib.hid (below_tr BE22.out hb)
  have OWx024 := Lib.hid (OWx022.out.keep hb)
  have OWx124 := Lib.hid (OWx122.out.keep hb)
  have OWx224 := Lib.hid (OWx222.out.keep hb)
  have OWy024 := Lib.hid (OWy0.out.keep hb)
  have ZZ24 : Hid (wc21.heap.size ≤ we23.heap.size) := Lib.hid (by have := (hb).size; simpa using this)
  clear BE22 OWx022 OWx122 OWx222 OWy0
  clear hb
  clear OWy024
  go_wp2_with fail
  go_wp2_with fail
  refine (ints.to_any _ xs1 _ (H1.out.below BE24.out) hn1).mono ?_
  rintro e wc25 ⟨uy1, rfl, hu, hb⟩
  obtain ⟨y1a, y1n, y1c, rfl⟩ := hu.ints.shape
  have BE26 := Lib.hid (below_tr BE24.out hb)
  have OWx026 := Lib.hid (OWx024.out.keep hb)
  have OWx126 := Lib.hid (OWx124.out.keep hb)
  have OWx226 := Lib.hid (OWx224.out.keep hb)
  have ZZ26 : Hid (we23.heap.size ≤ wc25.heap.size) := Lib.hid (by have := (hb).size; simpa using this)
  clear BE24 OWx024 OWx124 OWx224
  have OWy1 := Lib.hid (hu.mono (B' := we23.heap.size) (by simp) (Nat.le_refl _))
  clear hu hb
  go_wp2_with fail
  refine (ints.eq_same _ _ xs1 _ OWx126.out.ints OWy1.out.ints hn1).mono ?_
  rintro e we27 ⟨rfl, hb⟩
  have BE28 := Lib.hid (below_tr BE26.out hb)
  have OWx028 := Lib.hid (OWx026.out.keep hb)
  have OWx128 := Lib.hid (OWx126.out.keep hb)
  have OWx228 := Lib.hid (OWx226.out.keep hb)
  have OWy128 := Lib.hid (OWy1.out.keep hb)
  have ZZ28 : Hid (wc25.heap.size ≤ we27.heap.size) := Lib.hid (by have := (hb).size; simpa using this)
  clear BE26 OWx026 OWx126 OWx226 OWy1
  clear hb
  clear OWy128
  go_wp2_with fail
  go_wp2_with fail
  refine (ints.to_any _ xs2 _ (H2.out.below BE28.out) hn2).mono ?_
  rintro e wc29 ⟨uy2, rfl, hu, hb⟩
  obtain ⟨y2a, y2n, y2c, rfl⟩ := hu.ints.shape
  have BE30 := Lib.hid (below_tr BE28.out hb)
  have OWx030 := Lib.hid (OWx028.out.keep hb)
  have OWx130 := Lib.hid (OWx128.out.keep hb)
  have OWx230 := Lib.hid (OWx228.out.keep hb)
  have ZZ30 : Hid (we27.heap.size ≤ wc29.heap.size) := Lib.hid (by have := (hb).size; simpa using this)
  clear BE28 OWx028 OWx128 OWx228
  have OWy2 := Lib.hid (hu.mono (B' := we27.heap.size) (by simp) (Nat.le_refl _))
  clear hu hb
  go_wp2_with fail
  refine (ints.eq_same _ _ xs2 _ OWx230.out.ints OWy2.out.ints hn2).mono ?_
  rintro e we31 ⟨rfl, hb⟩
  have BE32 := Lib.hid (below_tr BE30.out hb)
  have OWx032 := Lib.hid (OWx030.out.keep hb)
  have OWx132 := Lib.hid (OWx130.out.keep hb)
  have OWx232 := Lib.hid (OWx230.out.keep hb)
  have OWy232 := Lib.hid (OWy2.out.keep hb)
  have ZZ32 : Hid (wc29.heap.size ≤ we31.heap.size) := Lib.hid (by have := (hb).size; simpa using this)
  clear BE30 OWx030 OWx130 OWx230 OWy2
  clear hb
  clear OWy232
  go_wp2_with fail
  go_ret
  exact ⟨rfl, BE32.out⟩

/-! ### the frame of the row -/
theorem own : ownKnob Try.prog.godebug = none := by kernel_rfl
theorem laidOut : laidOutB Try.prog = true := by kernel_rfl
set_option maxRecDepth 100000 in
theorem lifted (os : Os) (started : os.Started) (H : Type) (enc : TypeId × Value → H) :
    ReturnsInHanded {} Try.checked os 8 .any (Rows.fnExactIsPlainSpec.pre6 enc Try.prog Try.f8 Rows.fnExactIsPlainRow.domain false) (Rows.fnExactIsPlainSpec.post enc Try.prog Try.f8 false true false false) := by
  refine returnsInHanded_of_change (C := Try.checked) own started (by kernel_rfl) Try.func8
    (ChangeSpec.witness6 (enc := enc) (C := Try.checked) false ⟨#[], #[.slice none 0 0, .slice none 0 0, .slice none 0 0], []⟩ 8 (by kernel_rfl) (by kernel_rfl) (by kernel_rfl) (by kernel_rfl)) ?_
  intro W base args ds gs before hval0 hW _ _
  have hval : ∀ (j : Nat) t v, Try.f8.params[j]? = some t → args[j]? = some v → Value.okWide Try.prog W .any base t v := hval0
  have hW' := hW
  obtain ⟨p, q, hA0, hV, rfl, hfz, hnd⟩ := hW
  have hA : DataW.TrodAll enc Try.prog W 0 (fun _ => true) true Try.f8.params.toList args.toList ds p := hA0
  rw [Try.params8] at hA hval
  obtain ⟨v0, vs0, d0, ds0, p0, q0, hargs, rfl, rfl, h0, r0⟩ := trodAll_cons hA
  obtain ⟨v1, vs1, d1, ds1, p1, q1, rfl, rfl, rfl, h1, r1⟩ := trodAll_cons r0
  obtain ⟨v2, vs2, d2, ds2, p2, q2, rfl, rfl, rfl, h2, r2⟩ := trodAll_cons r1
  obtain ⟨rfl, rfl, rfl⟩ := trodAll_nil r2
  obtain rfl : args = #[v0, v1, v2] := by cases args; simp_all
  obtain ⟨rfl, rfl⟩ := trodVars_none hV
  have lt0 : ∀ x ∈ p0, x.block < W.heap.size := by obtain ⟨m, hm⟩ := h0; exact DataW.trod_lt m _ _ _ hm
  obtain ⟨xss0, g0⟩ := opn.rows_of_trod Try.underlying22 Try.underlying27 Try.underlying3 (by kernel_rfl) (by kernel_rfl) (hval 0 22 v0 rfl rfl) h0
  have lt1 : ∀ x ∈ p1, x.block < W.heap.size := by obtain ⟨m, hm⟩ := h1; exact DataW.trod_lt m _ _ _ hm
  obtain ⟨xs1, g1⟩ := opn.ints_of_trod Try.underlying27 Try.underlying3 (by kernel_rfl) (hval 1 27 v1 rfl rfl) h1
  have lt2 : ∀ x ∈ p2, x.block < W.heap.size := by obtain ⟨m, hm⟩ := h2; exact DataW.trod_lt m _ _ _ hm
  obtain ⟨xs2, g2⟩ := opn.ints_of_trod Try.underlying27 Try.underlying3 (by kernel_rfl) (hval 2 27 v2 rfl rfl) h2
  clear hA0 hval0
  refine (walk v0 xss0 v1 xs1 v2 xs2 W g0 g1 g2).mono fun e W' ⟨he, bel⟩ => ?_
  subst he
  exact ⟨_, rfl, _, _, _, [], _, [], hW', trodAll_mk1 (shut_bool Try.underlying4 _), (trodAll_cons_mk (Below.trod laidOut (by kernel_rfl) (of_decide_eq_true (by kernel_rfl)) h0 bel lt0) (trodAll_cons_mk (Below.trod laidOut (by kernel_rfl) (of_decide_eq_true (by kernel_rfl)) h1 bel lt1) (trodAll_cons_mk (Below.trod laidOut (by kernel_rfl) (of_decide_eq_true (by kernel_rfl)) h2 bel lt2) trodAll_mk0))), rfl, bel.frame _, fun h => by cases h⟩

theorem over : Rows.fnExactIsPlainRow.holds Try.pinned (OpenSpec.ofChange Rows.fnExactIsPlainSpec) :=
  OpenClaim.holds_of_wide 8 Try.f8 rfl rfl rfl rfl rfl rfl rfl ⟨rfl, rfl, rfl, rfl, rfl⟩ rfl rfl rfl rfl rfl (by kernel_rfl) Try.func8 (by kernel_rfl)
    (of_decide_eq_true (by kernel_rfl)) (by unfold Func.isWrapper; first | (rw [if_pos (by decide +kernel)]; kernel_rfl) | (rw [if_neg (by decide +kernel)]; exact ⟨rfl, rfl⟩))
    (fun os started H enc _ => lifted os started H enc)

theorem proved : Rows.FnExactIsPlainSaid := over
#print axioms proved
end Go.Proofs.Ytggodllfaggjiaa.lawIsPlain
