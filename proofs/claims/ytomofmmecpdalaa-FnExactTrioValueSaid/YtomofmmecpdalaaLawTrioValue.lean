/- Proved here: for all arguments, the law FnExactTrioValue returns true: the program's function answers as its model in every field, leaves its arguments as they were, and its answer owns its memory. Conditions: none beyond the row. -/
import Derived.Test.YtomofmmecpdalaaTvl
import Derived.Test.YtomofmmecpdalaaOpen
import Derived.Test.YtomofmmecpdalaaRows
import Derived.Deep.RegionHeld3
namespace Go.Proofs.Ytomofmmecpdalaa.lawTrioValue
open Go.ChangeShapes Go.WideShapes Go.ChangeAt Go.RowKit Go.Deep Go.Proofs.Ytomofmmecpdalaa.base
open Go.ChangeMaps (open_string shut_string)

set_option maxRecDepth 100000 in
set_option maxHeartbeats 4000000 in
theorem walk (v0 : Value) (xs0 : List Int) (v1 : Value) (xs1 : List Int) (w : World) (h0 : Ints w v0 xs0) (h1 : Ints w v1 xs1) :
    Calls Try.prog 13 #[v0, v1] w fun e w' => e = .returned (.bool true) ∧ Below w.heap.size w w' := by
  obtain ⟨va0, vc0, hv0⟩ : ∃ A c, v0 = .slice A xs0.length c := by obtain ⟨A, c, hv, _⟩ := h0; exact ⟨A, c, by rw [hv, len_i64s]⟩
  subst hv0
  obtain ⟨va1, vc1, hv1⟩ : ∃ A c, v1 = .slice A xs1.length c := by obtain ⟨A, c, hv, _⟩ := h1; exact ⟨A, c, by rw [hv, len_i64s]⟩
  subst hv1
  have H0 := Lib.hid h0
  have H1 := Lib.hid h1
  clear h0 h1
  by_cases hs0 : 1048576 < (xs0.length : Int)
  · skip
    go_enter Try.func13, Try.ntmps13
    have BE0 := Lib.hid (Below.refl w.heap.size w)
    go_wp2_with fail
    go_ret
    exact ⟨rfl, BE0.out⟩
  have hn0 : xs0.length ≤ 1048576 := by omega
  by_cases hs1 : 1048576 < (xs1.length : Int)
  · skip
    go_enter Try.func13, Try.ntmps13
    have BE0 := Lib.hid (Below.refl w.heap.size w)
    go_wp2_with fail
    go_ret
    exact ⟨rfl, BE0.out⟩
  have hn1 : xs1.length ≤ 1048576 := by omega
  go_enter Try.func13, Try.ntmps13
  have BE0 := Lib.hid (Below.refl w.heap.size w)
  go_wp2_with fail
  refine (ints.to_any _ xs0 _ (H0.out.below BE0.out) hn0).mono ?_
  rintro e wc1 ⟨us0, rfl, hu, hb⟩
  obtain ⟨s0a, s0n, s0c, rfl⟩ := hu.ints.shape
  have BE2 := Lib.hid (below_tr BE0.out hb)
  have ZZ2 : Hid (w.heap.size ≤ wc1.heap.size) := Lib.hid (by have := (hb).size; simpa using this)
  clear BE0
  have OWs0 := Lib.hid (hu.mono (B' := w.heap.size) (by simp) (Nat.le_refl _))
  clear hu hb
  go_wp2_with fail
  refine (ints.to_any _ xs1 _ (H1.out.below BE2.out) hn1).mono ?_
  rintro e wc3 ⟨us1, rfl, hu, hb⟩
  obtain ⟨s1a, s1n, s1c, rfl⟩ := hu.ints.shape
  have BE4 := Lib.hid (below_tr BE2.out hb)
  have OWs04 := Lib.hid (OWs0.out.keep hb)
  have ZZ4 : Hid (wc1.heap.size ≤ wc3.heap.size) := Lib.hid (by have := (hb).size; simpa using this)
  clear BE2 OWs0
  have OWs1 := Lib.hid (hu.mono (B' := wc1.heap.size) (by simp) (Nat.le_refl _))
  clear hu hb
  go_wp2_with fail
  refine (tvl.spec_any (.slice s0a s0n s0c) (.slice s1a s1n s1c) xs0 xs1 _ OWs04.out.ints OWs1.out.ints).mono ?_
  rintro e wf5 ⟨rfl, hb⟩
  have BE6 := Lib.hid (below_tr BE4.out hb)
  have OWs06 := Lib.hid (OWs04.out.keep hb)
  have OWs16 := Lib.hid (OWs1.out.keep hb)
  have ZZ6 : Hid (wc3.heap.size ≤ wf5.heap.size) := Lib.hid (by have := (hb).size; simpa using this)
  clear BE4 OWs04 OWs1
  clear hb
  go_wp2_with fail
  refine (ints.to_any _ xs0 _ (H0.out.below BE6.out) hn0).mono ?_
  rintro e wc7 ⟨ux0, rfl, hu, hb⟩
  obtain ⟨x0a, x0n, x0c, rfl⟩ := hu.ints.shape
  have BE8 := Lib.hid (below_tr BE6.out hb)
  have ZZ8 : Hid (wf5.heap.size ≤ wc7.heap.size) := Lib.hid (by have := (hb).size; simpa using this)
  clear BE6
  have OWx0 := Lib.hid (hu.mono (B' := wf5.heap.size) (by simp) (Nat.le_refl _))
  clear hu hb
  go_wp2_with fail
  refine (ints.to_any _ xs1 _ (H1.out.below BE8.out) hn1).mono ?_
  rintro e wc9 ⟨ux1, rfl, hu, hb⟩
  obtain ⟨x1a, x1n, x1c, rfl⟩ := hu.ints.shape
  have BE10 := Lib.hid (below_tr BE8.out hb)
  have OWx010 := Lib.hid (OWx0.out.keep hb)
  have ZZ10 : Hid (wc7.heap.size ≤ wc9.heap.size) := Lib.hid (by have := (hb).size; simpa using this)
  clear BE8 OWx0
  have OWx1 := Lib.hid (hu.mono (B' := wc7.heap.size) (by simp) (Nat.le_refl _))
  clear hu hb
  go_wp2_with fail
  refine (tvl.impl_any (.slice x0a x0n x0c) (.slice x1a x1n x1c) xs0 xs1 _ OWx010.out.ints OWx1.out.ints).mono ?_
  rintro e wf11 ⟨rfl, hb⟩
  have BE12 := Lib.hid (below_tr BE10.out hb)
  have OWx012 := Lib.hid (OWx010.out.keep hb)
  have OWx112 := Lib.hid (OWx1.out.keep hb)
  have ZZ12 : Hid (wc9.heap.size ≤ wf11.heap.size) := Lib.hid (by have := (hb).size; simpa using this)
  clear BE10 OWx010 OWx1
  clear hb
  have tk0 : (((tvl.resV xs0 xs1).1) != ((tvl.resV xs0 xs1).1)) = false := bne_self_eq_false _
  have tk1 : (((tvl.resV xs0 xs1).2) != ((tvl.resV xs0 xs1).2)) = false := bne_self_eq_false _
  go_wp2_with fail
  go_wp2_with fail
  refine (ints.to_any _ xs0 _ (H0.out.below BE12.out) hn0).mono ?_
  rintro e wc13 ⟨uy0, rfl, hu, hb⟩
  obtain ⟨y0a, y0n, y0c, rfl⟩ := hu.ints.shape
  have BE14 := Lib.hid (below_tr BE12.out hb)
  have OWx014 := Lib.hid (OWx012.out.keep hb)
  have OWx114 := Lib.hid (OWx112.out.keep hb)
  have ZZ14 : Hid (wf11.heap.size ≤ wc13.heap.size) := Lib.hid (by have := (hb).size; simpa using this)
  clear BE12 OWx012 OWx112
  have OWy0 := Lib.hid (hu.mono (B' := wf11.heap.size) (by simp) (Nat.le_refl _))
  clear hu hb
  go_wp2_with fail
  refine (ints.eq_same _ _ xs0 _ OWx014.out.ints OWy0.out.ints hn0).mono ?_
  rintro e we15 ⟨rfl, hb⟩
  have BE16 := Lib.hid (below_tr BE14.out hb)
  have OWx016 := Lib.hid (OWx014.out.keep hb)
  have OWx116 := Lib.hid (OWx114.out.keep hb)
  have OWy016 := Lib.hid (OWy0.out.keep hb)
  have ZZ16 : Hid (wc13.heap.size ≤ we15.heap.size) := Lib.hid (by have := (hb).size; simpa using this)
  clear BE14 OWx014 OWx114 OWy0
  clear hb
  clear OWy016
  go_wp2_with fail
  go_wp2_with fail
  refine (ints.to_any _ xs1 _ (H1.out.below BE16.out) hn1).mono ?_
  rintro e wc17 ⟨uy1, rfl, hu, hb⟩
  obtain ⟨y1a, y1n, y1c, rfl⟩ := hu.ints.shape
  have BE18 := Lib.hid (below_tr BE16.out hb)
  have OWx018 := Lib.hid (OWx016.out.keep hb)
  have OWx118 := Lib.hid (OWx116.out.keep hb)
  have ZZ18 : Hid (we15.heap.size ≤ wc17.heap.size) := Lib.hid (by have := (hb).size; simpa using this)
  clear BE16 OWx016 OWx116
  have OWy1 := Lib.hid (hu.mono (B' := we15.heap.size) (by simp) (Nat.le_refl _))
  clear hu hb
  go_wp2_with fail
  refine (ints.eq_same _ _ xs1 _ OWx118.out.ints OWy1.out.ints hn1).mono ?_
  rintro e we19 ⟨rfl, hb⟩
  have BE20 := Lib.hid (below_tr BE18.out hb)
  have OWx020 := Lib.hid (OWx018.out.keep hb)
  have OWx120 := Lib.hid (OWx118.out.keep hb)
  have OWy120 := Lib.hid (OWy1.out.keep hb)
  have ZZ20 : Hid (wc17.heap.size ≤ we19.heap.size) := Lib.hid (by have := (hb).size; simpa using this)
  clear BE18 OWx018 OWx118 OWy1
  clear hb
  clear OWy120
  go_wp2_with fail
  go_ret
  exact ⟨rfl, BE20.out⟩

/-! ### the frame of the row -/
theorem own : ownKnob Try.prog.godebug = none := by kernel_rfl
theorem laidOut : laidOutB Try.prog = true := by kernel_rfl
set_option maxRecDepth 100000 in
theorem lifted (os : Os) (started : os.Started) (H : Type) (enc : TypeId × Value → H) :
    ReturnsInHanded {} Try.checked os 13 .any (Rows.fnExactTrioValueSpec.pre6 enc Try.prog Try.f13 Rows.fnExactTrioValueRow.domain false) (Rows.fnExactTrioValueSpec.post enc Try.prog Try.f13 false true false false) := by
  refine returnsInHanded_of_change (C := Try.checked) own started (by kernel_rfl) Try.func13
    (ChangeSpec.witness6 (enc := enc) (C := Try.checked) false ⟨#[], #[.slice none 0 0, .slice none 0 0], []⟩ 8 (by kernel_rfl) (by kernel_rfl) (by kernel_rfl) (by kernel_rfl)) ?_
  intro W base args ds gs before hval0 hW _ _
  have hval : ∀ (j : Nat) t v, Try.f13.params[j]? = some t → args[j]? = some v → Value.okWide Try.prog W .any base t v := hval0
  have hW' := hW
  obtain ⟨p, q, hA0, hV, rfl, hfz, hnd⟩ := hW
  have hA : DataW.TrodAll enc Try.prog W 0 (fun _ => true) true Try.f13.params.toList args.toList ds p := hA0
  rw [Try.params13] at hA hval
  obtain ⟨v0, vs0, d0, ds0, p0, q0, hargs, rfl, rfl, h0, r0⟩ := trodAll_cons hA
  obtain ⟨v1, vs1, d1, ds1, p1, q1, rfl, rfl, rfl, h1, r1⟩ := trodAll_cons r0
  obtain ⟨rfl, rfl, rfl⟩ := trodAll_nil r1
  obtain rfl : args = #[v0, v1] := by cases args; simp_all
  obtain ⟨rfl, rfl⟩ := trodVars_none hV
  have lt0 : ∀ x ∈ p0, x.block < W.heap.size := by obtain ⟨m, hm⟩ := h0; exact DataW.trod_lt m _ _ _ hm
  obtain ⟨xs0, g0⟩ := opn.ints_of_trod Try.underlying33 Try.underlying3 (by kernel_rfl) (hval 0 33 v0 rfl rfl) h0
  have lt1 : ∀ x ∈ p1, x.block < W.heap.size := by obtain ⟨m, hm⟩ := h1; exact DataW.trod_lt m _ _ _ hm
  obtain ⟨xs1, g1⟩ := opn.ints_of_trod Try.underlying33 Try.underlying3 (by kernel_rfl) (hval 1 33 v1 rfl rfl) h1
  clear hA0 hval0
  refine (walk v0 xs0 v1 xs1 W g0 g1).mono fun e W' ⟨he, bel⟩ => ?_
  subst he
  exact ⟨_, rfl, _, _, _, [], _, [], hW', trodAll_mk1 (shut_bool Try.underlying4 _), (trodAll_cons_mk (Below.trod laidOut (by kernel_rfl) (of_decide_eq_true (by kernel_rfl)) h0 bel lt0) (trodAll_cons_mk (Below.trod laidOut (by kernel_rfl) (of_decide_eq_true (by kernel_rfl)) h1 bel lt1) trodAll_mk0)), rfl, bel.frame _, fun h => by cases h⟩

theorem over : Rows.fnExactTrioValueRow.holds Try.pinned (OpenSpec.ofChange Rows.fnExactTrioValueSpec) :=
  OpenClaim.holds_of_wide 13 Try.f13 rfl rfl rfl rfl rfl rfl rfl ⟨rfl, rfl, rfl, rfl, rfl⟩ rfl rfl rfl rfl rfl (by kernel_rfl) Try.func13 (by kernel_rfl)
    (of_decide_eq_true (by kernel_rfl)) (by unfold Func.isWrapper; first | (rw [if_pos (by decide +kernel)]; kernel_rfl) | (rw [if_neg (by decide +kernel)]; exact ⟨rfl, rfl⟩))
    (fun os started H enc _ => lifted os started H enc)

theorem proved : Rows.FnExactTrioValueSaid := over
#print axioms proved
end Go.Proofs.Ytomofmmecpdalaa.lawTrioValue
