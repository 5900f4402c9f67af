/- Proved here: for all arguments, the law FnExactPlayWorth returns true: the program's function answers as its model in every field, leaves its arguments as they were, and its answer owns its memory. Conditions: none beyond the row. -/
import Derived.Test.YtkajebhagkbcaaaBox
import Derived.Test.YtkajebhagkbcaaaPworth
import Derived.Test.YtkajebhagkbcaaaOpen
import Derived.Test.YtkajebhagkbcaaaRows
import Derived.Deep.RegionHeld3
namespace Go.Proofs.Ytkajebhagkbcaaa.lawPlayWorth
open Go.ChangeShapes Go.WideShapes Go.ChangeAt Go.RowKit Go.Deep Go.Proofs.Ytkajebhagkbcaaa.base
open Go.ChangeMaps (open_string shut_string)

set_option maxRecDepth 100000 in
set_option maxHeartbeats 4000000 in
theorem walk (a0 : Int) (a1 : Int) (v2 : Value) (xss2 : List (List Int)) (v3 : Value) (xs3 : List Int) (w : World) (_f0 : (Lit.int .i64 a0).wf = true) (_f1 : (Lit.int .i64 a1).wf = true) (h2 : IRows w v2 xss2) (h3 : Ints w v3 xs3) :
    Calls Try.prog 13 #[.int .i64 a0, .int .i64 a1, v2, v3] w fun e w' => e = .returned (.bool true) ∧ Below w.heap.size w w' := by
  obtain ⟨va2, vn2, vc2, rfl⟩ := h2.shape
  obtain ⟨va3, vc3, hv3⟩ : ∃ A c, v3 = .slice A xs3.length c := by obtain ⟨A, c, hv, _⟩ := h3; exact ⟨A, c, by rw [hv, len_i64s]⟩
  subst hv3
  have H2 := Lib.hid h2
  have H3 := Lib.hid h3
  clear h2 h3
  by_cases hs3 : 1048576 < (xs3.length : Int)
  · skip
    go_enter Try.func13, Try.ntmps13
    have BE0 := Lib.hid (Below.refl w.heap.size w)
    go_wp2_with fail
    go_ret
    exact ⟨rfl, BE0.out⟩
  have hn3 : xs3.length ≤ 1048576 := by omega
  by_cases hs2 : rws.sz xss2 (1048576) < 0
  · skip
    go_enter Try.func13, Try.ntmps13
    have BE0 := Lib.hid (Below.refl w.heap.size w)
    go_wp2_with fail
    refine (rws.sz_below _ xss2 (1048576) _ (H2.out.below BE0.out) (by omega) (by omega)).mono ?_
    rintro e wz1 ⟨rfl, hb⟩
    have BE2 := Lib.hid (below_tr BE0.out hb)
    have ZZ2 : Hid (w.heap.size ≤ wz1.heap.size) := Lib.hid (by have := (hb).size; simpa using this)
    clear BE0
    clear hb
    go_wp2_with fail
    go_ret
    exact ⟨rfl, BE2.out⟩
  have hq2 := rws.sz_bound hs2
  have hn2 : rws.total xss2 ≤ 1048576 := by omega
  go_enter Try.func13, Try.ntmps13
  have BE0 := Lib.hid (Below.refl w.heap.size w)
  go_wp2_with fail
  refine (rws.sz_below _ xss2 (1048576) _ (H2.out.below BE0.out) (by omega) (by omega)).mono ?_
  rintro e wz3 ⟨rfl, hb⟩
  have BE4 := Lib.hid (below_tr BE0.out hb)
  have ZZ4 : Hid (w.heap.size ≤ wz3.heap.size) := Lib.hid (by have := (hb).size; simpa using this)
  clear BE0
  clear hb
  go_wp2_with fail
  refine (rws.to_any _ xss2 _ (H2.out.below BE4.out) hn2).mono ?_
  rintro e wc5 ⟨us2, rfl, hu, hb⟩
  obtain ⟨s2a, s2n, s2c, rfl⟩ := hu.rows.shape
  have BE6 := Lib.hid (below_tr BE4.out hb)
  have ZZ6 : Hid (wz3.heap.size ≤ wc5.heap.size) := Lib.hid (by have := (hb).size; simpa using this)
  clear BE4
  have OWs2 := Lib.hid (hu.mono (B' := wz3.heap.size) (by simp) (Nat.le_refl _))
  clear hu hb
  go_wp2_with fail
  refine (ints.to_any _ xs3 _ (H3.out.below BE6.out) hn3).mono ?_
  rintro e wc7 ⟨us3, rfl, hu, hb⟩
  obtain ⟨s3a, s3n, s3c, rfl⟩ := hu.ints.shape
  have BE8 := Lib.hid (below_tr BE6.out hb)
  have OWs28 := Lib.hid (OWs2.out.keep hb)
  have ZZ8 : Hid (wc5.heap.size ≤ wc7.heap.size) := Lib.hid (by have := (hb).size; simpa using this)
  clear BE6 OWs2
  have OWs3 := Lib.hid (hu.mono (B' := wc5.heap.size) (by simp) (Nat.le_refl _))
  clear hu hb
  go_wp2_with fail
  refine (pworth.spec_any a0 a1 (.slice s2a s2n s2c) (.slice s3a s3n s3c) xss2 xs3 _ OWs28.out.rows OWs3.out.ints hn2).mono ?_
  rintro e wf9 ⟨rfl, hb⟩
  have BE10 := Lib.hid (below_tr BE8.out hb)
  have OWs210 := Lib.hid (OWs28.out.keep hb)
  have OWs310 := Lib.hid (OWs3.out.keep hb)
  have ZZ10 : Hid (wc7.heap.size ≤ wf9.heap.size) := Lib.hid (by have := (hb).size; simpa using this)
  clear BE8 OWs28 OWs3
  clear hb
  go_wp2_with fail
  refine (rws.to_any _ xss2 _ (H2.out.below BE10.out) hn2).mono ?_
  rintro e wc11 ⟨ux2, rfl, hu, hb⟩
  obtain ⟨x2a, x2n, x2c, rfl⟩ := hu.rows.shape
  have BE12 := Lib.hid (below_tr BE10.out hb)
  have ZZ12 : Hid (wf9.heap.size ≤ wc11.heap.size) := Lib.hid (by have := (hb).size; simpa using this)
  clear BE10
  have OWx2 := Lib.hid (hu.mono (B' := wf9.heap.size) (by simp) (Nat.le_refl _))
  clear hu hb
  go_wp2_with fail
  refine (ints.to_any _ xs3 _ (H3.out.below BE12.out) hn3).mono ?_
  rintro e wc13 ⟨ux3, rfl, hu, hb⟩
  obtain ⟨x3a, x3n, x3c, rfl⟩ := hu.ints.shape
  have BE14 := Lib.hid (below_tr BE12.out hb)
  have OWx214 := Lib.hid (OWx2.out.keep hb)
  have ZZ14 : Hid (wc11.heap.size ≤ wc13.heap.size) := Lib.hid (by have := (hb).size; simpa using this)
  clear BE12 OWx2
  have OWx3 := Lib.hid (hu.mono (B' := wc11.heap.size) (by simp) (Nat.le_refl _))
  clear hu hb
  go_wp2_with fail
  refine (pworth.impl_any a0 a1 (.slice x2a x2n x2c) (.slice x3a x3n x3c) xss2 xs3 _ OWx214.out.rows OWx3.out.ints hn2).mono ?_
  rintro e wf15 ⟨rfl, hb⟩
  have BE16 := Lib.hid (below_tr BE14.out hb)
  have OWx216 := Lib.hid (OWx214.out.keep hb)
  have OWx316 := Lib.hid (OWx3.out.keep hb)
  have ZZ16 : Hid (wc13.heap.size ≤ wf15.heap.size) := Lib.hid (by have := (hb).size; simpa using this)
  clear BE14 OWx214 OWx3
  clear hb
  have tk0 : (((pworth.res a0 a1 xss2 xs3).1) != ((pworth.res a0 a1 xss2 xs3).1)) = false := bne_self_eq_false _
  have tk1 : (((pworth.res a0 a1 xss2 xs3).2) != ((pworth.res a0 a1 xss2 xs3).2)) = false := bne_self_eq_false _
  go_wp2_with fail
  go_wp2_with fail
  refine (rws.to_any _ xss2 _ (H2.out.below BE16.out) hn2).mono ?_
  rintro e wc17 ⟨uy2, rfl, hu, hb⟩
  obtain ⟨y2a, y2n, y2c, rfl⟩ := hu.rows.shape
  have BE18 := Lib.hid (below_tr BE16.out hb)
  have OWx218 := Lib.hid (OWx216.out.keep hb)
  have OWx318 := Lib.hid (OWx316.out.keep hb)
  have ZZ18 : Hid (wf15.heap.size ≤ wc17.heap.size) := Lib.hid (by have := (hb).size; simpa using this)
  clear BE16 OWx216 OWx316
  have OWy2 := Lib.hid (hu.mono (B' := wf15.heap.size) (by simp) (Nat.le_refl _))
  clear hu hb
  go_wp2_with fail
  refine (rws.eq_same _ _ xss2 _ OWx218.out.rows OWy2.out.rows hn2).mono ?_
  rintro e we19 ⟨rfl, hb⟩
  have BE20 := Lib.hid (below_tr BE18.out hb)
  have OWx220 := Lib.hid (OWx218.out.keep hb)
  have OWx320 := Lib.hid (OWx318.out.keep hb)
  have OWy220 := Lib.hid (OWy2.out.keep hb)
  have ZZ20 : Hid (wc17.heap.size ≤ we19.heap.size) := Lib.hid (by have := (hb).size; simpa using this)
  clear BE18 OWx218 OWx318 OWy2
  clear hb
  clear OWy220
  go_wp2_with fail
  go_wp2_with fail
  refine (ints.to_any _ xs3 _ (H3.out.below BE20.out) hn3).mono ?_
  rintro e wc21 ⟨uy3, rfl, hu, hb⟩
  obtain ⟨y3a, y3n, y3c, rfl⟩ := hu.ints.shape
  have BE22 := Lib.hid (below_tr BE20.out hb)
  have OWx222 := Lib.hid (OWx220.out.keep hb)
  have OWx322 := Lib.hid (OWx320.out.keep hb)
  have ZZ22 : Hid (we19.heap.size ≤ wc21.heap.size) := Lib.hid (by have := (hb).size; simpa using this)
  clear BE20 OWx220 OWx320
  have OWy3 := Lib.hid (hu.mono (B' := we19.heap.size) (by simp) (Nat.le_refl _))
  clear hu hb
  go_wp2_with fail
  refine (ints.eq_same _ _ xs3 _ OWx322.out.ints OWy3.out.ints hn3).mono ?_
  rintro e we23 ⟨rfl, hb⟩
  have BE24 := Lib.hid (below_tr BE22.out hb)
  have OWx224 := Lib.hid (OWx222.out.keep hb)
  have OWx324 := Lib.hid (OWx322.out.keep hb)
  have OWy324 := Lib.hid (OWy3.out.keep hb)
  have ZZ24 : Hid (wc21.heap.size ≤ we23.heap.size) := Lib.hid (by have := (hb).size; simpa using this)
  clear BE22 OWx222 OWx322 OWy3
  clear hb
  clear OWy324
  go_wp2_with fail
  go_ret
  exact ⟨rfl, BE24.out⟩

/-! ### the frame of the row -/
theorem own : ownKnob Try.prog.godebug = none := by kernel_rfl
theorem laidOut : laidOutB Try.prog = true := by kernel_rfl
set_option maxRecDepth 100000 in
theorem lifted (os : Os) (started : os.Started) (H : Type) (enc : TypeId × Value → H) :
    ReturnsInHanded {} Try.checked os 13 .any (Rows.fnExactPlayWorthSpec.pre6 enc Try.prog Try.f13 Rows.fnExactPlayWorthRow.domain false) (Rows.fnExactPlayWorthSpec.post enc Try.prog Try.f13 false true false false) := by
  refine returnsInHanded_of_change (C := Try.checked) own started (by kernel_rfl) Try.func13
    (ChangeSpec.witness6 (enc := enc) (C := Try.checked) false ⟨#[], #[.int .i64 0, .int .i64 0, .slice none 0 0, .slice none 0 0], []⟩ 8 (by kernel_rfl) (by kernel_rfl) (by kernel_rfl) (by kernel_rfl)) ?_
  intro W base args ds gs before hval0 hW _ _
  have hval : ∀ (j : Nat) t v, Try.f13.params[j]? = some t → args[j]? = some v → Value.okWide Try.prog W .any base t v := hval0
  have hW' := hW
  obtain ⟨p, q, hA0, hV, rfl, hfz, hnd⟩ := hW
  have hA : DataW.TrodAll enc Try.prog W 0 (fun _ => true) true Try.f13.params.toList args.toList ds p := hA0
  rw [Try.params13] at hA hval
  obtain ⟨v0, vs0, d0, ds0, p0, q0, hargs, rfl, rfl, h0, r0⟩ := trodAll_cons hA
  obtain ⟨v1, vs1, d1, ds1, p1, q1, rfl, rfl, rfl, h1, r1⟩ := trodAll_cons r0
  obtain ⟨v2, vs2, d2, ds2, p2, q2, rfl, rfl, rfl, h2, r2⟩ := trodAll_cons r1
  obtain ⟨v3, vs3, d3, ds3, p3, q3, rfl, rfl, rfl, h3, r3⟩ := trodAll_cons r2
  obtain ⟨rfl, rfl, rfl⟩ := trodAll_nil r3
  obtain rfl : args = #[v0, v1, v2, v3] := by cases args; simp_all
  obtain ⟨rfl, rfl⟩ := trodVars_none hV
  obtain ⟨a0, rfl, rfl, rfl, w0⟩ := open_int Try.underlying3 (hval 0 3 v0 rfl rfl) h0
  obtain ⟨a1, rfl, rfl, rfl, w1⟩ := open_int Try.underlying3 (hval 1 3 v1 rfl rfl) h1
  have lt2 : ∀ x ∈ p2, x.block < W.heap.size := by obtain ⟨m, hm⟩ := h2; exact DataW.trod_lt m _ _ _ hm
  obtain ⟨xss2, g2⟩ := opn.rows_of_trod Try.underlying22 Try.underlying30 Try.underlying3 (by kernel_rfl) (by kernel_rfl) (hval 2 22 v2 rfl rfl) h2
  have lt3 : ∀ x ∈ p3, x.block < W.heap.size := by obtain ⟨m, hm⟩ := h3; exact DataW.trod_lt m _ _ _ hm
  obtain ⟨xs3, g3⟩ := opn.ints_of_trod Try.underlying30 Try.underlying3 (by kernel_rfl) (hval 3 30 v3 rfl rfl) h3
  clear hA0 hval0
  refine (walk a0 a1 v2 xss2 v3 xs3 W w0 w1 g2 g3).mono fun e W' ⟨he, bel⟩ => ?_
  subst he
  exact ⟨_, rfl, _, _, _, [], _, [], hW', trodAll_mk1 (shut_bool Try.underlying4 _), (trodAll_cons_mk (shut_int Try.underlying3 w0) (trodAll_cons_mk (shut_int Try.underlying3 w1) (trodAll_cons_mk (Below.trod laidOut (by kernel_rfl) (of_decide_eq_true (by kernel_rfl)) h2 bel lt2) (trodAll_cons_mk (Below.trod laidOut (by kernel_rfl) (of_decide_eq_true (by kernel_rfl)) h3 bel lt3) trodAll_mk0)))), rfl, bel.frame _, fun h => by cases h⟩

theorem over : Rows.fnExactPlayWorthRow.holds Try.pinned (OpenSpec.ofChange Rows.fnExactPlayWorthSpec) :=
  OpenClaim.holds_of_wide 13 Try.f13 rfl rfl rfl rfl rfl rfl rfl ⟨rfl, rfl, rfl, rfl, rfl⟩ rfl rfl rfl rfl rfl (by kernel_rfl) Try.func13 (by kernel_rfl)
    (of_decide_eq_true (by kernel_rfl)) (by unfold Func.isWrapper; first | (rw [if_pos (by decide +kernel)]; kernel_rfl) | (rw [if_neg (by decide +kernel)]; exact ⟨rfl, rfl⟩))
    (fun os started H enc _ => lifted os started H enc)

theorem proved : Rows.FnExactPlayWorthSaid := over
#print axioms proved
end Go.Proofs.Ytkajebhagkbcaaa.lawPlayWorth
