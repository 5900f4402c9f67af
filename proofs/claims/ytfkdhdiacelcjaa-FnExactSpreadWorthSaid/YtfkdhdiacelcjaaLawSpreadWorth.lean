/- Proved here: for all arguments, the law FnExactSpreadWorth returns true: the program's function answers as its model in every field, leaves its arguments as they were, and its answer owns its memory. Conditions: none beyond the row. -/
import Derived.Test.YtfkdhdiacelcjaaRws
import Derived.Test.YtfkdhdiacelcjaaSpw
import Derived.Test.YtfkdhdiacelcjaaOpen
import Derived.Test.YtfkdhdiacelcjaaRows
import Derived.Deep.RegionHeld3
namespace Go.Proofs.Ytfkdhdiacelcjaa.lawSpreadWorth
open Go.ChangeShapes Go.WideShapes Go.ChangeAt Go.RowKit Go.Deep Go.Proofs.Ytfkdhdiacelcjaa.base
open Go.ChangeMaps (open_string shut_string)

set_option maxRecDepth 100000 in
set_option maxHeartbeats 4000000 in
theorem walk (v0 : Value) (xss0 : List (List Int)) (v1 : Value) (xss1 : List (List Int)) (v2 : Value) (xss2 : List (List Int)) (w : World) (h0 : IRows w v0 xss0) (h1 : IRows w v1 xss1) (h2 : IRows w v2 xss2) :
    Calls Try.prog 12 #[v0, v1, v2] w fun e w' => e = .returned (.bool true) ∧ Below w.heap.size w w' := by
  obtain ⟨va0, vn0, vc0, rfl⟩ := h0.shape
  obtain ⟨va1, vn1, vc1, rfl⟩ := h1.shape
  obtain ⟨va2, vn2, vc2, rfl⟩ := h2.shape
  have H0 := Lib.hid h0
  have H1 := Lib.hid h1
  have H2 := Lib.hid h2
  clear h0 h1 h2
  by_cases hs0 : rws.sz xss0 (1048576) < 0
  · skip
    go_enter Try.func12, Try.ntmps12
    have BE0 := Lib.hid (Below.refl w.heap.size w)
    go_wp2_with fail
    refine (rws.sz_below _ xss0 (1048576) _ (H0.out.below BE0.out) (by omega) (by omega)).mono ?_
    rintro e wz1 ⟨rfl, hb⟩
    have BE2 := Lib.hid (below_tr BE0.out hb)
    have ZZ2 : Hid (w.heap.size ≤ wz1.heap.size) := Lib.hid (by have := (hb).size; simpa using this)
    clear BE0
    clear hb
    go_wp2_with fail
    go_ret
    exact ⟨rfl, BE2.out⟩
  have hq0 := rws.sz_bound hs0
  have hn0 : rws.total xss0 ≤ 1048576 := by omega
  by_cases hs1 : rws.sz xss1 (rws.sz xss0 (1048576)) < 0
  · skip
    go_enter Try.func12, Try.ntmps12
    have BE0 := Lib.hid (Below.refl w.heap.size w)
    go_wp2_with fail
    refine (rws.sz_below _ xss0 (1048576) _ (H0.out.below BE0.out) (by omega) (by omega)).mono ?_
    rintro e wz3 ⟨rfl, hb⟩
    have BE4 := Lib.hid (below_tr BE0.out hb)
    have ZZ4 : Hid (w.heap.size ≤ wz3.heap.size) := Lib.hid (by have := (hb).size; simpa using this)
    clear BE0
    clear hb
    go_wp2_with fail
    refine (rws.sz_below _ xss1 (rws.sz xss0 (1048576)) _ (H1.out.below BE4.out) (by omega) (by omega)).mono ?_
    rintro e wz5 ⟨rfl, hb⟩
    have BE6 := Lib.hid (below_tr BE4.out hb)
    have ZZ6 : Hid (wz3.heap.size ≤ wz5.heap.size) := Lib.hid (by have := (hb).size; simpa using this)
    clear BE4
    clear hb
    go_wp2_with fail
    go_ret
    exact ⟨rfl, BE6.out⟩
  have hq1 := rws.sz_bound hs1
  have hn1 : rws.total xss1 ≤ 1048576 := by omega
  by_cases hs2 : rws.sz xss2 (rws.sz xss1 (rws.sz xss0 (1048576))) < 0
  · skip
    go_enter Try.func12, Try.ntmps12
    have BE0 := Lib.hid (Below.refl w.heap.size w)
    go_wp2_with fail
    refine (rws.sz_below _ xss0 (1048576) _ (H0.out.below BE0.out) (by omega) (by omega)).mono ?_
    rintro e wz7 ⟨rfl, hb⟩
    have BE8 := Lib.hid (below_tr BE0.out hb)
    have ZZ8 : Hid (w.heap.size ≤ wz7.heap.size) := Lib.hid (by have := (hb).size; simpa using this)
    clear BE0
    clear hb
    go_wp2_with fail
    refine (rws.sz_below _ xss1 (rws.sz xss0 (1048576)) _ (H1.out.below BE8.out) (by omega) (by omega)).mono ?_
    rintro e wz9 ⟨rfl, hb⟩
    have BE10 := Lib.hid (below_tr BE8.out hb)
    have ZZ10 : Hid (wz7.heap.size ≤ wz9.heap.size) := Lib.hid (by have := (hb).size; simpa using this)
    clear BE8
    clear hb
    go_wp2_with fail
    refine (rws.sz_below _ xss2 (rws.sz xss1 (rws.sz xss0 (1048576))) _ (H2.out.below BE10.out) (by omega) (by omega)).mono ?_
    rintro e wz11 ⟨rfl, hb⟩
    have BE12 := Lib.hid (below_tr BE10.out hb)
    have ZZ12 : Hid (wz9.heap.size ≤ wz11.heap.size) := Lib.hid (by have := (hb).size; simpa using this)
    clear BE10
    clear hb
    go_wp2_with fail
    go_ret
    exact ⟨rfl, BE12.out⟩
  have hq2 := rws.sz_bound hs2
  have hn2 : rws.total xss2 ≤ 1048576 := by omega
  go_enter Try.func12, Try.ntmps12
  have BE0 := Lib.hid (Below.refl w.heap.size w)
  go_wp2_with fail
  refine (rws.sz_below _ xss0 (1048576) _ (H0.out.below BE0.out) (by omega) (by omega)).mono ?_
  rintro e wz13 ⟨rfl, hb⟩
  have BE14 := Lib.hid (below_tr BE0.out hb)
  have ZZ14 : Hid (w.heap.size ≤ wz13.heap.size) := Lib.hid (by have := (hb).size; simpa using this)
  clear BE0
  clear hb
  go_wp2_with fail
  refine (rws.sz_below _ xss1 (rws.sz xss0 (1048576)) _ (H1.out.below BE14.out) (by omega) (by omega)).mono ?_
  rintro e wz15 ⟨rfl, hb⟩
  have BE16 := Lib.hid (below_tr BE14.out hb)
  have ZZ16 : Hid (wz13.heap.size ≤ wz15.heap.size) := Lib.hid (by have := (hb).size; simpa using this)
  clear BE14
  clear hb
  go_wp2_with fail
  refine (rws.sz_below _ xss2 (rws.sz xss1 (rws.sz xss0 (1048576))) _ (H2.out.below BE16.out) (by omega) (by omega)).mono ?_
  rintro e wz17 ⟨rfl, hb⟩
  have BE18 := Lib.hid (below_tr BE16.out hb)
  have ZZ18 : Hid (wz15.heap.size ≤ wz17.heap.size) := Lib.hid (by have := (hb).size; simpa using this)
  clear BE16
  clear hb
  go_wp2_with fail
  refine (rws.to_any _ xss0 _ (H0.out.below BE18.out) hn0).mono ?_
  rintro e wc19 ⟨us0, rfl, hu, hb⟩
  obtain ⟨s0a, s0n, s0c, rfl⟩ := hu.rows.shape
  have BE20 := Lib.hid (below_tr BE18.out hb)
  have ZZ20 : Hid (wz17.heap.size ≤ wc19.heap.size) := Lib.hid (by have := (hb).size; simpa using this)
  clear BE18
  have OWs0 := Lib.hid (hu.mono (B' := wz17.heap.size) (by simp) (Nat.le_refl _))
  clear hu hb
  go_wp2_with fail
  refine (rws.to_any _ xss1 _ (H1.out.below BE20.out) hn1).mono ?_
  rintro e wc21 ⟨us1, rfl, hu, hb⟩
  obtain ⟨s1a, s1n, s1c, rfl⟩ := hu.rows.shape
  have BE22 := Lib.hid (below_tr BE20.out hb)
  have OWs022 := Lib.hid (OWs0.out.keep hb)
  have ZZ22 : Hid (wc19.heap.size ≤ wc21.heap.size) := Lib.hid (by have := (hb).size; simpa using this)
  clear BE20 OWs0
  have OWs1 := Lib.hid (hu.mono (B' := wc19.heap.size) (by simp) (Nat.le_refl _))
  clear hu hb
  go_wp2_with fail
  refine (rws.to_any _ xss2 _ (H2.out.below BE22.out) hn2).mono ?_
  rintro e wc23 ⟨us2, rfl, hu, hb⟩
  obtain ⟨s2a, s2n, s2c, rfl⟩ := hu.rows.shape
  have BE24 := Lib.hid (below_tr BE22.out hb)
  have OWs024 := Lib.hid (OWs022.out.keep hb)
  have OWs124 := Lib.hid (OWs1.out.keep hb)
  have ZZ24 : Hid (wc21.heap.size ≤ wc23.heap.size) := Lib.hid (by have := (hb).size; simpa using this)
  clear BE22 OWs022 OWs1
  have OWs2 := Lib.hid (hu.mono (B' := wc21.heap.size) (by simp) (Nat.le_refl _))
  clear hu hb
  go_wp2_with fail
  refine (spw.spec_any (.slice s0a s0n s0c) (.slice s1a s1n s1c) (.slice s2a s2n s2c) xss0 xss1 xss2 _ OWs024.out.rows OWs124.out.rows OWs2.out.rows).mono ?_
  rintro e wf25 ⟨rfl, hb⟩
  have BE26 := Lib.hid (below_tr BE24.out hb)
  have OWs026 := Lib.hid (OWs024.out.keep hb)
  have OWs126 := Lib.hid (OWs124.out.keep hb)
  have OWs226 := Lib.hid (OWs2.out.keep hb)
  have ZZ26 : Hid (wc23.heap.size ≤ wf25.heap.size) := Lib.hid (by have := (hb).size; simpa using this)
  clear BE24 OWs024 OWs124 OWs2
  clear hb
  go_wp2_with fail
  refine (rws.to_any _ xss0 _ (H0.out.below BE26.out) hn0).mono ?_
  rintro e wc27 ⟨ux0, rfl, hu, hb⟩
  obtain ⟨x0a, x0n, x0c, rfl⟩ := hu.rows.shape
  have BE28 := Lib.hid (below_tr BE26.out hb)
  have ZZ28 : Hid (wf25.heap.size ≤ wc27.heap.size) := Lib.hid (by have := (hb).size; simpa using this)
  clear BE26
  have OWx0 := Lib.hid (hu.mono (B' := wf25.heap.size) (by simp) (Nat.le_refl _))
  clear hu hb
  go_wp2_with fail
  refine (rws.to_any _ xss1 _ (H1.out.below BE28.out) hn1).mono ?_
  rintro e wc29 ⟨ux1, rfl, hu, hb⟩
  obtain ⟨x1a, x1n, x1c, rfl⟩ := hu.rows.shape
  have BE30 := Lib.hid (below_tr BE28.out hb)
  have OWx030 := Lib.hid (OWx0.out.keep hb)
  have ZZ30 : Hid (wc27.heap.size ≤ wc29.heap.size) := Lib.hid (by have := (hb).size; simpa using this)
  clear BE28 OWx0
  have OWx1 := Lib.hid (hu.mono (B' := wc27.heap.size) (by simp) (Nat.le_refl _))
  clear hu hb
  go_wp2_with fail
  refine (rws.to_any _ xss2 _ (H2.out.below BE30.out) hn2).mono ?_
  rintro e wc31 ⟨ux2, rfl, hu, hb⟩
  obtain ⟨x2a, x2n, x2c, rfl⟩ := hu.rows.shape
  have BE32 := Lib.hid (below_tr BE30.out hb)
  have OWx032 := Lib.hid (OWx030.out.keep hb)
  have OWx132 := Lib.hid (OWx1.out.keep hb)
  have ZZ32 : Hid (wc29.heap.size ≤ wc31.heap.size) := Lib.hid (by have := (hb).size; simpa using this)
  clear BE30 OWx030 OWx1
  have OWx2 := Lib.hid (hu.mono (B' := wc29.heap.size) (by simp) (Nat.le_refl _))
  clear hu hb
  go_wp2_with fail
  refine (spw.impl_any (.slice x0a x0n x0c) (.slice x1a x1n x1c) (.slice x2a x2n x2c) xss0 xss1 xss2 _ OWx032.out.rows OWx132.out.rows OWx2.out.rows).mono ?_
  rintro e wf33 ⟨rfl, hb⟩
  have BE34 := Lib.hid (below_tr BE32.out hb)
  have OWx034 := Lib.hid (OWx032.out.keep hb)
  have OWx134 := Lib.hid (OWx132.out.keep hb)
  have OWx234 := Lib.hid (OWx2.out.keep hb)
  have ZZ34 : Hid (wc31.heap.size ≤ wf33.heap.size) := Lib.hid (by have := (hb).size; simpa using this)
  clear BE32 OWx032 OWx132 OWx2
  clear hb
  have tk0 : (((spw.res xss0 xss1 xss2).1) != ((spw.res xss0 xss1 xss2).1)) = false := bne_self_eq_false _
  have tk1 : (((spw.res xss0 xss1 xss2).2.1) != ((spw.res xss0 xss1 xss2).2.1)) = false := bne_self_eq_false _
  have tk2 : (((spw.res xss0 xss1 xss2).2.2) != ((spw.res xss0 xss1 xss2).2.2)) = false := bne_self_eq_false _
  go_wp2_with fail
  go_wp2_with fail
  refine (rws.to_any _ xss0 _ (H0.out.below BE34.out) hn0).mono ?_
  rintro e wc35 ⟨uy0, rfl, hu, hb⟩
  obtain ⟨y0a, y0n, y0c, rfl⟩ := hu.rows.shape
  have BE36 := Lib.hid (below_tr BE34.out hb)
  have OWx036 := Lib.hid (OWx034.out.keep hb)
  have OWx136 := Lib.hid (OWx134.out.keep hb)
  have OWx236 := Lib.hid (OWx234.out.keep hb)
  have ZZ36 : Hid (wf33.heap.size ≤ wc35.heap.size) := Lib.hid (by have := (hb).size; simpa using this)
  clear BE34 OWx034 OWx134 OWx234
  have OWy0 := Lib.hid (hu.mono (B' := wf33.heap.size) (by simp) (Nat.le_refl _))
  clear hu hb
  go_wp2_with fail
  refine (rws.eq_same _ _ xss0 _ OWx036.out.rows OWy0.out.rows hn0).mono ?_
  rintro e we37 ⟨rfl, hb⟩
  have BE38 := Lib.hid (below_tr BE36.out hb)
  have OWx038 := Lib.hid (OWx036.out.keep hb)
  have OWx138 := Lib.hid (OWx136.out.keep hb)
  have OWx238 := Lib.hid (OWx236.out.keep hb)
  have OWy038 := Lib.hid (OWy0.out.keep hb)
  have ZZ38 : Hid (wc35.heap.size ≤ we37.heap.size) := Lib.hid (by have := (hb).size; simpa using this)
  clear BE36 OWx036 OWx136 OWx236 OWy0
  clear hb
  clear OWy038
  go_wp2_with fail
  go_wp2_with fail
  refine (rws.to_any _ xss1 _ (H1.out.below BE38.out) hn1).mono ?_
  rintro e wc39 ⟨uy1, rfl, hu, hb⟩
  obtain ⟨y1a, y1n, y1c, rfl⟩ := hu.rows.shape
  have BE40 := Lib.hid (below_tr BE38.out hb)
  have OWx040 := Lib.hid (OWx038.out.keep hb)
  have OWx140 := Lib.hid (OWx138.out.keep hb)
  have OWx240 := Lib.hid (OWx238.out.keep hb)
  have ZZ40 : Hid (we37.heap.size ≤ wc39.heap.size) := Lib.hid (by have := (hb).size; simpa using this)
  clear BE38 OWx038 OWx138 OWx238
  have OWy1 := Lib.hid (hu.mono (B' := we37.heap.size) (by simp) (Nat.le_refl _))
  clear hu hb
  go_wp2_with fail
  refine (rws.eq_same _ _ xss1 _ OWx140.out.rows OWy1.out.rows hn1).mono ?_
  rintro e we41 ⟨rfl, hb⟩
  have BE42 := Lib.hid (below_tr BE40.out hb)
  have OWx042 := Lib.hid (OWx040.out.keep hb)
  have OWx142 := Lib.hid (OWx140.out.keep hb)
  have OWx242 := Lib.hid (OWx240.out.keep hb)
  have OWy142 := Lib.hid (OWy1.out.keep hb)
  have ZZ42 : Hid (wc39.heap.size ≤ we41.heap.size) := Lib.hid (by have := (hb).size; simpa using this)
  clear BE40 OWx040 OWx140 OWx240 OWy1
  clear hb
  clear OWy142
  go_wp2_with fail
  go_wp2_with fail
  refine (rws.to_any _ xss2 _ (H2.out.below BE42.out) hn2).mono ?_
  rintro e wc43 ⟨uy2, rfl, hu, hb⟩
  obtain ⟨y2a, y2n, y2c, rfl⟩ := hu.rows.shape
  have BE44 := Lib.hid (below_tr BE42.out hb)
  have OWx044 := Lib.hid (OWx042.out.keep hb)
  have OWx144 := Lib.hid (OWx142.out.keep hb)
  have OWx244 := Lib.hid (OWx242.out.keep hb)
  have ZZ44 : Hid (we41.heap.size ≤ wc43.heap.size) := Lib.hid (by have := (hb).size; simpa using this)
  clear BE42 OWx042 OWx142 OWx242
  have OWy2 := Lib.hid (hu.mono (B' := we41.heap.size) (by simp) (Nat.le_refl _))
  clear hu hb
  go_wp2_with fail
  refine (rws.eq_same _ _ xss2 _ OWx244.out.rows OWy2.out.rows hn2).mono ?_
  rintro e we45 ⟨rfl, hb⟩
  have BE46 := Lib.hid (below_tr BE44.out hb)
  have OWx046 := Lib.hid (OWx044.out.keep hb)
  have OWx146 := Lib.hid (OWx144.out.keep hb)
  have OWx246 := Lib.hid (OWx244.out.keep hb)
  have OWy246 := Lib.hid (OWy2.out.keep hb)
  have ZZ46 : Hid (wc43.heap.size ≤ we45.heap.size) := Lib.hid (by have := (hb).size; simpa using this)
  clear BE44 OWx044 OWx144 OWx244 OWy2
  clear hb
  clear OWy246
  go_wp2_with fail
  go_ret
  exact ⟨rfl, BE46.out⟩

/-! ### the frame of the row -/
theorem own : ownKnob Try.prog.godebug = none := by kernel_rfl
theorem laidOut : laidOutB Try.prog = true := by kernel_rfl
set_option maxRecDepth 100000 in
theorem lifted (os : Os) (started : os.Started) (H : Type) (enc : TypeId × Value → H) :
    ReturnsInHanded {} Try.checked os 12 .any (Rows.fnExactSpreadWorthSpec.pre6 enc Try.prog Try.f12 Rows.fnExactSpreadWorthRow.domain false) (Rows.fnExactSpreadWorthSpec.post enc Try.prog Try.f12 false true false false) := by
  refine returnsInHanded_of_change (C := Try.checked) own started (by kernel_rfl) Try.func12
    (ChangeSpec.witness6 (enc := enc) (C := Try.checked) false ⟨#[], #[.slice none 0 0, .slice none 0 0, .slice none 0 0], []⟩ 8 (by kernel_rfl) (by kernel_rfl) (by kernel_rfl) (by kernel_rfl)) ?_
  intro W base args ds gs before hval0 hW _ _
  have hval : ∀ (j : Nat) t v, Try.f12.params[j]? = some t → args[j]? = some v → Value.okWide Try.prog W .any base t v := hval0
  have hW' := hW
  obtain ⟨p, q, hA0, hV, rfl, hfz, hnd⟩ := hW
  have hA : DataW.TrodAll enc Try.prog W 0 (fun _ => true) true Try.f12.params.toList args.toList ds p := hA0
  rw [Try.params12] at hA hval
  obtain ⟨v0, vs0, d0, ds0, p0, q0, hargs, rfl, rfl, h0, r0⟩ := trodAll_cons hA
  obtain ⟨v1, vs1, d1, ds1, p1, q1, rfl, rfl, rfl, h1, r1⟩ := trodAll_cons r0
  obtain ⟨v2, vs2, d2, ds2, p2, q2, rfl, rfl, rfl, h2, r2⟩ := trodAll_cons r1
  obtain ⟨rfl, rfl, rfl⟩ := trodAll_nil r2
  obtain rfl : args = #[v0, v1, v2] := by cases args; simp_all
  obtain ⟨rfl, rfl⟩ := trodVars_none hV
  have lt0 : ∀ x ∈ p0, x.block < W.heap.size := by obtain ⟨m, hm⟩ := h0; exact DataW.trod_lt m _ _ _ hm
  obtain ⟨xss0, g0⟩ := opn.rows_of_trod Try.underlying23 Try.underlying22 Try.underlying3 (by kernel_rfl) (by kernel_rfl) (hval 0 23 v0 rfl rfl) h0
  have lt1 : ∀ x ∈ p1, x.block < W.heap.size := by obtain ⟨m, hm⟩ := h1; exact DataW.trod_lt m _ _ _ hm
  obtain ⟨xss1, g1⟩ := opn.rows_of_trod Try.underlying23 Try.underlying22 Try.underlying3 (by kernel_rfl) (by kernel_rfl) (hval 1 23 v1 rfl rfl) h1
  have lt2 : ∀ x ∈ p2, x.block < W.heap.size := by obtain ⟨m, hm⟩ := h2; exact DataW.trod_lt m _ _ _ hm
  obtain ⟨xss2, g2⟩ := opn.rows_of_trod Try.underlying23 Try.underlying22 Try.underlying3 (by kernel_rfl) (by kernel_rfl) (hval 2 23 v2 rfl rfl) h2
  clear hA0 hval0
  refine (walk v0 xss0 v1 xss1 v2 xss2 W g0 g1 g2).mono fun e W' ⟨he, bel⟩ => ?_
  subst he
  exact ⟨_, rfl, _, _, _, [], _, [], hW', trodAll_mk1 (shut_bool Try.underlying4 _), (trodAll_cons_mk (Below.trod laidOut (by kernel_rfl) (of_decide_eq_true (by kernel_rfl)) h0 bel lt0) (trodAll_cons_mk (Below.trod laidOut (by kernel_rfl) (of_decide_eq_true (by kernel_rfl)) h1 bel lt1) (trodAll_cons_mk (Below.trod laidOut (by kernel_rfl) (of_decide_eq_true (by kernel_rfl)) h2 bel lt2) trodAll_mk0))), rfl, bel.frame _, fun h => by cases h⟩

theorem over : Rows.fnExactSpreadWorthRow.holds Try.pinned (OpenSpec.ofChange Rows.fnExactSpreadWorthSpec) :=
  OpenClaim.holds_of_wide 12 Try.f12 rfl rfl rfl rfl rfl rfl rfl ⟨rfl, rfl, rfl, rfl, rfl⟩ rfl rfl rfl rfl rfl (by kernel_rfl) Try.func12 (by kernel_rfl)
    (of_decide_eq_true (by kernel_rfl)) (by unfold Func.isWrapper; first | (rw [if_pos (by decide +kernel)]; kernel_rfl) | (rw [if_neg (by decide +kernel)]; exact ⟨rfl, rfl⟩))
    (fun os started H enc _ => lifted os started H enc)

theorem proved : Rows.FnExactSpreadWorthSaid := over
#print axioms proved
end Go.Proofs.Ytfkdhdiacelcjaa.lawSpreadWorth
