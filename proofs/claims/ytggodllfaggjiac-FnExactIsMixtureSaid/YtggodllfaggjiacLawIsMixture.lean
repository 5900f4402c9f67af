/- Proved here: for all arguments, the law FnExactIsMixture returns true: the program's function answers as its model in every field, leaves its arguments as they were, and its answer owns its memory. Conditions: none beyond the row. -/
import Derived.Test.YtggodllfaggjiacBox
import Derived.Test.YtggodllfaggjiacMxr
import Derived.Test.YtggodllfaggjiacOpen
import Derived.Test.YtggodllfaggjiacRows
import Derived.Deep.RegionHeld3
namespace Go.Proofs.Ytggodllfaggjiac.lawIsMixture
open Go.ChangeShapes Go.WideShapes Go.ChangeAt Go.RowKit Go.Deep Go.Proofs.Ytggodllfaggjiac.base
open Go.ChangeMaps (open_string shut_string)

set_option maxRecDepth 100000 in
set_option maxHeartbeats 4000000 in
theorem walk (x0 y0 wh0 : Int) (u0 : Value) (xss0 : List (List Int)) (v1 : Value) (xs1 : List Int) (w : World) (h0 : IRows w u0 xss0) (h1 : Ints w v1 xs1) :
    Calls Try.prog 3 #[.agg #[.int .i64 x0, .int .i64 y0, .int .i64 wh0, u0], v1] w fun e w' => e = .returned (.bool true) ∧ Below w.heap.size w w' := by
  obtain ⟨va0, vn0, vc0, rfl⟩ := h0.shape
  obtain ⟨va1, vc1, hv1⟩ : ∃ A c, v1 = .slice A xs1.length c := by obtain ⟨A, c, hv, _⟩ := h1; exact ⟨A, c, by rw [hv, len_i64s]⟩
  subst hv1
  have H0 := Lib.hid h0
  have H1 := Lib.hid h1
  clear h0 h1
  by_cases hs1 : 1048576 < (xs1.length : Int)
  · skip
    go_enter Try.func3, Try.ntmps3
    have BE0 := Lib.hid (Below.refl w.heap.size w)
    have BE1 := Lib.hid (below_al BE0.out (.cells #[.int .i64 x0, .int .i64 y0, .int .i64 wh0, .slice va0 vn0 vc0] 24))
    have KBp01 := Lib.hid (Blk.new w 24 #[.int .i64 x0, .int .i64 y0, .int .i64 wh0, .slice va0 vn0 vc0])
    clear BE0
    go_wp2_with fail
    go_ret
    exact ⟨rfl, BE1.out⟩
  have hn1 : xs1.length ≤ 1048576 := by omega
  by_cases hs0 : rws.sz xss0 (1048576) < 0
  · skip
    go_enter Try.func3, Try.ntmps3
    have BE0 := Lib.hid (Below.refl w.heap.size w)
    have BE2 := Lib.hid (below_al BE0.out (.cells #[.int .i64 x0, .int .i64 y0, .int .i64 wh0, .slice va0 vn0 vc0] 24))
    have KBp02 := Lib.hid (Blk.new w 24 #[.int .i64 x0, .int .i64 y0, .int .i64 wh0, .slice va0 vn0 vc0])
    clear BE0
    go_wp2_with fail
    refine (box.sz_any x0 y0 wh0 _ xss0 (1048576) _ (H0.out.below BE2.out) (by omega) (by omega)).mono ?_
    rintro e wz3 ⟨rfl, hb⟩
    have BE4 := Lib.hid (below_tr BE2.out hb)
    have KBp04 := Lib.hid (KBp02.out.below hb)
    have ZZ4 : Hid (w.heap.size + 1 ≤ wz3.heap.size) := Lib.hid (by have := (hb).size; simpa using this)
    clear BE2 KBp02
    obtain ⟨p0c0, p0c1, p0c2, p0c3, p0c4⟩ := four_cells KBp04.out
    clear hb
    go_wp2_with fail
    go_ret
    exact ⟨rfl, BE4.out⟩
  have hq0 := rws.sz_bound hs0
  have hn0 : rws.total xss0 ≤ 1048576 := by omega
  go_enter Try.func3, Try.ntmps3
  have BE0 := Lib.hid (Below.refl w.heap.size w)
  have BE5 := Lib.hid (below_al BE0.out (.cells #[.int .i64 x0, .int .i64 y0, .int .i64 wh0, .slice va0 vn0 vc0] 24))
  have KBp05 := Lib.hid (Blk.new w 24 #[.int .i64 x0, .int .i64 y0, .int .i64 wh0, .slice va0 vn0 vc0])
  clear BE0
  go_wp2_with fail
  refine (box.sz_any x0 y0 wh0 _ xss0 (1048576) _ (H0.out.below BE5.out) (by omega) (by omega)).mono ?_
  rintro e wz6 ⟨rfl, hb⟩
  have BE7 := Lib.hid (below_tr BE5.out hb)
  have KBp07 := Lib.hid (KBp05.out.below hb)
  have ZZ7 : Hid (w.heap.size + 1 ≤ wz6.heap.size) := Lib.hid (by have := (hb).size; simpa using this)
  clear BE5 KBp05
  obtain ⟨p0c0, p0c1, p0c2, p0c3, p0c4⟩ := four_cells KBp07.out
  clear hb
  go_wp2_with fail
  refine (box.to_any x0 y0 wh0 _ xss0 _ (H0.out.below BE7.out) hn0).mono ?_
  rintro e wc8 ⟨us0, rfl, hu, hb⟩
  obtain ⟨s0a, s0n, s0c, rfl⟩ := hu.rows.shape
  clear p0c0 p0c1 p0c2 p0c3 p0c4
  have BE9 := Lib.hid (below_tr BE7.out hb)
  have KBp09 := Lib.hid (KBp07.out.below hb)
  have ZZ9 : Hid (wz6.heap.size ≤ wc8.heap.size) := Lib.hid (by have := (hb).size; simpa using this)
  clear BE7 KBp07
  obtain ⟨p0c0, p0c1, p0c2, p0c3, p0c4⟩ := four_cells KBp09.out
  have OWs0 := Lib.hid (hu.mono (B' := wz6.heap.size) (by simp) (Nat.le_refl _))
  clear hu hb
  go_wp2_with fail
  refine (ints.to_any _ xs1 _ (H1.out.below BE9.out) hn1).mono ?_
  rintro e wc10 ⟨us1, rfl, hu, hb⟩
  obtain ⟨s1a, s1n, s1c, rfl⟩ := hu.ints.shape
  clear p0c0 p0c1 p0c2 p0c3 p0c4
  have BE11 := Lib.hid (below_tr BE9.out hb)
  have OWs011 := Lib.hid (OWs0.out.keep hb)
  have KBp011 := Lib.hid (KBp09.out.below hb)
  have ZZ11 : Hid (wc8.heap.size ≤ wc10.heap.size) := Lib.hid (by have := (hb).size; simpa using this)
  clear BE9 OWs0 KBp09
  obtain ⟨p0c0, p0c1, p0c2, p0c3, p0c4⟩ := four_cells KBp011.out
  have OWs1 := Lib.hid (hu.mono (B' := wc8.heap.size) (by simp) (Nat.le_refl _))
  clear hu hb
  go_wp2_with fail
  refine (ismix.spec_any x0 y0 wh0 (.slice s0a s0n s0c) xss0 (.slice s1a s1n s1c) xs1 _ OWs011.out.rows OWs1.out.ints hn0 hn1).mono ?_
  rintro e wf12 ⟨rfl, hb⟩
  clear p0c0 p0c1 p0c2 p0c3 p0c4
  have BE13 := Lib.hid (below_tr BE11.out hb)
  have OWs013 := Lib.hid (OWs011.out.keep hb)
  have OWs113 := Lib.hid (OWs1.out.keep hb)
  have KBp013 := Lib.hid (KBp011.out.below hb)
  have ZZ13 : Hid (wc10.heap.size ≤ wf12.heap.size) := Lib.hid (by have := (hb).size; simpa using this)
  clear BE11 OWs011 OWs1 KBp011
  obtain ⟨p0c0, p0c1, p0c2, p0c3, p0c4⟩ := four_cells KBp013.out
  clear hb
  go_wp2_with fail
  refine (box.to_any x0 y0 wh0 _ xss0 _ (H0.out.below BE13.out) hn0).mono ?_
  rintro e wc14 ⟨ux0, rfl, hu, hb⟩
  obtain ⟨x0a, x0n, x0c, rfl⟩ := hu.rows.shape
  clear p0c0 p0c1 p0c2 p0c3 p0c4
  have BE15 := Lib.hid (below_tr BE13.out hb)
  have KBp015 := Lib.hid (KBp013.out.below hb)
  have ZZ15 : Hid (wf12.heap.size ≤ wc14.heap.size) := Lib.hid (by have := (hb).size; simpa using this)
  clear BE13 KBp013
  obtain ⟨p0c0, p0c1, p0c2, p0c3, p0c4⟩ := four_cells KBp015.out
  have OWx0 := Lib.hid (hu.mono (B' := wf12.heap.size) (by simp) (Nat.le_refl _))
  clear hu hb
  go_wp2_with fail
  have BE16 := Lib.hid (below_al BE15.out (.cells #[.int .i64 x0, .int .i64 y0, .int .i64 wh0, .slice x0a x0n x0c] 29))
  have OWx016 := Lib.hid (OWx0.out.keep (below_al (Below.refl _ _) (.cells #[.int .i64 x0, .int .i64 y0, .int .i64 wh0, .slice x0a x0n x0c] 29)))
  have KBp016 := Lib.hid (KBp015.out.alloc (.cells #[.int .i64 x0, .int .i64 y0, .int .i64 wh0, .slice x0a x0n x0c] 29))
  have KBbx016 := Lib.hid (Blk.new wc14 29 #[.int .i64 x0, .int .i64 y0, .int .i64 wh0, .slice x0a x0n x0c])
  clear BE15 OWx0 KBp015
  go_wp2_with fail
  refine (ints.to_any _ xs1 _ (H1.out.below BE16.out) hn1).mono ?_
  rintro e wc17 ⟨ux1, rfl, hu, hb⟩
  obtain ⟨x1a, x1n, x1c, rfl⟩ := hu.ints.shape
  clear p0c0 p0c1 p0c2 p0c3 p0c4
  have BE18 := Lib.hid (below_tr BE16.out hb)
  have OWx018 := Lib.hid (OWx016.out.keep hb)
  have KBp018 := Lib.hid (KBp016.out.below hb)
  have KBbx018 := Lib.hid (KBbx016.out.below hb)
  have ZZ18 : Hid (wc14.heap.size + 1 ≤ wc17.heap.size) := Lib.hid (by have := (hb).size; simpa using this)
  clear BE16 OWx016 KBp016 KBbx016
  obtain ⟨p0c0, p0c1, p0c2, p0c3, p0c4⟩ := four_cells KBp018.out
  obtain ⟨bx0c0, bx0c1, bx0c2, bx0c3, bx0c4⟩ := four_cells KBbx018.out
  have OWx1 := Lib.hid (hu.mono (B' := wc14.heap.size + 1) (by simp) (Nat.le_refl _))
  clear hu hb
  go_wp2_with fail
  refine (ismix.impl_any x0 y0 wh0 (.slice x0a x0n x0c) xss0 (.slice x1a x1n x1c) xs1 _ OWx018.out.rows OWx1.out.ints hn0).mono ?_
  rintro e wf19 ⟨rfl, hb⟩
  clear p0c0 p0c1 p0c2 p0c3 p0c4 bx0c0 bx0c1 bx0c2 bx0c3 bx0c4
  have BE20 := Lib.hid (below_tr BE18.out hb)
  have OWx020 := Lib.hid (OWx018.out.keep hb)
  have OWx120 := Lib.hid (OWx1.out.keep hb)
  have KBp020 := Lib.hid (KBp018.out.below hb)
  have KBbx020 := Lib.hid (KBbx018.out.below hb)
  have ZZ20 : Hid (wc17.heap.size ≤ wf19.heap.size) := Lib.hid (by have := (hb).size; simpa using this)
  clear BE18 OWx018 OWx1 KBp018 KBbx018
  obtain ⟨p0c0, p0c1, p0c2, p0c3, p0c4⟩ := four_cells KBp020.out
  obtain ⟨bx0c0, bx0c1, bx0c2, bx0c3, bx0c4⟩ := four_cells KBbx020.out
  clear hb
  have tk0 : (((ismix.res x0 y0 wh0 xss0 xs1).1) != ((ismix.res x0 y0 wh0 xss0 xs1).1)) = false := bne_self_eq_false _
  have tk1 : (((ismix.res x0 y0 wh0 xss0 xs1).2) != ((ismix.res x0 y0 wh0 xss0 xs1).2)) = false := bne_self_eq_false _
  go_wp2_with fail
  have HA := Lib.hid (H0.out.below BE20.out)
  have HX := Lib.hid (OWx020.out.rows)
  go_region_held3 (fun w' => w'.cell? ⟨w.heap.size, 0, none⟩ = some (.int .i64 x0) ∧ w'.cell? ⟨w.heap.size, 1, none⟩ = some (.int .i64 y0) ∧ w'.cell? ⟨w.heap.size, 2, none⟩ = some (.int .i64 wh0) ∧ w'.cell? ⟨w.heap.size, 3, none⟩ = some (.slice va0 vn0 vc0) ∧ w'.cell? ⟨wc14.heap.size, 0, none⟩ = some (.int .i64 x0) ∧ w'.cell? ⟨wc14.heap.size, 1, none⟩ = some (.int .i64 y0) ∧ w'.cell? ⟨wc14.heap.size, 2, none⟩ = some (.int .i64 wh0) ∧ w'.cell? ⟨wc14.heap.size, 3, none⟩ = some (.slice x0a x0n x0c) ∧ Below wf19.heap.size wf19 w')
    ((refine held8 p0c0 p0c1 p0c2 p0c3 bx0c0 bx0c1 bx0c2 bx0c3 ?_; repeat (first | exact Below.refl _ _ | assumption | refine below_dr ?_ | refine below_tr ?_ (by assumption))))
    (first | (go_at_call 16; refine (box.to_any x0 y0 wh0 _ xss0 _ (HA.out.below ?_) hn0).mono ?_; (simp [*]); rintro e wq ⟨uqq0, rfl, huq, hbq⟩) | (go_at_call 19; refine (box.eq_same x0 y0 wh0 _ _ xss0 _ (HX.out.below (below_tr (below_dr (Below.refl _ _)) hbq)) huq.rows hn0).mono ?_; rintro e wd21 ⟨rfl, hbr⟩))
  have hbt := below_tr (below_tr (below_dr (Below.refl _ _)) hbq) hbr
  clear HA HX huq hbq hbr
  clear p0c0 p0c1 p0c2 p0c3 p0c4 bx0c0 bx0c1 bx0c2 bx0c3 bx0c4
  have BE22 := Lib.hid (below_tr BE20.out hbt)
  have OWx022 := Lib.hid (OWx020.out.keep hbt)
  have OWx122 := Lib.hid (OWx120.out.keep hbt)
  have KBp022 := Lib.hid (KBp020.out.below hbt)
  have KBbx022 := Lib.hid (KBbx020.out.below hbt)
  have ZZ22 : Hid (wf19.heap.size ≤ wd21.heap.size) := Lib.hid (by have := (hbt).size; simpa using this)
  clear BE20 OWx020 OWx120 KBp020 KBbx020
  obtain ⟨p0c0, p0c1, p0c2, p0c3, p0c4⟩ := four_cells KBp022.out
  obtain ⟨bx0c0, bx0c1, bx0c2, bx0c3, bx0c4⟩ := four_cells KBbx022.out
  clear hbt
  go_wp2_with fail
  go_wp2_with fail
  refine (ints.to_any _ xs1 _ (H1.out.below BE22.out) hn1).mono ?_
  rintro e wc23 ⟨uy1, rfl, hu, hb⟩
  obtain ⟨y1a, y1n, y1c, rfl⟩ := hu.ints.shape
  clear p0c0 p0c1 p0c2 p0c3 p0c4 bx0c0 bx0c1 bx0c2 bx0c3 bx0c4
  have BE24 := Lib.hid (below_tr BE22.out hb)
  have OWx024 := Lib.hid (OWx022.out.keep hb)
  have OWx124 := Lib.hid (OWx122.out.keep hb)
  have KBp024 := Lib.hid (KBp022.out.below hb)
  have KBbx024 := Lib.hid (KBbx022.out.below hb)
  have ZZ24 : Hid (wd21.heap.size ≤ wc23.heap.size) := Lib.hid (by have := (hb).size; simpa using this)
  clear BE22 OWx022 OWx122 KBp022 KBbx022
  obtain ⟨p0c0, p0c1, p0c2, p0c3, p0c4⟩ := four_cells KBp024.out
  obtain ⟨bx0c0, bx0c1, bx0c2, bx0c3, bx0c4⟩ := four_cells KBbx024.out
  have OWy1 := Lib.hid (hu.mono (B' := wd21.heap.size) (by simp) (Nat.le_refl _))
  clear hu hb
  go_wp2_with fail
  refine (ints.eq_same _ _ xs1 _ OWx124.out.ints OWy1.out.ints hn1).mono ?_
  rintro e we25 ⟨rfl, hb⟩
  clear p0c0 p0c1 p0c2 p0c3 p0c4 bx0c0 bx0c1 bx0c2 bx0c3 bx0c4
  have BE26 := Lib.hid (below_tr BE24.out hb)
  have OWx026 := Lib.hid (OWx024.out.keep hb)
  have OWx126 := Lib.hid (OWx124.out.keep hb)
  have OWy126 := Lib.hid (OWy1.out.keep hb)
  have KBp026 := Lib.hid (KBp024.out.below hb)
  have KBbx026 := Lib.hid (KBbx024.out.below hb)
  have ZZ26 : Hid (wc23.heap.size ≤ we25.heap.size) := Lib.hid (by have := (hb).size; simpa using this)
  clear BE24 OWx024 OWx124 OWy1 KBp024 KBbx024
  obtain ⟨p0c0, p0c1, p0c2, p0c3, p0c4⟩ := four_cells KBp026.out
  obtain ⟨bx0c0, bx0c1, bx0c2, bx0c3, bx0c4⟩ := four_cells KBbx026.out
  clear hb
  clear OWy126
  go_wp2_with fail
  go_ret
  exact ⟨rfl, BE26.out⟩

/-! ### the frame of the row -/
theorem own : ownKnob Try.prog.godebug = none := by kernel_rfl
theorem laidOut : laidOutB Try.prog = true := by kernel_rfl
set_option maxRecDepth 100000 in
theorem lifted (os : Os) (started : os.Started) (H : Type) (enc : TypeId × Value → H) :
    ReturnsInHanded {} Try.checked os 3 .any (Rows.fnExactIsMixtureSpec.pre6 enc Try.prog Try.f3 Rows.fnExactIsMixtureRow.domain false) (Rows.fnExactIsMixtureSpec.post enc Try.prog Try.f3 false true false false) := by
  refine returnsInHanded_of_change (C := Try.checked) own started (by kernel_rfl) Try.func3
    (ChangeSpec.witness6 (enc := enc) (C := Try.checked) false ⟨#[], #[.agg #[.int .i64 0, .int .i64 0, .int .i64 0, .slice none 0 0], .slice none 0 0], []⟩ 8 (by kernel_rfl) (by kernel_rfl) (by kernel_rfl) (by kernel_rfl)) ?_
  intro W base args ds gs before hval0 hW _ _
  have hval : ∀ (j : Nat) t v, Try.f3.params[j]? = some t → args[j]? = some v → Value.okWide Try.prog W .any base t v := hval0
  have hW' := hW
  obtain ⟨p, q, hA0, hV, rfl, hfz, hnd⟩ := hW
  have hA : DataW.TrodAll enc Try.prog W 0 (fun _ => true) true Try.f3.params.toList args.toList ds p := hA0
  rw [Try.params3] at hA hval
  obtain ⟨v0, vs0, d0, ds0, p0, q0, hargs, rfl, rfl, h0, r0⟩ := trodAll_cons hA
  obtain ⟨v1, vs1, d1, ds1, p1, q1, rfl, rfl, rfl, h1, r1⟩ := trodAll_cons r0
  obtain ⟨rfl, rfl, rfl⟩ := trodAll_nil r1
  obtain rfl : args = #[v0, v1] := by cases args; simp_all
  obtain ⟨rfl, rfl⟩ := trodVars_none hV
  have lt0 : ∀ x ∈ p0, x.block < W.heap.size := by obtain ⟨m, hm⟩ := h0; exact DataW.trod_lt m _ _ _ hm
  obtain ⟨x0, y0, wh0, u0, xss0, rfl, g0⟩ := opn.box_of_trod Try.underlying24 (by kernel_rfl) (by kernel_rfl) Try.underlying3 Try.underlying3 Try.underlying3 Try.underlying22 Try.underlying25 Try.underlying3 (by kernel_rfl) (by kernel_rfl) (hval 0 24 v0 rfl rfl) h0
  have lt1 : ∀ x ∈ p1, x.block < W.heap.size := by obtain ⟨m, hm⟩ := h1; exact DataW.trod_lt m _ _ _ hm
  obtain ⟨xs1, g1⟩ := opn.ints_of_trod Try.underlying25 Try.underlying3 (by kernel_rfl) (hval 1 25 v1 rfl rfl) h1
  clear hA0 hval0
  refine (walk x0 y0 wh0 u0 xss0 v1 xs1 W g0 g1).mono fun e W' ⟨he, bel⟩ => ?_
  subst he
  exact ⟨_, rfl, _, _, _, [], _, [], hW', trodAll_mk1 (shut_bool Try.underlying4 _), (trodAll_cons_mk (Below.trod laidOut (by kernel_rfl) (of_decide_eq_true (by kernel_rfl)) h0 bel lt0) (trodAll_cons_mk (Below.trod laidOut (by kernel_rfl) (of_decide_eq_true (by kernel_rfl)) h1 bel lt1) trodAll_mk0)), rfl, bel.frame _, fun h => by cases h⟩

theorem over : Rows.fnExactIsMixtureRow.holds Try.pinned (OpenSpec.ofChange Rows.fnExactIsMixtureSpec) :=
  OpenClaim.holds_of_wide 3 Try.f3 rfl rfl rfl rfl rfl rfl rfl ⟨rfl, rfl, rfl, rfl, rfl⟩ rfl rfl rfl rfl rfl (by kernel_rfl) Try.func3 (by kernel_rfl)
    (of_decide_eq_true (by kernel_rfl)) (by unfold Func.isWrapper; first | (rw [if_pos (by decide +kernel)]; kernel_rfl) | (rw [if_neg (by decide +kernel)]; exact ⟨rfl, rfl⟩))
    (fun os started H enc _ => lifted os started H enc)

theorem proved : Rows.FnExactIsMixtureSaid := over
#print axioms proved
end Go.Proofs.Ytggodllfaggjiac.lawIsMixture
