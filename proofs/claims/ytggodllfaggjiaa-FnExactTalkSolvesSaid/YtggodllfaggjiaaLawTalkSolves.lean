/- Proved here: for all arguments, the law FnExactTalkSolves returns true: the program's function answers as its model in every field, leaves its arguments as they were, and its answer owns its memory. Conditions: none beyond the row. -/
import Derived.Test.YtggodllfaggjiaaTalk
import Derived.Test.YtggodllfaggjiaaTso
import Derived.Test.YtggodllfaggjiaaPrs
import Derived.Test.YtggodllfaggjiaaRows
import Derived.Deep.RegionHeld3
namespace Go.Proofs.Ytggodllfaggjiaa.lawTalkSolves
open Go.ChangeShapes Go.WideShapes Go.ChangeAt Go.RowKit Go.Deep Go.Proofs.Ytggodllfaggjiaa.base
open Go.ChangeMaps (open_string shut_string)

set_option maxRecDepth 100000 in
set_option maxHeartbeats 4000000 in
theorem walk (sv0 : Value) (ss0 : List Int) (u0 : Value) (xss0 : List (List Int)) (nv0 : Value) (ps0 : List (Int × Int)) (v1 : Value) (xss1 : List (List Int)) (w : World) (h0 : talk.TV w sv0 ss0 u0 xss0 nv0 ps0) (h1 : IRows w v1 xss1) :
    Calls Try.prog 6 #[.agg #[sv0, u0, nv0], v1] w fun e w' => e = .returned (.bool true) ∧ Below w.heap.size w w' := by
  obtain ⟨wa0, wn0, wc0, va0, vn0, vc0, na0, nn0, nc0, rfl, rfl, rfl⟩ := h0.shape
  obtain ⟨va1, vn1, vc1, rfl⟩ := h1.shape
  have H0 := Lib.hid h0
  have H1 := Lib.hid h1
  clear h0 h1
  by_cases hs0 : talk.sz ss0 xss0 ps0 (1048576) < 0
  · skip
    go_enter Try.func6, Try.ntmps6
    have BE0 := Lib.hid (Below.refl w.heap.size w)
    have BE1 := Lib.hid (below_al BE0.out (.cells #[.slice wa0 wn0 wc0, .slice va0 vn0 vc0, .slice na0 nn0 nc0] 30))
    have KBp01 := Lib.hid (Blk.new w 30 #[.slice wa0 wn0 wc0, .slice va0 vn0 vc0, .slice na0 nn0 nc0])
    clear BE0
    go_wp2_with fail
    refine (talk.sz_any _ ss0 _ xss0 _ ps0 (1048576) _ (H0.out.below BE1.out) (by omega) (by omega)).mono ?_
    rintro e wz2 ⟨rfl, hb⟩
    have BE3 := Lib.hid (below_tr BE1.out hb)
    have KBp03 := Lib.hid (KBp01.out.below hb)
    have ZZ3 : Hid (w.heap.size + 1 ≤ wz2.heap.size) := Lib.hid (by have := (hb).size; simpa using this)
    clear BE1 KBp01
    obtain ⟨p0c0, p0c1, p0c2, p0c3⟩ := scene.three_cells KBp03.out
    clear hb
    go_wp2_with fail
    go_ret
    exact ⟨rfl, BE3.out⟩
  have hq0 := talk.sz_bound hs0
  have hn0 : ss0.length ≤ 1048576 := by omega
  have hm0 : rws.total xss0 ≤ 1048576 := by omega
  have hk0 : ps0.length ≤ 1048576 := by omega
  by_cases hs1 : rws.sz xss1 (talk.sz ss0 xss0 ps0 (1048576)) < 0
  · skip
    go_enter Try.func6, Try.ntmps6
    have BE0 := Lib.hid (Below.refl w.heap.size w)
    have BE4 := Lib.hid (below_al BE0.out (.cells #[.slice wa0 wn0 wc0, .slice va0 vn0 vc0, .slice na0 nn0 nc0] 30))
    have KBp04 := Lib.hid (Blk.new w 30 #[.slice wa0 wn0 wc0, .slice va0 vn0 vc0, .slice na0 nn0 nc0])
    clear BE0
    go_wp2_with fail
    refine (talk.sz_any _ ss0 _ xss0 _ ps0 (1048576) _ (H0.out.below BE4.out) (by omega) (by omega)).mono ?_
    rintro e wz5 ⟨rfl, hb⟩
    have BE6 := Lib.hid (below_tr BE4.out hb)
    have KBp06 := Lib.hid (KBp04.out.below hb)
    have ZZ6 : Hid (w.heap.size + 1 ≤ wz5.heap.size) := Lib.hid (by have := (hb).size; simpa using this)
    clear BE4 KBp04
    obtain ⟨p0c0, p0c1, p0c2, p0c3⟩ := scene.three_cells KBp06.out
    clear hb
    go_wp2_with fail
    refine (rws.sz_below _ xss1 (talk.sz ss0 xss0 ps0 (1048576)) _ (H1.out.below BE6.out) (by omega) (by omega)).mono ?_
    rintro e wz7 ⟨rfl, hb⟩
    clear p0c0 p0c1 p0c2 p0c3
    have BE8 := Lib.hid (below_tr BE6.out hb)
    have KBp08 := Lib.hid (KBp06.out.below hb)
    have ZZ8 : Hid (wz5.heap.size ≤ wz7.heap.size) := Lib.hid (by have := (hb).size; simpa using this)
    clear BE6 KBp06
    obtain ⟨p0c0, p0c1, p0c2, p0c3⟩ := scene.three_cells KBp08.out
    clear hb
    go_wp2_with fail
    go_ret
    exact ⟨rfl, BE8.out⟩
  have hq1 := rws.sz_bound hs1
  have hn1 : rws.total xss1 ≤ 1048576 := by omega
  go_enter Try.func6, Try.ntmps6
  have BE0 := Lib.hid (Below.refl w.heap.size w)
  have BE9 := Lib.hid (below_al BE0.out (.cells #[.slice wa0 wn0 wc0, .slice va0 vn0 vc0, .slice na0 nn0 nc0] 30))
  have KBp09 := Lib.hid (Blk.new w 30 #[.slice wa0 wn0 wc0, .slice va0 vn0 vc0, .slice na0 nn0 nc0])
  clear BE0
  go_wp2_with fail
  refine (talk.sz_any _ ss0 _ xss0 _ ps0 (1048576) _ (H0.out.below BE9.out) (by omega) (by omega)).mono ?_
  rintro e wz10 ⟨rfl, hb⟩
  have BE11 := Lib.hid (below_tr BE9.out hb)
  have KBp011 := Lib.hid (KBp09.out.below hb)
  have ZZ11 : Hid (w.heap.size + 1 ≤ wz10.heap.size) := Lib.hid (by have := (hb).size; simpa using this)
  clear BE9 KBp09
  obtain ⟨p0c0, p0c1, p0c2, p0c3⟩ := scene.three_cells KBp011.out
  clear hb
  go_wp2_with fail
  refine (rws.sz_below _ xss1 (talk.sz ss0 xss0 ps0 (1048576)) _ (H1.out.below BE11.out) (by omega) (by omega)).mono ?_
  rintro e wz12 ⟨rfl, hb⟩
  clear p0c0 p0c1 p0c2 p0c3
  have BE13 := Lib.hid (below_tr BE11.out hb)
  have KBp013 := Lib.hid (KBp011.out.below hb)
  have ZZ13 : Hid (wz10.heap.size ≤ wz12.heap.size) := Lib.hid (by have := (hb).size; simpa using this)
  clear BE11 KBp011
  obtain ⟨p0c0, p0c1, p0c2, p0c3⟩ := scene.three_cells KBp013.out
  clear hb
  go_wp2_with fail
  refine (talk.to_any _ ss0 _ xss0 _ ps0 _ (H0.out.below BE13.out) hn0 hm0 hk0).mono ?_
  rintro e wc14 ⟨vs0, us0, ns0, rfl, hu, hb⟩
  obtain ⟨s0a, s0n, s0c, s0d, s0m, s0e, s0f, s0o, s0g, rfl, rfl, rfl⟩ := hu.view.shape
  clear p0c0 p0c1 p0c2 p0c3
  have BE15 := Lib.hid (below_tr BE13.out hb)
  have KBp015 := Lib.hid (KBp013.out.below hb)
  have ZZ15 : Hid (wz12.heap.size ≤ wc14.heap.size) := Lib.hid (by have := (hb).size; simpa using this)
  clear BE13 KBp013
  obtain ⟨p0c0, p0c1, p0c2, p0c3⟩ := scene.three_cells KBp015.out
  have OWs0 := Lib.hid (hu.mono (B' := wz12.heap.size) (by simp) (Nat.le_refl _))
  clear hu hb
  go_wp2_with fail
  refine (rws.to_any _ xss1 _ (H1.out.below BE15.out) hn1).mono ?_
  rintro e wc16 ⟨us1, rfl, hu, hb⟩
  obtain ⟨s1a, s1n, s1c, rfl⟩ := hu.rows.shape
  clear p0c0 p0c1 p0c2 p0c3
  have BE17 := Lib.hid (below_tr BE15.out hb)
  have OWs017 := Lib.hid (OWs0.out.keep hb)
  have KBp017 := Lib.hid (KBp015.out.below hb)
  have ZZ17 : Hid (wc14.heap.size ≤ wc16.heap.size) := Lib.hid (by have := (hb).size; simpa using this)
  clear BE15 OWs0 KBp015
  obtain ⟨p0c0, p0c1, p0c2, p0c3⟩ := scene.three_cells KBp017.out
  have OWs1 := Lib.hid (hu.mono (B' := wc14.heap.size) (by simp) (Nat.le_refl _))
  clear hu hb
  go_wp2_with fail
  refine (tso.spec_any (.slice s0a s0n s0c) ss0 (.slice s0d s0m s0e) xss0 (.slice s0f s0o s0g) ps0 (.slice s1a s1n s1c) xss1 _ OWs017.out.view OWs1.out.rows).mono ?_
  rintro e wf18 ⟨rfl, hb⟩
  clear p0c0 p0c1 p0c2 p0c3
  have BE19 := Lib.hid (below_tr BE17.out hb)
  have OWs019 := Lib.hid (OWs017.out.keep hb)
  have OWs119 := Lib.hid (OWs1.out.keep hb)
  have KBp019 := Lib.hid (KBp017.out.below hb)
  have ZZ19 : Hid (wc16.heap.size ≤ wf18.heap.size) := Lib.hid (by have := (hb).size; simpa using this)
  clear BE17 OWs017 OWs1 KBp017
  obtain ⟨p0c0, p0c1, p0c2, p0c3⟩ := scene.three_cells KBp019.out
  clear hb
  go_wp2_with fail
  refine (talk.to_any _ ss0 _ xss0 _ ps0 _ (H0.out.below BE19.out) hn0 hm0 hk0).mono ?_
  rintro e wc20 ⟨vx0, ux0, nx0, rfl, hu, hb⟩
  obtain ⟨x0a, x0n, x0c, x0d, x0m, x0e, x0f, x0o, x0g, rfl, rfl, rfl⟩ := hu.view.shape
  clear p0c0 p0c1 p0c2 p0c3
  have BE21 := Lib.hid (below_tr BE19.out hb)
  have KBp021 := Lib.hid (KBp019.out.below hb)
  have ZZ21 : Hid (wf18.heap.size ≤ wc20.heap.size) := Lib.hid (by have := (hb).size; simpa using this)
  clear BE19 KBp019
  obtain ⟨p0c0, p0c1, p0c2, p0c3⟩ := scene.three_cells KBp021.out
  have OWx0 := Lib.hid (hu.mono (B' := wf18.heap.size) (by simp) (Nat.le_refl _))
  clear hu hb
  go_wp2_with fail
  have BE22 := Lib.hid (below_al BE21.out (.cells #[.slice x0a x0n x0c, .slice x0d x0m x0e, .slice x0f x0o x0g] 34))
  have OWx022 := Lib.hid (OWx0.out.keep (below_al (Below.refl _ _) (.cells #[.slice x0a x0n x0c, .slice x0d x0m x0e, .slice x0f x0o x0g] 34)))
  have KBp022 := Lib.hid (KBp021.out.alloc (.cells #[.slice x0a x0n x0c, .slice x0d x0m x0e, .slice x0f x0o x0g] 34))
  have KBbx022 := Lib.hid (Blk.new wc20 34 #[.slice x0a x0n x0c, .slice x0d x0m x0e, .slice x0f x0o x0g])
  clear BE21 OWx0 KBp021
  go_wp2_with fail
  refine (rws.to_any _ xss1 _ (H1.out.below BE22.out) hn1).mono ?_
  rintro e wc23 ⟨ux1, rfl, hu, hb⟩
  obtain ⟨x1a, x1n, x1c, rfl⟩ := hu.rows.shape
  clear p0c0 p0c1 p0c2 p0c3
  have BE24 := Lib.hid (below_tr BE22.out hb)
  have OWx024 := Lib.hid (OWx022.out.keep hb)
  have KBp024 := Lib.hid (KBp022.out.below hb)
  have KBbx024 := Lib.hid (KBbx022.out.below hb)
  have ZZ24 : Hid (wc20.heap.size + 1 ≤ wc23.heap.size) := Lib.hid (by have := (hb).size; simpa using this)
  clear BE22 OWx022 KBp022 KBbx022
  obtain ⟨p0c0, p0c1, p0c2, p0c3⟩ := scene.three_cells KBp024.out
  obtain ⟨bx0c0, bx0c1, bx0c2, bx0c3⟩ := scene.three_cells KBbx024.out
  have OWx1 := Lib.hid (hu.mono (B' := wc20.heap.size + 1) (by simp) (Nat.le_refl _))
  clear hu hb
  go_wp2_with fail
  refine (tso.impl_any (.slice x0a x0n x0c) ss0 (.slice x0d x0m x0e) xss0 (.slice x0f x0o x0g) ps0 (.slice x1a x1n x1c) xss1 _ OWx024.out.view OWx1.out.rows).mono ?_
  rintro e wf25 ⟨rfl, hb⟩
  clear p0c0 p0c1 p0c2 p0c3 bx0c0 bx0c1 bx0c2 bx0c3
  have BE26 := Lib.hid (below_tr BE24.out hb)
  have OWx026 := Lib.hid (OWx024.out.keep hb)
  have OWx126 := Lib.hid (OWx1.out.keep hb)
  have KBp026 := Lib.hid (KBp024.out.below hb)
  have KBbx026 := Lib.hid (KBbx024.out.below hb)
  have ZZ26 : Hid (wc23.heap.size ≤ wf25.heap.size) := Lib.hid (by have := (hb).size; simpa using this)
  clear BE24 OWx024 OWx1 KBp024 KBbx024
  obtain ⟨p0c0, p0c1, p0c2, p0c3⟩ := scene.three_cells KBp026.out
  obtain ⟨bx0c0, bx0c1, bx0c2, bx0c3⟩ := scene.three_cells KBbx026.out
  clear hb
  have tk0 : (((tso.res ss0 xss0 ps0 xss1).1) != ((tso.res ss0 xss0 ps0 xss1).1)) = false := bne_self_eq_false _
  have tk1 : (((tso.res ss0 xss0 ps0 xss1).2) != ((tso.res ss0 xss0 ps0 xss1).2)) = false := bne_self_eq_false _
  go_wp2_with fail
  have HA := Lib.hid (H0.out.below BE26.out)
  have HX := Lib.hid (OWx026.out.view)
  go_region_held3 (fun w' => w'.cell? ⟨w.heap.size, 0, none⟩ = some (.slice wa0 wn0 wc0) ∧ w'.cell? ⟨w.heap.size, 1, none⟩ = some (.slice va0 vn0 vc0) ∧ w'.cell? ⟨w.heap.size, 2, none⟩ = some (.slice na0 nn0 nc0) ∧ w'.cell? ⟨wc20.heap.size, 0, none⟩ = some (.slice x0a x0n x0c) ∧ w'.cell? ⟨wc20.heap.size, 1, none⟩ = some (.slice x0d x0m x0e) ∧ w'.cell? ⟨wc20.heap.size, 2, none⟩ = some (.slice x0f x0o x0g) ∧ Below wf25.heap.size wf25 w')
    ((refine scene.held6c p0c0 p0c1 p0c2 bx0c0 bx0c1 bx0c2 ?_; repeat (first | exact Below.refl _ _ | assumption | refine below_dr ?_ | refine below_tr ?_ (by assumption))))
    (first | (go_at_call 21; refine (talk.to_any _ ss0 _ xss0 _ ps0 _ (HA.out.below ?_) hn0 hm0 hk0).mono ?_; (simp [*]); rintro e wq ⟨vq, uq, nq, rfl, huq, hbq⟩) | (go_at_call 23; refine (talk.eq_same _ _ ss0 _ _ xss0 _ _ ps0 _ (HX.out.below (below_tr (below_dr (Below.refl _ _)) hbq)) huq.view hn0 hm0 hk0).mono ?_; rintro e wd27 ⟨rfl, hbr⟩))
  have hbt := below_tr (below_tr (below_dr (Below.refl _ _)) hbq) hbr
  clear HA HX huq hbq hbr
  clear p0c0 p0c1 p0c2 p0c3 bx0c0 bx0c1 bx0c2 bx0c3
  have BE28 := Lib.hid (below_tr BE26.out hbt)
  have OWx028 := Lib.hid (OWx026.out.keep hbt)
  have OWx128 := Lib.hid (OWx126.out.keep hbt)
  have KBp028 := Lib.hid (KBp026.out.below hbt)
  have KBbx028 := Lib.hid (KBbx026.out.below hbt)
  have ZZ28 : Hid (wf25.heap.size ≤ wd27.heap.size) := Lib.hid (by have := (hbt).size; simpa using this)
  clear BE26 OWx026 OWx126 KBp026 KBbx026
  obtain ⟨p0c0, p0c1, p0c2, p0c3⟩ := scene.three_cells KBp028.out
  obtain ⟨bx0c0, bx0c1, bx0c2, bx0c3⟩ := scene.three_cells KBbx028.out
  clear hbt
  go_wp2_with fail
  go_wp2_with fail
  refine (rws.to_any _ xss1 _ (H1.out.below BE28.out) hn1).mono ?_
  rintro e wc29 ⟨uy1, rfl, hu, hb⟩
  obtain ⟨y1a, y1n, y1c, rfl⟩ := hu.rows.shape
  clear p0c0 p0c1 p0c2 p0c3 bx0c0 bx0c1 bx0c2 bx0c3
  have BE30 := Lib.hid (below_tr BE28.out hb)
  have OWx030 := Lib.hid (OWx028.out.keep hb)
  have OWx130 := Lib.hid (OWx128.out.keep hb)
  have KBp030 := Lib.hid (KBp028.out.below hb)
  have KBbx030 := Lib.hid (KBbx028.out.below hb)
  have ZZ30 : Hid (wd27.heap.size ≤ wc29.heap.size) := Lib.hid (by have := (hb).size; simpa using this)
  clear BE28 OWx028 OWx128 KBp028 KBbx028
  obtain ⟨p0c0, p0c1, p0c2, p0c3⟩ := scene.three_cells KBp030.out
  obtain ⟨bx0c0, bx0c1, bx0c2, bx0c3⟩ := scene.three_cells KBbx030.out
  have OWy1 := Lib.hid (hu.mono (B' := wd27.heap.size) (by simp) (Nat.le_refl _))
  clear hu hb
  go_wp2_with fail
  refine (rws.eq_same _ _ xss1 _ OWx130.out.rows OWy1.out.rows hn1).mono ?_
  rintro e we31 ⟨rfl, hb⟩
  clear p0c0 p0c1 p0c2 p0c3 bx0c0 bx0c1 bx0c2 bx0c3
  have BE32 := Lib.hid (below_tr BE30.out hb)
  have OWx032 := Lib.hid (OWx030.out.keep hb)
  have OWx132 := Lib.hid (OWx130.out.keep hb)
  have OWy132 := Lib.hid (OWy1.out.keep hb)
  have KBp032 := Lib.hid (KBp030.out.below hb)
  have KBbx032 := Lib.hid (KBbx030.out.below hb)
  have ZZ32 : Hid (wc29.heap.size ≤ we31.heap.size) := Lib.hid (by have := (hb).size; simpa using this)
  clear BE30 OWx030 OWx130 OWy1 KBp030 KBbx030
  obtain ⟨p0c0, p0c1, p0c2, p0c3⟩ := scene.three_cells KBp032.out
  obtain ⟨bx0c0, bx0c1, bx0c2, bx0c3⟩ := scene.three_cells KBbx032.out
  clear hb
  clear OWy132
  go_wp2_with fail
  go_ret
  exact ⟨rfl, BE32.out⟩

/-! ### the frame of the row -/
theorem own : ownKnob Try.prog.godebug = none := by kernel_rfl
theorem laidOut : laidOutB Try.prog = true := by kernel_rfl
set_option maxRecDepth 100000 in
theorem lifted (os : Os) (started : os.Started) (H : Type) (enc : TypeId × Value → H) :
    ReturnsInHanded {} Try.checked os 6 .any (Rows.fnExactTalkSolvesSpec.pre6 enc Try.prog Try.f6 Rows.fnExactTalkSolvesRow.domain false) (Rows.fnExactTalkSolvesSpec.post enc Try.prog Try.f6 false true false false) := by
  refine returnsInHanded_of_change (C := Try.checked) own started (by kernel_rfl) Try.func6
    (ChangeSpec.witness6 (enc := enc) (C := Try.checked) false ⟨#[], #[.agg #[.slice none 0 0, .slice none 0 0, .slice none 0 0], .slice none 0 0], []⟩ 8 (by kernel_rfl) (by kernel_rfl) (by kernel_rfl) (by kernel_rfl)) ?_
  intro W base args ds gs before hval0 hW _ _
  have hval : ∀ (j : Nat) t v, Try.f6.params[j]? = some t → args[j]? = some v → Value.okWide Try.prog W .any base t v := hval0
  have hW' := hW
  obtain ⟨p, q, hA0, hV, rfl, hfz, hnd⟩ := hW
  have hA : DataW.TrodAll enc Try.prog W 0 (fun _ => true) true Try.f6.params.toList args.toList ds p := hA0
  rw [Try.params6] at hA hval
  obtain ⟨v0, vs0, d0, ds0, p0, q0, hargs, rfl, rfl, h0, r0⟩ := trodAll_cons hA
  obtain ⟨v1, vs1, d1, ds1, p1, q1, rfl, rfl, rfl, h1, r1⟩ := trodAll_cons r0
  obtain ⟨rfl, rfl, rfl⟩ := trodAll_nil r1
  obtain rfl : args = #[v0, v1] := by cases args; simp_all
  obtain ⟨rfl, rfl⟩ := trodVars_none hV
  have lt0 : ∀ x ∈ p0, x.block < W.heap.size := by obtain ⟨m, hm⟩ := h0; exact DataW.trod_lt m _ _ _ hm
  obtain ⟨sv0, ss0, u0, xss0, nv0, ps0, rfl, g10, g20, g30⟩ := prs.talk_of_trod Try.underlying30 (by kernel_rfl) (by kernel_rfl) Try.underlying27 Try.underlying22 Try.underlying28 Try.underlying27 Try.underlying3 Try.underlying86 (by kernel_rfl) (by kernel_rfl) (by kernel_rfl) (hval 0 30 v0 rfl rfl) h0
  have g0 : talk.TV W sv0 ss0 u0 xss0 nv0 ps0 := ⟨g10, g20, g30⟩
  have lt1 : ∀ x ∈ p1, x.block < W.heap.size := by obtain ⟨m, hm⟩ := h1; exact DataW.trod_lt m _ _ _ hm
  obtain ⟨xss1, g1⟩ := opn.rows_of_trod Try.underlying22 Try.underlying27 Try.underlying3 (by kernel_rfl) (by kernel_rfl) (hval 1 22 v1 rfl rfl) h1
  clear hA0 hval0
  refine (walk sv0 ss0 u0 xss0 nv0 ps0 v1 xss1 W g0 g1).mono fun e W' ⟨he, bel⟩ => ?_
  subst he
  exact ⟨_, rfl, _, _, _, [], _, [], hW', trodAll_mk1 (shut_bool Try.underlying4 _), (trodAll_cons_mk (Below.trod laidOut (by kernel_rfl) (of_decide_eq_true (by kernel_rfl)) h0 bel lt0) (trodAll_cons_mk (Below.trod laidOut (by kernel_rfl) (of_decide_eq_true (by kernel_rfl)) h1 bel lt1) trodAll_mk0)), rfl, bel.frame _, fun h => by cases h⟩

theorem over : Rows.fnExactTalkSolvesRow.holds Try.pinned (OpenSpec.ofChange Rows.fnExactTalkSolvesSpec) :=
  OpenClaim.holds_of_wide 6 Try.f6 rfl rfl rfl rfl rfl rfl rfl ⟨rfl, rfl, rfl, rfl, rfl⟩ rfl rfl rfl rfl rfl (by kernel_rfl) Try.func6 (by kernel_rfl)
    (of_decide_eq_true (by kernel_rfl)) (by unfold Func.isWrapper; first | (rw [if_pos (by decide +kernel)]; kernel_rfl) | (rw [if_neg (by decide +kernel)]; exact ⟨rfl, rfl⟩))
    (fun os started H enc _ => lifted os started H enc)

theorem proved : Rows.FnExactTalkSolvesSaid := over
#print axioms proved
end Go.Proofs.Ytggodllfaggjiaa.lawTalkSolves
