/- Proved here: for all arguments, the law FnExactIsWitness returns true: the program's function answers as its model in every field, leaves its arguments as they were, and its answer owns its memory. Conditions: none beyond the row. -/
import Derived.Test.YtkajebhagkbcaabBox
import Derived.Test.YtkajebhagkbcaabWit
import Derived.Test.YtkajebhagkbcaabOpen
import Derived.Test.YtkajebhagkbcaabRows
import Derived.Deep.RegionHeld3
namespace Go.Proofs.Ytkajebhagkbcaab.lawIsWitness
open Go.ChangeShapes Go.WideShapes Go.ChangeAt Go.RowKit Go.Deep Go.Proofs.Ytkajebhagkbcaab.base
open Go.ChangeMaps (open_string shut_string)

set_option maxRecDepth 100000 in
set_option maxHeartbeats 4000000 in
theorem walk (x0 y0 wh0 : Int) (u0 : Value) (xss0 : List (List Int)) (v1 : Value) (xss1 : List (List Int)) (w : World) (h0 : IRows w u0 xss0) (h1 : IRows w v1 xss1) :
    Calls Try.prog 5 #[.agg #[.int .i64 x0, .int .i64 y0, .int .i64 wh0, u0], v1] w fun e w' => e = .returned (.bool true) ∧ Below w.heap.size w w' := by
  obtain ⟨va0, vn0, vc0, rfl⟩ := h0.shape
  obtain ⟨va1, vn1, vc1, rfl⟩ := h1.shape
  have H0 := Lib.hid h0
  have H1 := Lib.hid h1
  clear h0 h1
  by_cases hs0 : rws.sz xss0 (1048576) < 0
  · skip
    go_enter Try.func5, Try.ntmps5
    have BE0 := Lib.hid (Below.refl w.heap.size w)
    have BE1 := Lib.hid (below_al BE0.out (.cells #[.int .i64 x0, .int .i64 y0, .int .i64 wh0, .slice va0 vn0 vc0] 32))
    have KBp01 := Lib.hid (Blk.new w 32 #[.int .i64 x0, .int .i64 y0, .int .i64 wh0, .slice va0 vn0 vc0])
    clear BE0
    go_wp2_with fail
    refine (box.sz_any x0 y0 wh0 _ xss0 (1048576) _ (H0.out.below BE1.out) (by omega) (by omega)).mono ?_
    rintro e wz2 ⟨rfl, hb⟩
    have BE3 := Lib.hid (below_tr BE1.out hb)
    have KBp03 := Lib.hid (KBp01.out.below hb)
    have ZZ3 : Hid (w.heap.size + 1 ≤ wz2.heap.size) := Lib.hid (by have := (hb).size; simpa using this)
    clear BE1 KBp01
    obtain ⟨p0c0, p0c1, p0c2, p0c3, p0c4⟩ := four_cells KBp03.out
    clear hb
    go_wp2_with fail
    go_ret
    exact ⟨rfl, BE3.out⟩
  have hq0 := rws.sz_bound hs0
  have hn0 : rws.total xss0 ≤ 1048576 := by omega
  by_cases hs1 : rws.sz xss1 (rws.sz xss0 (1048576)) < 0
  · skip
    go_enter Try.func5, Try.ntmps5
    have BE0 := Lib.hid (Below.refl w.heap.size w)
    have BE4 := Lib.hid (below_al BE0.out (.cells #[.int .i64 x0, .int .i64 y0, .int .i64 wh0, .slice va0 vn0 vc0] 32))
    have KBp04 := Lib.hid (Blk.new w 32 #[.int .i64 x0, .int .i64 y0, .int .i64 wh0, .slice va0 vn0 vc0])
    clear BE0
    go_wp2_with fail
    refine (box.sz_any x0 y0 wh0 _ xss0 (1048576) _ (H0.out.below BE4.out) (by omega) (by omega)).mono ?_
    rintro e wz5 ⟨rfl, hb⟩
    have BE6 := Lib.hid (below_tr BE4.out hb)
    have KBp06 := Lib.hid (KBp04.out.below hb)
    have ZZ6 : Hid (w.heap.size + 1 ≤ wz5.heap.size) := Lib.hid (by have := (hb).size; simpa using this)
    clear BE4 KBp04
    obtain ⟨p0c0, p0c1, p0c2, p0c3, p0c4⟩ := four_cells KBp06.out
    clear hb
    go_wp2_with fail
    refine (rws.sz_below _ xss1 (rws.sz xss0 (1048576)) _ (H1.out.below BE6.out) (by omega) (by omega)).mono ?_
    rintro e wz7 ⟨rfl, hb⟩
    clear p0c0 p0c1 p0c2 p0c3 p0c4
    have BE8 := Lib.hid (below_tr BE6.out hb)
    have KBp08 := Lib.hid (KBp06.out.below hb)
    have ZZ8 : Hid (wz5.heap.size ≤ wz7.heap.size) := Lib.hid (by have := (hb).size; simpa using this)
    clear BE6 KBp06
    obtain ⟨p0c0, p0c1, p0c2, p0c3, p0c4⟩ := four_cells KBp08.out
    clear hb
    go_wp2_with fail
    go_ret
    exact ⟨rfl, BE8.out⟩
  have hq1 := rws.sz_bound hs1
  have hn1 : rws.total xss1 ≤ 1048576 := by omega
  go_enter Try.func5, Try.ntmps5
  have BE0 := Lib.hid (Below.refl w.heap.size w)
  have BE9 := Lib.hid (below_al BE0.out (.cells #[.int .i64 x0, .int .i64 y0, .int .i64 wh0, .slice va0 vn0 vc0] 32))
  have KBp09 := Lib.hid (Blk.new w 32 #[.int .i64 x0, .int .i64 y0, .int .i64 wh0, .slice va0 vn0 vc0])
  clear BE0
  go_wp2_with fail
  refine (box.sz_any x0 y0 wh0 _ xss0 (1048576) _ (H0.out.below BE9.out) (by omega) (by omega)).mono ?_
  rintro e wz10 ⟨rfl, hb⟩
  have BE11 := Lib.hid (below_tr BE9.out hb)
  have KBp011 := Lib.hid (KBp09.out.below hb)
  have ZZ11 : Hid (w.heap.size + 1 ≤ wz10.heap.size) := Lib.hid (by have := (hb).size; simpa using this)
  clear BE9 KBp09
  obtain ⟨p0c0, p0c1, p0c2, p0c3, p0c4⟩ := four_cells KBp011.out
  clear hb
  go_wp2_with fail
  refine (rws.sz_below _ xss1 (rws.sz xss0 (1048576)) _ (H1.out.below BE11.out) (by omega) (by omega)).mono ?_
  rintro e wz12 ⟨rfl, hb⟩
  clear p0c0 p0c1 p0c2 p0c3 p0c4
  have BE13 := Lib.hid (below_tr BE11.out hb)
  have KBp013 := Lib.hid (KBp011.out.below hb)
  have ZZ13 : Hid (wz10.heap.size ≤ wz12.heap.size) := Lib.hid (by have := (hb).size; simpa using this)
  clear BE11 KBp011
  obtain ⟨p0c0, p0c1, p0c2, p0c3, p0c4⟩ := four_cells KBp013.out
  clear hb
  go_wp2_with fail
  refine (box.to_any x0 y0 wh0 _ xss0 _ (H0.out.below BE13.out) hn0).mono ?_
  rintro e wc14 ⟨us0, rfl, hu, hb⟩
  obtain ⟨s0a, s0n, s0c, rfl⟩ := hu.rows.shape
  clear p0c0 p0c1 p0c2 p0c3 p0c4
  have BE15 := Lib.hid (below_tr BE13.out hb)
  have KBp015 := Lib.hid (KBp013.out.below hb)
  have ZZ15 : Hid (wz12.heap.size ≤ wc14.heap.size) := Lib.hid (by have := (hb).size; simpa using this)
  clear BE13 KBp013
  obtain ⟨p0c0, p0c1, p0c2, p0c3, p0c4⟩ := four_cells KBp015.out
  have OWs0 := Lib.hid (hu.mono (B' := wz12.heap.size) (by simp) (Nat.le_refl _))
  clear hu hb
  go_wp2_with fail
  refine (rws.to_any _ xss1 _ (H1.out.below BE15.out) hn1).mono ?_
  rintro e wc16 ⟨us1, rfl, hu, hb⟩
  obtain ⟨s1a, s1n, s1c, rfl⟩ := hu.rows.shape
  clear p0c0 p0c1 p0c2 p0c3 p0c4
  have BE17 := Lib.hid (below_tr BE15.out hb)
  have OWs017 := Lib.hid (OWs0.out.keep hb)
  have KBp017 := Lib.hid (KBp015.out.below hb)
  have ZZ17 : Hid (wc14.heap.size ≤ wc16.heap.size) := Lib.hid (by have := (hb).size; simpa using this)
  clear BE15 OWs0 KBp015
  obtain ⟨p0c0, p0c1, p0c2, p0c3, p0c4⟩ := four_cells KBp017.out
  have OWs1 := Lib.hid (hu.mono (B' := wc14.heap.size) (by simp) (Nat.le_refl _))
  clear hu hb
  go_wp2_with fail
  refine (wit.spec_any x0 y0 wh0 (.slice s0a s0n s0c) (.slice s1a s1n s1c) xss0 xss1 _ OWs017.out.rows OWs1.out.rows hn0 hn1).mono ?_
  rintro e wf18 ⟨rfl, hb⟩
  clear p0c0 p0c1 p0c2 p0c3 p0c4
  have BE19 := Lib.hid (below_tr BE17.out hb)
  have OWs019 := Lib.hid (OWs017.out.keep hb)
  have OWs119 := Lib.hid (OWs1.out.keep hb)
  have KBp019 := Lib.hid (KBp017.out.below hb)
  have ZZ19 : Hid (wc16.heap.size ≤ wf18.heap.size) := Lib.hid (by have := (hb).size; simpa using this)
  clear BE17 OWs017 OWs1 KBp017
  obtain ⟨p0c0, p0c1, p0c2, p0c3, p0c4⟩ := four_cells KBp019.out
  clear hb
  go_wp2_with fail
  refine (box.to_any x0 y0 wh0 _ xss0 _ (H0.out.below BE19.out) hn0).mono ?_
  rintro e wc20 ⟨ux0, rfl, hu, hb⟩
  obtain ⟨x0a, x0n, x0c, rfl⟩ := hu.rows.shape
  clear p0c0 p0c1 p0c2 p0c3 p0c4
  have BE21 := Lib.hid (below_tr BE19.out hb)
  have KBp021 := Lib.hid (KBp019.out.below hb)
  have ZZ21 : Hid (wf18.heap.size ≤ wc20.heap.size) := Lib.hid (by have := (hb).size; simpa using this)
  clear BE19 KBp019
  obtain ⟨p0c0, p0c1, p0c2, p0c3, p0c4⟩ := four_cells KBp021.out
  have OWx0 := Lib.hid (hu.mono (B' := wf18.heap.size) (by simp) (Nat.le_refl _))
  clear hu hb
  go_wp2_with fail
  have BE22 := Lib.hid (below_al BE21.out (.cells #[.int .i64 x0, .int .i64 y0, .int .i64 wh0, .slice x0a x0n x0c] 36))
  have OWx022 := Lib.hid (OWx0.out.keep (below_al (Below.refl _ _) (.cells #[.int .i64 x0, .int .i64 y0, .int .i64 wh0, .slice x0a x0n x0c] 36)))
  have KBp022 := Lib.hid (KBp021.out.alloc (.cells #[.int .i64 x0, .int .i64 y0, .int .i64 wh0, .slice x0a x0n x0c] 36))
  have KBbx022 := Lib.hid (Blk.new wc20 36 #[.int .i64 x0, .int .i64 y0, .int .i64 wh0, .slice x0a x0n x0c])
  clear BE21 OWx0 KBp021
  go_wp2_with fail
  refine (rws.to_any _ xss1 _ (H1.out.below BE22.out) hn1).mono ?_
  rintro e wc23 ⟨ux1, rfl, hu, hb⟩
  obtain ⟨x1a, x1n, x1c, rfl⟩ := hu.rows.shape
  clear p0c0 p0c1 p0c2 p0c3 p0c4
  have BE24 := Lib.hid (below_tr BE22.out hb)
  have OWx024 := Lib.hid (OWx022.out.keep hb)
  have KBp024 := Lib.hid (KBp022.out.below hb)
  have KBbx024 := Lib.hid (KBbx022.out.below hb)
  have ZZ24 : Hid (wc20.heap.size + 1 ≤ wc23.heap.size) := Lib.hid (by have := (hb).size; simpa using this)
  clear BE22 OWx022 KBp022 KBbx022
  obtain ⟨p0c0, p0c1, p0c2, p0c3, p0c4⟩ := four_cells KBp024.out
  obtain ⟨bx0c0, bx0c1, bx0c2, bx0c3, bx0c4⟩ := four_cells KBbx024.out
  have OWx1 := Lib.hid (hu.mono (B' := wc20.heap.size + 1) (by simp) (Nat.le_refl _))
  clear hu hb
  go_wp2_with fail
  refine (wit.impl_any x0 y0 wh0 (.slice x0a x0n x0c) (.slice x1a x1n x1c) xss0 xss1 _ OWx024.out.rows OWx1.out.rows hn0 hn1).mono ?_
  rintro e wf25 ⟨rfl, hb⟩
  clear p0c0 p0c1 p0c2 p0c3 p0c4 bx0c0 bx0c1 bx0c2 bx0c3 bx0c4
  have BE26 := Lib.hid (below_tr BE24.out hb)
  have OWx026 := Lib.hid (OWx024.out.keep hb)
  have OWx126 := Lib.hid (OWx1.out.keep hb)
  have KBp026 := Lib.hid (KBp024.out.below hb)
  have KBbx026 := Lib.hid (KBbx024.out.below hb)
  have ZZ26 : Hid (wc23.heap.size ≤ wf25.heap.size) := Lib.hid (by have := (hb).size; simpa using this)
  clear BE24 OWx024 OWx1 KBp024 KBbx024
  obtain ⟨p0c0, p0c1, p0c2, p0c3, p0c4⟩ := four_cells KBp026.out
  obtain ⟨bx0c0, bx0c1, bx0c2, bx0c3, bx0c4⟩ := four_cells KBbx026.out
  clear hb
  have tk0 : (((wit.res x0 y0 wh0 xss0 xss1).1) != ((wit.res x0 y0 wh0 xss0 xss1).1)) = false := bne_self_eq_false _
  have tk1 : (((wit.res x0 y0 wh0 xss0 xss1).2) != ((wit.res x0 y0 wh0 xss0 xss1).2)) = false := bne_self_eq_false _
  go_wp2_with fail
  have HA := Lib.hid (H0.out.below BE26.out)
  have HX := Lib.hid (OWx026.out.rows)
  go_region_held3 (fun w' => w'.cell? ⟨w.heap.size, 0, none⟩ = some (.int .i64 x0) ∧ w'.cell? ⟨w.heap.size, 1, none⟩ = some (.int .i64 y0) ∧ w'.cell? ⟨w.heap.size, 2, none⟩ = some (.int .i64 wh0) ∧ w'.cell? ⟨w.heap.size, 3, none⟩ = some (.slice va0 vn0 vc0) ∧ w'.cell? ⟨wc20.heap.size, 0, none⟩ = some (.int .i64 x0) ∧ w'.cell? ⟨wc20.heap.size, 1, none⟩ = some (.int .i64 y0) ∧ w'.cell? ⟨wc20.heap.size, 2, none⟩ = some (.int .i64 wh0) ∧ w'.cell? ⟨wc20.heap.size, 3, none⟩ = some (.slice x0a x0n x0c) ∧ Below wf25.heap.size wf25 w')
    ((refine held8 p0c0 p0c1 p0c2 p0c3 bx0c0 bx0c1 bx0c2 bx0c3 ?_; repeat (first | exact Below.refl _ _ | assumption | refine below_dr ?_ | refine below_tr ?_ (by assumption))))
    (first | (go_at_call 26; refine (box.to_any x0 y0 wh0 _ xss0 _ (HA.out.below ?_) hn0).mono ?_; (simp [*]); rintro e wq ⟨uq, rfl, huq, hbq⟩) | (go_at_call 28; refine (box.eq_same x0 y0 wh0 _ _ xss0 _ (HX.out.below (below_tr (below_dr (Below.refl _ _)) hbq)) huq.rows hn0).mono ?_; rintro e wd27 ⟨rfl, hbr⟩))
  have hbt := below_tr (below_tr (below_dr (Below.refl _ _)) hbq) hbr
  clear HA HX huq hbq hbr
  clear p0c0 p0c1 p0c2 p0c3 p0c4 bx0c0 bx0c1 bx0c2 bx0c3 bx0c4
  have BE28 := Lib.hid (below_tr BE26.out hbt)
  have OWx028 := Lib.hid (OWx026.out.keep hbt)
  have OWx128 := Lib.hid (OWx126.out.keep hbt)
  have KBp028 := Lib.hid (KBp026.out.below hbt)
  have KBbx028 := Lib.hid (KBbx026.out.below hbt)
  have ZZ28 : Hid (wf25.heap.size ≤ wd27.heap.size) := Lib.hid (by have := (hbt).size; simpa using this)
  clear BE26 OWx026 OWx126 KBp026 KBbx026
  obtain ⟨p0c0, p0c1, p0c2, p0c3, p0c4⟩ := four_cells KBp028.out
  obtain ⟨bx0c0, bx0c1, bx0c2, bx0c3, bx0c4⟩ := four_cells KBbx028.out
  clear hbt
  go_wp2_with fail
  go_wp2_with fail
  refine (rws.to_any _ xss1 _ (H1.out.below BE28.out) hn1).mono ?_
  rintro e wc29 ⟨uy1, rfl, hu, hb⟩
  obtain ⟨y1a, y1n, y1c, rfl⟩ := hu.rows.shape
  clear p0c0 p0c1 p0c2 p0c3 p0c4 bx0c0 bx0c1 bx0c2 bx0c3 bx0c4
  have BE30 := Lib.hid (below_tr BE28.out hb)
  have OWx030 := Lib.hid (OWx028.out.keep hb)
  have OWx130 := Lib.hid (OWx128.out.keep hb)
  have KBp030 := Lib.hid (KBp028.out.below hb)
  have KBbx030 := Lib.hid (KBbx028.out.below hb)
  have ZZ30 : Hid (wd27.heap.size ≤ wc29.heap.size) := Lib.hid (by have := (hb).size; simpa using this)
  clear BE28 OWx028 OWx128 KBp028 KBbx028
  obtain ⟨p0c0, p0c1, p0c2, p0c3, p0c4⟩ := four_cells KBp030.out
  obtain ⟨bx0c0, bx0c1, bx0c2, bx0c3, bx0c4⟩ := four_cells KBbx030.out
  have OWy1 := Lib.hid (hu.mono (B' := wd27.heap.size) (by simp) (Nat.le_refl _))
  clear hu hb
  go_wp2_with fail
  refine (rws.eq_same _ _ xss1 _ OWx130.out.rows OWy1.out.rows hn1).mono ?_
  rintro e we31 ⟨rfl, hb⟩
  clear p0c0 p0c1 p0c2 p0c3 p0c4 bx0c0 bx0c1 bx0c2 bx0c3 bx0c4
  have BE32 := Lib.hid (below_tr BE30.out hb)
  have OWx032 := Lib.hid (OWx030.out.keep hb)
  have OWx132 := Lib.hid (OWx130.out.keep hb)
  have OWy132 := Lib.hid (OWy1.out.keep hb)
  have KBp032 := Lib.hid (KBp030.out.below hb)
  have KBbx032 := Lib.hid (KBbx030.out.below hb)
  have ZZ32 : Hid (wc29.heap.size ≤ we31.heap.size) := Lib.hid (by have := (hb).size; simpa using this)
  clear BE30 OWx030 OWx130 OWy1 KBp030 KBbx030
  obtain ⟨p0c0, p0c1, p0c2, p0c3, p0c4⟩ := four_cells KBp032.out
  obtain ⟨bx0c0, bx0c1, bx0c2, bx0c3, bx0c4⟩ := four_cells KBbx032.out
  clear hb
  clear OWy132
  go_wp2_with fail
  go_ret
  exact ⟨rfl, BE32.out⟩

/-! ### the frame of the row -/
theorem own : ownKnob Try.prog.godebug = none := by kernel_rfl
theorem laidOut : laidOutB Try.prog = true := by kernel_rfl
set_option maxRecDepth 100000 in
theorem lifted (os : Os) (started : os.Started) (H : Type) (enc : TypeId × Value → H) :
    ReturnsInHanded {} Try.checked os 5 .any (Rows.fnExactIsWitnessSpec.pre6 enc Try.prog Try.f5 Rows.fnExactIsWitnessRow.domain false) (Rows.fnExactIsWitnessSpec.post enc Try.prog Try.f5 false true false false) := by
  refine returnsInHanded_of_change (C := Try.checked) own started (by kernel_rfl) Try.func5
    (ChangeSpec.witness6 (enc := enc) (C := Try.checked) false ⟨#[], #[.agg #[.int .i64 0, .int .i64 0, .int .i64 0, .slice none 0 0], .slice none 0 0], []⟩ 8 (by kernel_rfl) (by kernel_rfl) (by kernel_rfl) (by kernel_rfl)) ?_
  intro W base args ds gs before hval0 hW _ _
  have hval : ∀ (j : Nat) t v, Try.f5.params[j]? = some t → args[j]? = some v → Value.okWide Try.prog W .any base t v := hval0
  have hW' := hW
  obtain ⟨p, q, hA0, hV, rfl, hfz, hnd⟩ := hW
  have hA : DataW.TrodAll enc Try.prog W 0 (fun _ => true) true Try.f5.params.toList args.toList ds p := hA0
  rw [Try.params5] at hA hval
  obtain ⟨v0, vs0, d0, ds0, p0, q0, hargs, rfl, rfl, h0, r0⟩ := trodAll_cons hA
  obtain ⟨v1, vs1, d1, ds1, p1, q1, rfl, rfl, rfl, h1, r1⟩ := trodAll_cons r0
  obtain ⟨rfl, rfl, rfl⟩ := trodAll_nil r1
  obtain rfl : args = #[v0, v1] := by cases args; simp_all
  obtain ⟨rfl, rfl⟩ := trodVars_none hV
  have lt0 : ∀ x ∈ p0, x.block < W.heap.size := by obtain ⟨m, hm⟩ := h0; exact DataW.trod_lt m _ _ _ hm
  obtain ⟨x0, y0, wh0, u0, xss0, rfl, g0⟩ := opn.box_of_trod Try.underlying32 (by kernel_rfl) (by kernel_rfl) Try.underlying3 Try.underlying3 Try.underlying3 Try.underlying22 Try.underlying40 Try.underlying3 (by kernel_rfl) (by kernel_rfl) (hval 0 32 v0 rfl rfl) h0
  have lt1 : ∀ x ∈ p1, x.block < W.heap.size := by obtain ⟨m, hm⟩ := h1; exact DataW.trod_lt m _ _ _ hm
  obtain ⟨xss1, g1⟩ := opn.rows_of_trod Try.underlying22 Try.underlying40 Try.underlying3 (by kernel_rfl) (by kernel_rfl) (hval 1 22 v1 rfl rfl) h1
  clear hA0 hval0
  refine (walk x0 y0 wh0 u0 xss0 v1 xss1 W g0 g1).mono fun e W' ⟨he, bel⟩ => ?_
  subst he
  exact ⟨_, rfl, _, _, _, [], _, [], hW', trodAll_mk1 (shut_bool Try.underlying4 _), (trodAll_cons_mk (Below.trod laidOut (by kernel_rfl) (of_decide_eq_true (by kernel_rfl)) h0 bel lt0) (trodAll_cons_mk (Below.trod laidOut (by kernel_rfl) (of_decide_eq_true (by kernel_rfl)) h1 bel lt1) trodAll_mk0)), rfl, bel.frame _, fun h => by cases h⟩

theorem over : Rows.fnExactIsWitnessRow.holds Try.pinned (OpenSpec.ofChange Rows.fnExactIsWitnessSpec) :=
  OpenClaim.holds_of_wide 5 Try.f5 rfl rfl rfl rfl rfl rfl rfl ⟨rfl, rfl, rfl, rfl, rfl⟩ rfl rfl rfl rfl rfl (by kernel_rfl) Try.func5 (by kernel_rfl)
    (of_decide_eq_true (by kernel_rfl)) (by unfold Func.isWrapper; first | (rw [if_pos (by decide +kernel)]; kernel_rfl) | (rw [if_neg (by decide +kernel)]; exact ⟨rfl, rfl⟩))
    (fun os started H enc _ => lifted os started H enc)

theorem proved : Rows.FnExactIsWitnessSaid := over
#print axioms proved
end Go.Proofs.Ytkajebhagkbcaab.lawIsWitness
