/- Proved here: for all arguments, the law FnExactSignWorth returns true: the program's function answers as its model in every field, leaves its arguments as they were, and its answer owns its memory. Conditions: none beyond the row. -/
import Derived.Test.YtfkdhdiacelcjaaRws
import Derived.Test.YtfkdhdiacelcjaaBox
import Derived.Test.YtfkdhdiacelcjaaSgw
import Derived.Test.YtfkdhdiacelcjaaOpen
import Derived.Test.YtfkdhdiacelcjaaRows
import Derived.Deep.RegionHeld3
namespace Go.Proofs.Ytfkdhdiacelcjaa.lawSignWorth
open Go.ChangeShapes Go.WideShapes Go.ChangeAt Go.RowKit Go.Deep Go.Proofs.Ytfkdhdiacelcjaa.base
open Go.ChangeMaps (open_string shut_string)

set_option maxRecDepth 100000 in
set_option maxHeartbeats 4000000 in
theorem walk (v0 : Value) (xss0 : List (List Int)) (x1 y1 wh1 : Int) (u1 : Value) (xss1 : List (List Int)) (w : World) (h0 : IRows w v0 xss0) (h1 : IRows w u1 xss1) :
    Calls Try.prog 10 #[v0, .agg #[.int .i64 x1, .int .i64 y1, .int .i64 wh1, u1]] w fun e w' => e = .returned (.bool true) ∧ Below w.heap.size w w' := by
  obtain ⟨va1, vn1, vc1, rfl⟩ := h1.shape
  obtain ⟨va0, vn0, vc0, rfl⟩ := h0.shape
  have H0 := Lib.hid h0
  have H1 := Lib.hid h1
  clear h0 h1
  by_cases hs0 : rws.sz xss0 (1048576) < 0
  · skip
    go_enter Try.func10, Try.ntmps10
    have BE0 := Lib.hid (Below.refl w.heap.size w)
    have BE1 := Lib.hid (below_al BE0.out (.cells #[.int .i64 x1, .int .i64 y1, .int .i64 wh1, .slice va1 vn1 vc1] 48))
    have KBp11 := Lib.hid (Blk.new w 48 #[.int .i64 x1, .int .i64 y1, .int .i64 wh1, .slice va1 vn1 vc1])
    clear BE0
    go_wp2_with fail
    refine (rws.sz_below _ xss0 (1048576) _ (H0.out.below BE1.out) (by omega) (by omega)).mono ?_
    rintro e wz2 ⟨rfl, hb⟩
    have BE3 := Lib.hid (below_tr BE1.out hb)
    have KBp13 := Lib.hid (KBp11.out.below hb)
    have ZZ3 : Hid (w.heap.size + 1 ≤ wz2.heap.size) := Lib.hid (by have := (hb).size; simpa using this)
    clear BE1 KBp11
    obtain ⟨p1c0, p1c1, p1c2, p1c3, p1c4⟩ := four_cells KBp13.out
    clear hb
    go_wp2_with fail
    go_ret
    exact ⟨rfl, BE3.out⟩
  have hq0 := rws.sz_bound hs0
  have hn0 : rws.total xss0 ≤ 1048576 := by omega
  by_cases hs1 : rws.sz xss1 (rws.sz xss0 (1048576)) < 0
  · skip
    go_enter Try.func10, Try.ntmps10
    have BE0 := Lib.hid (Below.refl w.heap.size w)
    have BE4 := Lib.hid (below_al BE0.out (.cells #[.int .i64 x1, .int .i64 y1, .int .i64 wh1, .slice va1 vn1 vc1] 48))
    have KBp14 := Lib.hid (Blk.new w 48 #[.int .i64 x1, .int .i64 y1, .int .i64 wh1, .slice va1 vn1 vc1])
    clear BE0
    go_wp2_with fail
    refine (rws.sz_below _ xss0 (1048576) _ (H0.out.below BE4.out) (by omega) (by omega)).mono ?_
    rintro e wz5 ⟨rfl, hb⟩
    have BE6 := Lib.hid (below_tr BE4.out hb)
    have KBp16 := Lib.hid (KBp14.out.below hb)
    have ZZ6 : Hid (w.heap.size + 1 ≤ wz5.heap.size) := Lib.hid (by have := (hb).size; simpa using this)
    clear BE4 KBp14
    obtain ⟨p1c0, p1c1, p1c2, p1c3, p1c4⟩ := four_cells KBp16.out
    clear hb
    go_wp2_with fail
    refine (box.sz_any x1 y1 wh1 _ xss1 (rws.sz xss0 (1048576)) _ (H1.out.below BE6.out) (by omega) (by omega)).mono ?_
    rintro e wz7 ⟨rfl, hb⟩
    clear p1c0 p1c1 p1c2 p1c3 p1c4
    have BE8 := Lib.hid (below_tr BE6.out hb)
    have KBp18 := Lib.hid (KBp16.out.below hb)
    have ZZ8 : Hid (wz5.heap.size ≤ wz7.heap.size) := Lib.hid (by have := (hb).size; simpa using this)
    clear BE6 KBp16
    obtain ⟨p1c0, p1c1, p1c2, p1c3, p1c4⟩ := four_cells KBp18.out
    clear hb
    go_wp2_with fail
    go_ret
    exact ⟨rfl, BE8.out⟩
  have hq1 := rws.sz_bound hs1
  have hn1 : rws.total xss1 ≤ 1048576 := by omega
  go_enter Try.func10, Try.ntmps10
  have BE0 := Lib.hid (Below.refl w.heap.size w)
  have BE9 := Lib.hid (below_al BE0.out (.cells #[.int .i64 x1, .int .i64 y1, .int .i64 wh1, .slice va1 vn1 vc1] 48))
  have KBp19 := Lib.hid (Blk.new w 48 #[.int .i64 x1, .int .i64 y1, .int .i64 wh1, .slice va1 vn1 vc1])
  clear BE0
  go_wp2_with fail
  refine (rws.sz_below _ xss0 (1048576) _ (H0.out.below BE9.out) (by omega) (by omega)).mono ?_
  rintro e wz10 ⟨rfl, hb⟩
  have BE11 := Lib.hid (below_tr BE9.out hb)
  have KBp111 := Lib.hid (KBp19.out.below hb)
  have ZZ11 : Hid (w.heap.size + 1 ≤ wz10.heap.size) := Lib.hid (by have := (hb).size; simpa using this)
  clear BE9 KBp19
  obtain ⟨p1c0, p1c1, p1c2, p1c3, p1c4⟩ := four_cells KBp111.out
  clear hb
  go_wp2_with fail
  refine (box.sz_any x1 y1 wh1 _ xss1 (rws.sz xss0 (1048576)) _ (H1.out.below BE11.out) (by omega) (by omega)).mono ?_
  rintro e wz12 ⟨rfl, hb⟩
  clear p1c0 p1c1 p1c2 p1c3 p1c4
  have BE13 := Lib.hid (below_tr BE11.out hb)
  have KBp113 := Lib.hid (KBp111.out.below hb)
  have ZZ13 : Hid (wz10.heap.size ≤ wz12.heap.size) := Lib.hid (by have := (hb).size; simpa using this)
  clear BE11 KBp111
  obtain ⟨p1c0, p1c1, p1c2, p1c3, p1c4⟩ := four_cells KBp113.out
  clear hb
  have HA0 := Lib.hid (H0.out.below BE13.out)
  have HA1 := Lib.hid (H1.out.below BE13.out)
  go_wp2_with fail
  go_region_held3 (fun w' => w'.cell? ⟨w.heap.size, 0, none⟩ = some (.int .i64 x1) ∧ w'.cell? ⟨w.heap.size, 1, none⟩ = some (.int .i64 y1) ∧ w'.cell? ⟨w.heap.size, 2, none⟩ = some (.int .i64 wh1) ∧ w'.cell? ⟨w.heap.size, 3, none⟩ = some (.slice va1 vn1 vc1) ∧ Below wz12.heap.size wz12 w')
    ((refine held4 p1c0 p1c1 p1c2 p1c3 ?_; repeat (first | exact Below.refl _ _ | assumption | refine below_dr ?_ | refine below_tr ?_ (by assumption))))
    (first
      | (go_at_call 39; (with_reducible refine (rws.to_any _ xss0 _ (HA0.out.below ?_) hn0).mono ?_); (exact (below_dr (Below.refl _ _))); rintro e wq0 ⟨uq0, rfl, huq0, hbq0⟩)
      | (go_at_call 35; (with_reducible refine (box.to_any x1 y1 wh1 _ xss1 _ (HA1.out.below ?_) hn1).mono ?_); (exact (below_tr (below_dr (Below.refl _ _)) hbq0)); rintro e wq1 ⟨uq1, rfl, huq1, hbq1⟩)
      | (go_at_call 46; (with_reducible refine (sgw.spec_any _ xss0 x1 y1 wh1 _ xss1 _ (huq0.rows.below hbq1) huq1.rows hn1).mono ?_); rintro e wf14 ⟨rfl, hbF⟩))
  have hbt := below_tr (below_tr (below_tr (below_dr (Below.refl _ _)) hbq0) hbq1) hbF
  clear HA0 huq0 hbq0 HA1 huq1 hbq1 hbF
  clear p1c0 p1c1 p1c2 p1c3 p1c4
  have BE15 := Lib.hid (below_tr BE13.out hbt)
  have KBp115 := Lib.hid (KBp113.out.below hbt)
  have ZZ15 : Hid (wz12.heap.size ≤ wf14.heap.size) := Lib.hid (by have := (hbt).size; simpa using this)
  clear BE13 KBp113
  obtain ⟨p1c0, p1c1, p1c2, p1c3, p1c4⟩ := four_cells KBp115.out
  clear hbt
  go_wp2_with fail
  refine (rws.to_any _ xss0 _ (H0.out.below BE15.out) hn0).mono ?_
  rintro e wc16 ⟨ux0, rfl, hu, hb⟩
  obtain ⟨x0a, x0n, x0c, rfl⟩ := hu.rows.shape
  clear p1c0 p1c1 p1c2 p1c3 p1c4
  have BE17 := Lib.hid (below_tr BE15.out hb)
  have KBp117 := Lib.hid (KBp115.out.below hb)
  have ZZ17 : Hid (wf14.heap.size ≤ wc16.heap.size) := Lib.hid (by have := (hb).size; simpa using this)
  clear BE15 KBp115
  obtain ⟨p1c0, p1c1, p1c2, p1c3, p1c4⟩ := four_cells KBp117.out
  have OWx0 := Lib.hid (hu.mono (B' := wf14.heap.size) (by simp) (Nat.le_refl _))
  clear hu hb
  go_wp2_with fail
  refine (box.to_any x1 y1 wh1 _ xss1 _ (H1.out.below BE17.out) hn1).mono ?_
  rintro e wc18 ⟨ux1, rfl, hu, hb⟩
  obtain ⟨x1a, x1n, x1c, rfl⟩ := hu.rows.shape
  clear p1c0 p1c1 p1c2 p1c3 p1c4
  have BE19 := Lib.hid (below_tr BE17.out hb)
  have OWx019 := Lib.hid (OWx0.out.keep hb)
  have KBp119 := Lib.hid (KBp117.out.below hb)
  have ZZ19 : Hid (wc16.heap.size ≤ wc18.heap.size) := Lib.hid (by have := (hb).size; simpa using this)
  clear BE17 OWx0 KBp117
  obtain ⟨p1c0, p1c1, p1c2, p1c3, p1c4⟩ := four_cells KBp119.out
  have OWx1 := Lib.hid (hu.mono (B' := wc16.heap.size) (by simp) (Nat.le_refl _))
  clear hu hb
  go_wp2_with fail
  have BE20 := Lib.hid (below_al BE19.out (.cells #[.int .i64 x1, .int .i64 y1, .int .i64 wh1, .slice x1a x1n x1c] 42))
  have OWx020 := Lib.hid (OWx019.out.keep (below_al (Below.refl _ _) (.cells #[.int .i64 x1, .int .i64 y1, .int .i64 wh1, .slice x1a x1n x1c] 42)))
  have OWx120 := Lib.hid (OWx1.out.keep (below_al (Below.refl _ _) (.cells #[.int .i64 x1, .int .i64 y1, .int .i64 wh1, .slice x1a x1n x1c] 42)))
  have KBp120 := Lib.hid (KBp119.out.alloc (.cells #[.int .i64 x1, .int .i64 y1, .int .i64 wh1, .slice x1a x1n x1c] 42))
  have KBbx120 := Lib.hid (Blk.new wc18 42 #[.int .i64 x1, .int .i64 y1, .int .i64 wh1, .slice x1a x1n x1c])
  clear BE19 OWx019 OWx1 KBp119
  go_wp2_with fail
  refine (sgw.impl_any (.slice x0a x0n x0c) xss0 x1 y1 wh1 (.slice x1a x1n x1c) xss1 _ OWx020.out.rows OWx120.out.rows hn1).mono ?_
  rintro e wf21 ⟨rfl, hb⟩
  clear p1c0 p1c1 p1c2 p1c3 p1c4
  have BE22 := Lib.hid (below_tr BE20.out hb)
  have OWx022 := Lib.hid (OWx020.out.keep hb)
  have OWx122 := Lib.hid (OWx120.out.keep hb)
  have KBp122 := Lib.hid (KBp120.out.below hb)
  have KBbx122 := Lib.hid (KBbx120.out.below hb)
  have ZZ22 : Hid (wc18.heap.size + 1 ≤ wf21.heap.size) := Lib.hid (by have := (hb).size; simpa using this)
  clear BE20 OWx020 OWx120 KBp120 KBbx120
  obtain ⟨p1c0, p1c1, p1c2, p1c3, p1c4⟩ := four_cells KBp122.out
  obtain ⟨bx1c0, bx1c1, bx1c2, bx1c3, bx1c4⟩ := four_cells KBbx122.out
  clear hb
  have tk0 : (((sgw.res x1 y1 wh1 xss0 xss1).1) != ((sgw.res x1 y1 wh1 xss0 xss1).1)) = false := bne_self_eq_false _
  have tk1 : (((sgw.res x1 y1 wh1 xss0 xss1).2) != ((sgw.res x1 y1 wh1 xss0 xss1).2)) = false := bne_self_eq_false _
  go_wp2_with fail
  go_wp2_with fail
  refine (rws.to_any _ xss0 _ (H0.out.below BE22.out) hn0).mono ?_
  rintro e wc23 ⟨uy0, rfl, hu, hb⟩
  obtain ⟨y0a, y0n, y0c, rfl⟩ := hu.rows.shape
  clear p1c0 p1c1 p1c2 p1c3 p1c4 bx1c0 bx1c1 bx1c2 bx1c3 bx1c4
  have BE24 := Lib.hid (below_tr BE22.out hb)
  have OWx024 := Lib.hid (OWx022.out.keep hb)
  have OWx124 := Lib.hid (OWx122.out.keep hb)
  have KBp124 := Lib.hid (KBp122.out.below hb)
  have KBbx124 := Lib.hid (KBbx122.out.below hb)
  have ZZ24 : Hid (wf21.heap.size ≤ wc23.heap.size) := Lib.hid (by have := (hb).size; simpa using this)
  clear BE22 OWx022 OWx122 KBp122 KBbx122
  obtain ⟨p1c0, p1c1, p1c2, p1c3, p1c4⟩ := four_cells KBp124.out
  obtain ⟨bx1c0, bx1c1, bx1c2, bx1c3, bx1c4⟩ := four_cells KBbx124.out
  have OWy0 := Lib.hid (hu.mono (B' := wf21.heap.size) (by simp) (Nat.le_refl _))
  clear hu hb
  go_wp2_with fail
  refine (rws.eq_same _ _ xss0 _ OWx024.out.rows OWy0.out.rows hn0).mono ?_
  rintro e we25 ⟨rfl, hb⟩
  clear p1c0 p1c1 p1c2 p1c3 p1c4 bx1c0 bx1c1 bx1c2 bx1c3 bx1c4
  have BE26 := Lib.hid (below_tr BE24.out hb)
  have OWx026 := Lib.hid (OWx024.out.keep hb)
  have OWx126 := Lib.hid (OWx124.out.keep hb)
  have OWy026 := Lib.hid (OWy0.out.keep hb)
  have KBp126 := Lib.hid (KBp124.out.below hb)
  have KBbx126 := Lib.hid (KBbx124.out.below hb)
  have ZZ26 : Hid (wc23.heap.size ≤ we25.heap.size) := Lib.hid (by have := (hb).size; simpa using this)
  clear BE24 OWx024 OWx124 OWy0 KBp124 KBbx124
  obtain ⟨p1c0, p1c1, p1c2, p1c3, p1c4⟩ := four_cells KBp126.out
  obtain ⟨bx1c0, bx1c1, bx1c2, bx1c3, bx1c4⟩ := four_cells KBbx126.out
  clear hb
  clear OWy026
  go_wp2_with fail
  have HA := Lib.hid (H1.out.below BE26.out)
  have HX := Lib.hid (OWx126.out.rows)
  go_region_held3 (fun w' => w'.cell? ⟨w.heap.size, 0, none⟩ = some (.int .i64 x1) ∧ w'.cell? ⟨w.heap.size, 1, none⟩ = some (.int .i64 y1) ∧ w'.cell? ⟨w.heap.size, 2, none⟩ = some (.int .i64 wh1) ∧ w'.cell? ⟨w.heap.size, 3, none⟩ = some (.slice va1 vn1 vc1) ∧ w'.cell? ⟨wc18.heap.size, 0, none⟩ = some (.int .i64 x1) ∧ w'.cell? ⟨wc18.heap.size, 1, none⟩ = some (.int .i64 y1) ∧ w'.cell? ⟨wc18.heap.size, 2, none⟩ = some (.int .i64 wh1) ∧ w'.cell? ⟨wc18.heap.size, 3, none⟩ = some (.slice x1a x1n x1c) ∧ Below we25.heap.size we25 w')
    ((refine held8 p1c0 p1c1 p1c2 p1c3 bx1c0 bx1c1 bx1c2 bx1c3 ?_; repeat (first | exact Below.refl _ _ | assumption | refine below_dr ?_ | refine below_tr ?_ (by assumption))))
    (first | (go_at_call 35; refine (box.to_any x1 y1 wh1 _ xss1 _ (HA.out.below ?_) hn1).mono ?_; (simp [*]); rintro e wq ⟨uqq1, rfl, huq, hbq⟩) | (go_at_call 30; refine (box.eq_same x1 y1 wh1 _ _ xss1 _ (HX.out.below (below_tr (below_dr (Below.refl _ _)) hbq)) huq.rows hn1).mono ?_; rintro e wd27 ⟨rfl, hbr⟩))
  have hbt := below_tr (below_tr (below_dr (Below.refl _ _)) hbq) hbr
  clear HA HX huq hbq hbr
  clear p1c0 p1c1 p1c2 p1c3 p1c4 bx1c0 bx1c1 bx1c2 bx1c3 bx1c4
  have BE28 := Lib.hid (below_tr BE26.out hbt)
  have OWx028 := Lib.hid (OWx026.out.keep hbt)
  have OWx128 := Lib.hid (OWx126.out.keep hbt)
  have KBp128 := Lib.hid (KBp126.out.below hbt)
  have KBbx128 := Lib.hid (KBbx126.out.below hbt)
  have ZZ28 : Hid (we25.heap.size ≤ wd27.heap.size) := Lib.hid (by have := (hbt).size; simpa using this)
  clear BE26 OWx026 OWx126 KBp126 KBbx126
  obtain ⟨p1c0, p1c1, p1c2, p1c3, p1c4⟩ := four_cells KBp128.out
  obtain ⟨bx1c0, bx1c1, bx1c2, bx1c3, bx1c4⟩ := four_cells KBbx128.out
  clear hbt
  go_wp2_with fail
  go_ret
  exact ⟨rfl, BE28.out⟩

/-! ### the frame of the row -/
theorem own : ownKnob Try.prog.godebug = none := by kernel_rfl
theorem laidOut : laidOutB Try.prog = true := by kernel_rfl
set_option maxRecDepth 100000 in
theorem lifted (os : Os) (started : os.Started) (H : Type) (enc : TypeId × Value → H) :
    ReturnsInHanded {} Try.checked os 10 .any (Rows.fnExactSignWorthSpec.pre6 enc Try.prog Try.f10 Rows.fnExactSignWorthRow.domain false) (Rows.fnExactSignWorthSpec.post enc Try.prog Try.f10 false true false false) := by
  refine returnsInHanded_of_change (C := Try.checked) own started (by kernel_rfl) Try.func10
    (ChangeSpec.witness6 (enc := enc) (C := Try.checked) false ⟨#[], #[.slice none 0 0, .agg #[.int .i64 0, .int .i64 0, .int .i64 0, .slice none 0 0]], []⟩ 8 (by kernel_rfl) (by kernel_rfl) (by kernel_rfl) (by kernel_rfl)) ?_
  intro W base args ds gs before hval0 hW _ _
  have hval : ∀ (j : Nat) t v, Try.f10.params[j]? = some t → args[j]? = some v → Value.okWide Try.prog W .any base t v := hval0
  have hW' := hW
  obtain ⟨p, q, hA0, hV, rfl, hfz, hnd⟩ := hW
  have hA : DataW.TrodAll enc Try.prog W 0 (fun _ => true) true Try.f10.params.toList args.toList ds p := hA0
  rw [Try.params10] at hA hval
  obtain ⟨v0, vs0, d0, ds0, p0, q0, hargs, rfl, rfl, h0, r0⟩ := trodAll_cons hA
  obtain ⟨v1, vs1, d1, ds1, p1, q1, rfl, rfl, rfl, h1, r1⟩ := trodAll_cons r0
  obtain ⟨rfl, rfl, rfl⟩ := trodAll_nil r1
  obtain rfl : args = #[v0, v1] := by cases args; simp_all
  obtain ⟨rfl, rfl⟩ := trodVars_none hV
  have lt0 : ∀ x ∈ p0, x.block < W.heap.size := by obtain ⟨m, hm⟩ := h0; exact DataW.trod_lt m _ _ _ hm
  obtain ⟨xss0, g0⟩ := opn.rows_of_trod Try.underlying23 Try.underlying22 Try.underlying3 (by kernel_rfl) (by kernel_rfl) (hval 0 23 v0 rfl rfl) h0
  have lt1 : ∀ x ∈ p1, x.block < W.heap.size := by obtain ⟨m, hm⟩ := h1; exact DataW.trod_lt m _ _ _ hm
  obtain ⟨x1, y1, wh1, u1, xss1, rfl, g1⟩ := opn.box_of_trod Try.underlying48 (by kernel_rfl) (by kernel_rfl) Try.underlying3 Try.underlying3 Try.underlying3 Try.underlying23 Try.underlying22 Try.underlying3 (by kernel_rfl) (by kernel_rfl) (hval 1 48 v1 rfl rfl) h1
  clear hA0 hval0
  refine (walk v0 xss0 x1 y1 wh1 u1 xss1 W g0 g1).mono fun e W' ⟨he, bel⟩ => ?_
  subst he
  exact ⟨_, rfl, _, _, _, [], _, [], hW', trodAll_mk1 (shut_bool Try.underlying4 _), (trodAll_cons_mk (Below.trod laidOut (by kernel_rfl) (of_decide_eq_true (by kernel_rfl)) h0 bel lt0) (trodAll_cons_mk (Below.trod laidOut (by kernel_rfl) (of_decide_eq_true (by kernel_rfl)) h1 bel lt1) trodAll_mk0)), rfl, bel.frame _, fun h => by cases h⟩

theorem over : Rows.fnExactSignWorthRow.holds Try.pinned (OpenSpec.ofChange Rows.fnExactSignWorthSpec) :=
  OpenClaim.holds_of_wide 10 Try.f10 rfl rfl rfl rfl rfl rfl rfl ⟨rfl, rfl, rfl, rfl, rfl⟩ rfl rfl rfl rfl rfl (by kernel_rfl) Try.func10 (by kernel_rfl)
    (of_decide_eq_true (by kernel_rfl)) (by unfold Func.isWrapper; first | (rw [if_pos (by decide +kernel)]; kernel_rfl) | (rw [if_neg (by decide +kernel)]; exact ⟨rfl, rfl⟩))
    (fun os started H enc _ => lifted os started H enc)

theorem proved : Rows.FnExactSignWorthSaid := over
#print axioms proved
end Go.Proofs.Ytfkdhdiacelcjaa.lawSignWorth
