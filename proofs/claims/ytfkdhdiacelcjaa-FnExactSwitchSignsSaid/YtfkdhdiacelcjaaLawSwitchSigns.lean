/- Proved here: for all arguments, the law FnExactSwitchSigns returns true: the program's function answers as its model in every field, leaves its arguments as they were, and its answer owns its memory. Conditions: none beyond the row. -/
import Derived.Test.YtfkdhdiacelcjaaRws
import Derived.Test.YtfkdhdiacelcjaaSwi
import Derived.Test.YtfkdhdiacelcjaaOpen
import Derived.Test.YtfkdhdiacelcjaaRows
import Derived.Deep.RegionHeld3
namespace Go.Proofs.Ytfkdhdiacelcjaa.lawSwitchSigns
open Go.ChangeShapes Go.WideShapes Go.ChangeAt Go.RowKit Go.Deep Go.Proofs.Ytfkdhdiacelcjaa.base
open Go.ChangeMaps (open_string shut_string)

set_option maxRecDepth 100000 in
set_option maxHeartbeats 4000000 in
theorem walk (v0 : Value) (xss0 : List (List Int)) (v1 : Value) (xs1 : List Int) (v2 : Value) (xs2 : List Int) (w : World) (h0 : IRows w v0 xss0) (h1 : Ints w v1 xs1) (h2 : Ints w v2 xs2) :
    Calls Try.prog 13 #[v0, v1, v2] w fun e w' => e = .returned (.bool true) ∧ Below w.heap.size w w' := by
  obtain ⟨va0, vn0, vc0, rfl⟩ := h0.shape
  obtain ⟨va1, vc1, hv1⟩ : ∃ A c, v1 = .slice A xs1.length c := by obtain ⟨A, c, hv, _⟩ := h1; exact ⟨A, c, by rw [hv, len_i64s]⟩
  subst hv1
  obtain ⟨va2, vc2, hv2⟩ : ∃ A c, v2 = .slice A xs2.length c := by obtain ⟨A, c, hv, _⟩ := h2; exact ⟨A, c, by rw [hv, len_i64s]⟩
  subst hv2
  have H0 := Lib.hid h0
  have H1 := Lib.hid h1
  have H2 := Lib.hid h2
  clear h0 h1 h2
  by_cases hs1 : 1048576 < (xs1.length : Int)
  · skip
    go_enter Try.func13, Try.ntmps13
    have BE0 := Lib.hid (Below.refl w.heap.size w)
    go_wp2_with fail
    go_ret
    exact ⟨rfl, BE0.out⟩
  have hn1 : xs1.length ≤ 1048576 := by omega
  by_cases hs2 : 1048576 < (xs2.length : Int)
  · skip
    go_enter Try.func13, Try.ntmps13
    have BE0 := Lib.hid (Below.refl w.heap.size w)
    go_wp2_with fail
    go_ret
    exact ⟨rfl, BE0.out⟩
  have hn2 : xs2.length ≤ 1048576 := by omega
  by_cases hs0 : rws.sz xss0 (1048576) < 0
  · skip
    go_enter Try.func13, Try.ntmps13
    have BE0 := Lib.hid (Below.refl w.heap.size w)
    go_wp2_with fail
    refine (rws.sz_below _ xss0 (1048576) _ (H0.out.below BE0.out) (by omega) (by omega)).mono ?_
    rintro e wz1 ⟨rfl, hb⟩
    have BE2 := Lib.hid (below_tr BE0.out hb)
    have ZZ2 : Hid (w.heap.size ≤ wz1.heap.size) := Lib.hid (by have := (hb).size; simpa using this)
    clear BE0
    clear hb
    go_wp2_with fail
    go_ret
    exact ⟨rfl, BE2.out⟩
  have hq0 := rws.sz_bound hs0
  have hn0 : rws.total xss0 ≤ 1048576 := by omega
  go_enter Try.func13, Try.ntmps13
  have BE0 := Lib.hid (Below.refl w.heap.size w)
  go_wp2_with fail
  refine (rws.sz_below _ xss0 (1048576) _ (H0.out.below BE0.out) (by omega) (by omega)).mono ?_
  rintro e wz3 ⟨rfl, hb⟩
  have BE4 := Lib.hid (below_tr BE0.out hb)
  have ZZ4 : Hid (w.heap.size ≤ wz3.heap.size) := Lib.hid (by have := (hb).size; simpa using this)
  clear BE0
  clear hb
  go_wp2_with fail
  refine (rws.to_any _ xss0 _ (H0.out.below BE4.out) hn0).mono ?_
  rintro e wc5 ⟨us0, rfl, hu, hb⟩
  obtain ⟨s0a, s0n, s0c, rfl⟩ := hu.rows.shape
  have BE6 := Lib.hid (below_tr BE4.out hb)
  have ZZ6 : Hid (wz3.heap.size ≤ wc5.heap.size) := Lib.hid (by have := (hb).size; simpa using this)
  clear BE4
  have OWs0 := Lib.hid (hu.mono (B' := wz3.heap.size) (by simp) (Nat.le_refl _))
  clear hu hb
  go_wp2_with fail
  refine (ints.to_any _ xs1 _ (H1.out.below BE6.out) hn1).mono ?_
  rintro e wc7 ⟨us1, rfl, hu, hb⟩
  obtain ⟨s1a, s1n, s1c, rfl⟩ := hu.ints.shape
  have BE8 := Lib.hid (below_tr BE6.out hb)
  have OWs08 := Lib.hid (OWs0.out.keep hb)
  have ZZ8 : Hid (wc5.heap.size ≤ wc7.heap.size) := Lib.hid (by have := (hb).size; simpa using this)
  clear BE6 OWs0
  have OWs1 := Lib.hid (hu.mono (B' := wc5.heap.size) (by simp) (Nat.le_refl _))
  clear hu hb
  go_wp2_with fail
  refine (ints.to_any _ xs2 _ (H2.out.below BE8.out) hn2).mono ?_
  rintro e wc9 ⟨us2, rfl, hu, hb⟩
  obtain ⟨s2a, s2n, s2c, rfl⟩ := hu.ints.shape
  have BE10 := Lib.hid (below_tr BE8.out hb)
  have OWs010 := Lib.hid (OWs08.out.keep hb)
  have OWs110 := Lib.hid (OWs1.out.keep hb)
  have ZZ10 : Hid (wc7.heap.size ≤ wc9.heap.size) := Lib.hid (by have := (hb).size; simpa using this)
  clear BE8 OWs08 OWs1
  have OWs2 := Lib.hid (hu.mono (B' := wc7.heap.size) (by simp) (Nat.le_refl _))
  clear hu hb
  go_wp2_with fail
  refine (sws.spec_any (.slice s0a s0n s0c) (.slice s1a s1n s1c) (.slice s2a s2n s2c) xss0 xs1 xs2 _ OWs010.out.rows OWs110.out.ints OWs2.out.ints).mono ?_
  rintro e wf11 ⟨uW, rfl, hu, hb⟩
  obtain ⟨Wa, Wn, Wc, rfl⟩ := hu.shape
  have BE12 := Lib.hid (below_tr BE10.out hb)
  have OWs012 := Lib.hid (OWs010.out.keep hb)
  have OWs112 := Lib.hid (OWs110.out.keep hb)
  have OWs212 := Lib.hid (OWs2.out.keep hb)
  have ZZ12 : Hid (wc9.heap.size ≤ wf11.heap.size) := Lib.hid (by have := (hb).size; simpa using this)
  clear BE10 OWs010 OWs110 OWs2
  have VWW := Lib.hid hu
  have HBW := Lib.hid (Below.refl wf11.heap.size wf11)
  clear hu hb
  go_wp2_with fail
  refine (rws.to_any _ xss0 _ (H0.out.below BE12.out) hn0).mono ?_
  rintro e wc13 ⟨ux0, rfl, hu, hb⟩
  obtain ⟨x0a, x0n, x0c, rfl⟩ := hu.rows.shape
  have BE14 := Lib.hid (below_tr BE12.out hb)
  have HBW14 := Lib.hid (below_tr HBW.out hb)
  have ZZ14 : Hid (wf11.heap.size ≤ wc13.heap.size) := Lib.hid (by have := (hb).size; simpa using this)
  clear BE12 HBW
  have OWx0 := Lib.hid (hu.mono (B' := wf11.heap.size) (by simp) (Nat.le_refl _))
  clear hu hb
  go_wp2_with fail
  refine (ints.to_any _ xs1 _ (H1.out.below BE14.out) hn1).mono ?_
  rintro e wc15 ⟨ux1, rfl, hu, hb⟩
  obtain ⟨x1a, x1n, x1c, rfl⟩ := hu.ints.shape
  have BE16 := Lib.hid (below_tr BE14.out hb)
  have HBW16 := Lib.hid (below_tr HBW14.out hb)
  have OWx016 := Lib.hid (OWx0.out.keep hb)
  have ZZ16 : Hid (wc13.heap.size ≤ wc15.heap.size) := Lib.hid (by have := (hb).size; simpa using this)
  clear BE14 HBW14 OWx0
  have OWx1 := Lib.hid (hu.mono (B' := wc13.heap.size) (by simp) (Nat.le_refl _))
  clear hu hb
  go_wp2_with fail
  refine (ints.to_any _ xs2 _ (H2.out.below BE16.out) hn2).mono ?_
  rintro e wc17 ⟨ux2, rfl, hu, hb⟩
  obtain ⟨x2a, x2n, x2c, rfl⟩ := hu.ints.shape
  have BE18 := Lib.hid (below_tr BE16.out hb)
  have HBW18 := Lib.hid (below_tr HBW16.out hb)
  have OWx018 := Lib.hid (OWx016.out.keep hb)
  have OWx118 := Lib.hid (OWx1.out.keep hb)
  have ZZ18 : Hid (wc15.heap.size ≤ wc17.heap.size) := Lib.hid (by have := (hb).size; simpa using this)
  clear BE16 HBW16 OWx016 OWx1
  have OWx2 := Lib.hid (hu.mono (B' := wc15.heap.size) (by simp) (Nat.le_refl _))
  clear hu hb
  go_wp2_with fail
  refine (sws.impl_any (.slice x0a x0n x0c) (.slice x1a x1n x1c) (.slice x2a x2n x2c) xss0 xs1 xs2 _ OWx018.out.rows OWx118.out.ints OWx2.out.ints).mono ?_
  rintro e wf19 ⟨uG, rfl, hu, hb⟩
  obtain ⟨Ga, Gn, Gc, rfl⟩ := hu.rows.shape
  have BE20 := Lib.hid (below_tr BE18.out hb)
  have HBW20 := Lib.hid (below_tr HBW18.out hb)
  have OWx020 := Lib.hid (OWx018.out.keep hb)
  have OWx120 := Lib.hid (OWx118.out.keep hb)
  have OWx220 := Lib.hid (OWx2.out.keep hb)
  have ZZ20 : Hid (wc17.heap.size ≤ wf19.heap.size) := Lib.hid (by have := (hb).size; simpa using this)
  clear BE18 HBW18 OWx018 OWx118 OWx2
  have OWG := Lib.hid (hu.mono (B' := wc17.heap.size) (by simp) (Nat.le_refl _))
  clear hu hb
  have tk0 : (((sws.res xss0 xs1 xs2).2) != ((sws.res xss0 xs1 xs2).2)) = false := bne_self_eq_false _
  go_wp2_with fail
  refine (rws.eq_same _ _ ((sws.res xss0 xs1 xs2).1) _ OWG.out.rows (VWW.out.below HBW20.out) (sws.tot xss0 xs1 xs2)).mono ?_
  rintro e we21 ⟨rfl, hb⟩
  have BE22 := Lib.hid (below_tr BE20.out hb)
  have HBW22 := Lib.hid (below_tr HBW20.out hb)
  have OWx022 := Lib.hid (OWx020.out.keep hb)
  have OWx122 := Lib.hid (OWx120.out.keep hb)
  have OWx222 := Lib.hid (OWx220.out.keep hb)
  have OWG22 := Lib.hid (OWG.out.keep hb)
  have ZZ22 : Hid (wf19.heap.size ≤ we21.heap.size) := Lib.hid (by have := (hb).size; simpa using this)
  clear BE20 HBW20 OWx020 OWx120 OWx220 OWG
  clear hb
  go_wp2_with fail
  go_wp2_with fail
  refine (rws.to_any _ xss0 _ (H0.out.below BE22.out) hn0).mono ?_
  rintro e wc23 ⟨uy0, rfl, hu, hb⟩
  obtain ⟨y0a, y0n, y0c, rfl⟩ := hu.rows.shape
  have BE24 := Lib.hid (below_tr BE22.out hb)
  have HBW24 := Lib.hid (below_tr HBW22.out hb)
  have OWx024 := Lib.hid (OWx022.out.keep hb)
  have OWx124 := Lib.hid (OWx122.out.keep hb)
  have OWx224 := Lib.hid (OWx222.out.keep hb)
  have OWG24 := Lib.hid (OWG22.out.keep hb)
  have ZZ24 : Hid (we21.heap.size ≤ wc23.heap.size) := Lib.hid (by have := (hb).size; simpa using this)
  clear BE22 HBW22 OWx022 OWx122 OWx222 OWG22
  have OWy0 := Lib.hid (hu.mono (B' := we21.heap.size) (by simp) (Nat.le_refl _))
  clear hu hb
  go_wp2_with fail
  refine (rws.eq_same _ _ xss0 _ OWx024.out.rows OWy0.out.rows hn0).mono ?_
  rintro e we25 ⟨rfl, hb⟩
  have BE26 := Lib.hid (below_tr BE24.out hb)
  have HBW26 := Lib.hid (below_tr HBW24.out hb)
  have OWx026 := Lib.hid (OWx024.out.keep hb)
  have OWx126 := Lib.hid (OWx124.out.keep hb)
  have OWx226 := Lib.hid (OWx224.out.keep hb)
  have OWG26 := Lib.hid (OWG24.out.keep hb)
  have OWy026 := Lib.hid (OWy0.out.keep hb)
  have ZZ26 : Hid (wc23.heap.size ≤ we25.heap.size) := Lib.hid (by have := (hb).size; simpa using this)
  clear BE24 HBW24 OWx024 OWx124 OWx224 OWG24 OWy0
  clear hb
  clear OWy026
  go_wp2_with fail
  go_wp2_with fail
  refine (ints.to_any _ xs1 _ (H1.out.below BE26.out) hn1).mono ?_
  rintro e wc27 ⟨uy1, rfl, hu, hb⟩
  obtain ⟨y1a, y1n, y1c, rfl⟩ := hu.ints.shape
  have BE28 := Lib.hid (below_tr BE26.out hb)
  have HBW28 := Lib.hid (below_tr HBW26.out hb)
  have OWx028 := Lib.hid (OWx026.out.keep hb)
  have OWx128 := Lib.hid (OWx126.out.keep hb)
  have OWx228 := Lib.hid (OWx226.out.keep hb)
  have OWG28 := Lib.hid (OWG26.out.keep hb)
  have ZZ28 : Hid (we25.heap.size ≤ wc27.heap.size) := Lib.hid (by have := (hb).size; simpa using this)
  clear BE26 HBW26 OWx026 OWx126 OWx226 OWG26
  have OWy1 := Lib.hid (hu.mono (B' := we25.heap.size) (by simp) (Nat.le_refl _))
  clear hu hb
  go_wp2_with fail
  refine (ints.eq_same _ _ xs1 _ OWx128.out.ints OWy1.out.ints hn1).mono ?_
  rintro e we29 ⟨rfl, hb⟩
  have BE30 := Lib.hid (below_tr BE28.out hb)
  have HBW30 := Lib.hid (below_tr HBW28.out hb)
  have OWx030 := Lib.hid (OWx028.out.keep hb)
  have OWx130 := Lib.hid (OWx128.out.keep hb)
  have OWx230 := Lib.hid (OWx228.out.keep hb)
  have OWG30 := Lib.hid (OWG28.out.keep hb)
  have OWy130 := Lib.hid (OWy1.out.keep hb)
  have ZZ30 : Hid (wc27.heap.size ≤ we29.heap.size) := Lib.hid (by have := (hb).size; simpa using this)
  clear BE28 HBW28 OWx028 OWx128 OWx228 OWG28 OWy1
  clear hb
  clear OWy130
  go_wp2_with fail
  go_wp2_with fail
  refine (ints.to_any _ xs2 _ (H2.out.below BE30.out) hn2).mono ?_
  rintro e wc31 ⟨uy2, rfl, hu, hb⟩
  obtain ⟨y2a, y2n, y2c, rfl⟩ := hu.ints.shape
  have BE32 := Lib.hid (below_tr BE30.out hb)
  have HBW32 := Lib.hid (below_tr HBW30.out hb)
  have OWx032 := Lib.hid (OWx030.out.keep hb)
  have OWx132 := Lib.hid (OWx130.out.keep hb)
  have OWx232 := Lib.hid (OWx230.out.keep hb)
  have OWG32 := Lib.hid (OWG30.out.keep hb)
  have ZZ32 : Hid (we29.heap.size ≤ wc31.heap.size) := Lib.hid (by have := (hb).size; simpa using this)
  clear BE30 HBW30 OWx030 OWx130 OWx230 OWG30
  have OWy2 := Lib.hid (hu.mono (B' := we29.heap.size) (by simp) (Nat.le_refl _))
  clear hu hb
  go_wp2_with fail
  refine (ints.eq_same _ _ xs2 _ OWx232.out.ints OWy2.out.ints hn2).mono ?_
  rintro e we33 ⟨rfl, hb⟩
  have BE34 := Lib.hid (below_tr BE32.out hb)
  have HBW34 := Lib.hid (below_tr HBW32.out hb)
  have OWx034 := Lib.hid (OWx032.out.keep hb)
  have OWx134 := Lib.hid (OWx132.out.keep hb)
  have OWx234 := Lib.hid (OWx232.out.keep hb)
  have OWG34 := Lib.hid (OWG32.out.keep hb)
  have OWy234 := Lib.hid (OWy2.out.keep hb)
  have ZZ34 : Hid (wc31.heap.size ≤ we33.heap.size) := Lib.hid (by have := (hb).size; simpa using this)
  clear BE32 HBW32 OWx032 OWx132 OWx232 OWG32 OWy2
  clear hb
  clear OWy234
  have bl0 := rws.before_le xss0 xss0.length
  go_wp2_with fail
  refine (rws.mark_any _ xss0 (1) (wf11.heap.size) (wc13.heap.size) _ OWx034.out hn0 (by omega) (by omega)).mono ?_
  rintro e wm35 ⟨rfl, hi, S, hw, hs⟩
  clear OWx034
  have BE37 := Lib.hid (BE34.out.trans (hw.below (fun p hp => by have := (hs p hp).1; have := ZZ4.out; have := ZZ6.out; have := ZZ8.out; have := ZZ10.out; have := ZZ12.out; have := ZZ14.out; have := ZZ16.out; have := ZZ18.out; have := ZZ20.out; have := ZZ22.out; have := ZZ24.out; have := ZZ26.out; have := ZZ28.out; have := ZZ30.out; have := ZZ32.out; have := ZZ34.out; omega)))
  have HBW37 := Lib.hid (HBW34.out.trans (hw.below (fun p hp => by have := (hs p hp).1; have := ZZ4.out; have := ZZ6.out; have := ZZ8.out; have := ZZ10.out; have := ZZ12.out; have := ZZ14.out; have := ZZ16.out; have := ZZ18.out; have := ZZ20.out; have := ZZ22.out; have := ZZ24.out; have := ZZ26.out; have := ZZ28.out; have := ZZ30.out; have := ZZ32.out; have := ZZ34.out; omega)))
  have OWx137 := Lib.hid (OWx134.out.wrote hw (fun p hp => by have := hs p hp; have := ZZ4.out; have := ZZ6.out; have := ZZ8.out; have := ZZ10.out; have := ZZ12.out; have := ZZ14.out; have := ZZ16.out; have := ZZ18.out; have := ZZ20.out; have := ZZ22.out; have := ZZ24.out; have := ZZ26.out; have := ZZ28.out; have := ZZ30.out; have := ZZ32.out; have := ZZ34.out; omega))
  have OWx237 := Lib.hid (OWx234.out.wrote hw (fun p hp => by have := hs p hp; have := ZZ4.out; have := ZZ6.out; have := ZZ8.out; have := ZZ10.out; have := ZZ12.out; have := ZZ14.out; have := ZZ16.out; have := ZZ18.out; have := ZZ20.out; have := ZZ22.out; have := ZZ24.out; have := ZZ26.out; have := ZZ28.out; have := ZZ30.out; have := ZZ32.out; have := ZZ34.out; omega))
  have OWG37 := Lib.hid (OWG34.out.wrote hw (fun p hp => by have := hs p hp; have := ZZ4.out; have := ZZ6.out; have := ZZ8.out; have := ZZ10.out; have := ZZ12.out; have := ZZ14.out; have := ZZ16.out; have := ZZ18.out; have := ZZ20.out; have := ZZ22.out; have := ZZ24.out; have := ZZ26.out; have := ZZ28.out; have := ZZ30.out; have := ZZ32.out; have := ZZ34.out; omega))
  have ZZ37 : Hid (we33.heap.size ≤ wm35.heap.size) := Lib.hid (by have := hw.size; omega)
  clear BE34 HBW34 OWx134 OWx234 OWG34
  clear hw hs
  clear hi
  go_wp2_with fail
  refine (ints.mark_own _ xs1 (1 + (rws.before xss0 xss0.length : Int)) (wc13.heap.size) (wc15.heap.size) _ OWx137.out hn1 (by omega) (by omega)).mono ?_
  rintro e wm38 ⟨rfl, hi, S, hw, hs⟩
  clear OWx137
  have BE40 := Lib.hid (BE37.out.trans (hw.below (fun p hp => by have := (hs p hp).1; have := ZZ4.out; have := ZZ6.out; have := ZZ8.out; have := ZZ10.out; have := ZZ12.out; have := ZZ14.out; have := ZZ16.out; have := ZZ18.out; have := ZZ20.out; have := ZZ22.out; have := ZZ24.out; have := ZZ26.out; have := ZZ28.out; have := ZZ30.out; have := ZZ32.out; have := ZZ34.out; have := ZZ37.out; omega)))
  have HBW40 := Lib.hid (HBW37.out.trans (hw.below (fun p hp => by have := (hs p hp).1; have := ZZ4.out; have := ZZ6.out; have := ZZ8.out; have := ZZ10.out; have := ZZ12.out; have := ZZ14.out; have := ZZ16.out; have := ZZ18.out; have := ZZ20.out; have := ZZ22.out; have := ZZ24.out; have := ZZ26.out; have := ZZ28.out; have := ZZ30.out; have := ZZ32.out; have := ZZ34.out; have := ZZ37.out; omega)))
  have OWx240 := Lib.hid (OWx237.out.wrote hw (fun p hp => by have := hs p hp; have := ZZ4.out; have := ZZ6.out; have := ZZ8.out; have := ZZ10.out; have := ZZ12.out; have := ZZ14.out; have := ZZ16.out; have := ZZ18.out; have := ZZ20.out; have := ZZ22.out; have := ZZ24.out; have := ZZ26.out; have := ZZ28.out; have := ZZ30.out; have := ZZ32.out; have := ZZ34.out; have := ZZ37.out; omega))
  have OWG40 := Lib.hid (OWG37.out.wrote hw (fun p hp => by have := hs p hp; have := ZZ4.out; have := ZZ6.out; have := ZZ8.out; have := ZZ10.out; have := ZZ12.out; have := ZZ14.out; have := ZZ16.out; have := ZZ18.out; have := ZZ20.out; have := ZZ22.out; have := ZZ24.out; have := ZZ26.out; have := ZZ28.out; have := ZZ30.out; have := ZZ32.out; have := ZZ34.out; have := ZZ37.out; omega))
  have ZZ40 : Hid (wm35.heap.size ≤ wm38.heap.size) := Lib.hid (by have := hw.size; omega)
  clear BE37 HBW37 OWx237 OWG37
  clear hw hs
  clear hi
  go_wp2_with fail
  refine (ints.mark_own _ xs2 (1 + (rws.before xss0 xss0.length : Int) + (xs1.length : Int)) (wc15.heap.size) (wc17.heap.size) _ OWx240.out hn2 (by omega) (by omega)).mono ?_
  rintro e wm41 ⟨rfl, hi, S, hw, hs⟩
  clear OWx240
  have BE43 := Lib.hid (BE40.out.trans (hw.below (fun p hp => by have := (hs p hp).1; have := ZZ4.out; have := ZZ6.out; have := ZZ8.out; have := ZZ10.out; have := ZZ12.out; have := ZZ14.out; have := ZZ16.out; have := ZZ18.out; have := ZZ20.out; have := ZZ22.out; have := ZZ24.out; have := ZZ26.out; have := ZZ28.out; have := ZZ30.out; have := ZZ32.out; have := ZZ34.out; have := ZZ37.out; have := ZZ40.out; omega)))
  have HBW43 := Lib.hid (HBW40.out.trans (hw.below (fun p hp => by have := (hs p hp).1; have := ZZ4.out; have := ZZ6.out; have := ZZ8.out; have := ZZ10.out; have := ZZ12.out; have := ZZ14.out; have := ZZ16.out; have := ZZ18.out; have := ZZ20.out; have := ZZ22.out; have := ZZ24.out; have := ZZ26.out; have := ZZ28.out; have := ZZ30.out; have := ZZ32.out; have := ZZ34.out; have := ZZ37.out; have := ZZ40.out; omega)))
  have OWG43 := Lib.hid (OWG40.out.wrote hw (fun p hp => by have := hs p hp; have := ZZ4.out; have := ZZ6.out; have := ZZ8.out; have := ZZ10.out; have := ZZ12.out; have := ZZ14.out; have := ZZ16.out; have := ZZ18.out; have := ZZ20.out; have := ZZ22.out; have := ZZ24.out; have := ZZ26.out; have := ZZ28.out; have := ZZ30.out; have := ZZ32.out; have := ZZ34.out; have := ZZ37.out; have := ZZ40.out; omega))
  have ZZ43 : Hid (wm38.heap.size ≤ wm41.heap.size) := Lib.hid (by have := hw.size; omega)
  clear BE40 HBW40 OWG40
  clear hw hs
  clear hi
  have dk : decide (1 + (rws.before xss0 xss0.length : Int) + (xs1.length : Int) + (xs2.length : Int) < 0) = false := by simp; omega
  have dk' : ¬ (1 + (rws.before xss0 xss0.length : Int) + (xs1.length : Int) + (xs2.length : Int) < 0) := by omega
  go_wp2_with fail
  refine (rws.eq_same _ _ ((sws.res xss0 xs1 xs2).1) _ OWG43.out.rows (VWW.out.below HBW43.out) (sws.tot xss0 xs1 xs2)).mono ?_
  rintro e we44 ⟨rfl, hb⟩
  have BE45 := Lib.hid (below_tr BE43.out hb)
  have HBW45 := Lib.hid (below_tr HBW43.out hb)
  have OWG45 := Lib.hid (OWG43.out.keep hb)
  have ZZ45 : Hid (wm41.heap.size ≤ we44.heap.size) := Lib.hid (by have := (hb).size; simpa using this)
  clear BE43 HBW43 OWG43
  clear hb
  have blr := Nat.le_trans (rws.before_le ((sws.res xss0 xs1 xs2).1) ((sws.res xss0 xs1 xs2).1).length) (sws.tot xss0 xs1 xs2)
  have dq : ¬ (1 + (rws.before ((sws.res xss0 xs1 xs2).1) ((sws.res xss0 xs1 xs2).1).length : Int) < 0) := by omega
  have tq : ((1 + (rws.before ((sws.res xss0 xs1 xs2).1) ((sws.res xss0 xs1 xs2).1).length : Int)) != (1 + (rws.before ((sws.res xss0 xs1 xs2).1) ((sws.res xss0 xs1 xs2).1).length : Int))) = false := bne_self_eq_false _
  go_wp2_with fail
  refine (rws.mark_any _ ((sws.res xss0 xs1 xs2).1) (1) (wc17.heap.size) (wf19.heap.size) _ OWG45.out (sws.tot xss0 xs1 xs2) (by omega) (by omega)).mono ?_
  rintro e wm46 ⟨rfl, hi, S, hw, hs⟩
  clear OWG45
  have BE48 := Lib.hid (BE45.out.trans (hw.below (fun p hp => by have := (hs p hp).1; have := ZZ4.out; have := ZZ6.out; have := ZZ8.out; have := ZZ10.out; have := ZZ12.out; have := ZZ14.out; have := ZZ16.out; have := ZZ18.out; have := ZZ20.out; have := ZZ22.out; have := ZZ24.out; have := ZZ26.out; have := ZZ28.out; have := ZZ30.out; have := ZZ32.out; have := ZZ34.out; have := ZZ37.out; have := ZZ40.out; have := ZZ43.out; have := ZZ45.out; omega)))
  have HBW48 := Lib.hid (HBW45.out.trans (hw.below (fun p hp => by have := (hs p hp).1; have := ZZ4.out; have := ZZ6.out; have := ZZ8.out; have := ZZ10.out; have := ZZ12.out; have := ZZ14.out; have := ZZ16.out; have := ZZ18.out; have := ZZ20.out; have := ZZ22.out; have := ZZ24.out; have := ZZ26.out; have := ZZ28.out; have := ZZ30.out; have := ZZ32.out; have := ZZ34.out; have := ZZ37.out; have := ZZ40.out; have := ZZ43.out; have := ZZ45.out; omega)))
  have ZZ48 : Hid (we44.heap.size ≤ wm46.heap.size) := Lib.hid (by have := hw.size; omega)
  clear BE45 HBW45
  clear hw hs
  have VWM := Lib.hid hi
  have HBM := Lib.hid (Below.refl wm46.heap.size wm46)
  clear hi
  go_wp2_with fail
  refine (calls_below (rws.held_any _ ((sws.res xss0 xs1 xs2).1) 1 _ (VWM.out.below HBM.out) (sws.tot xss0 xs1 xs2) (by omega) (by omega))).mono ?_
  rintro e wh49 ⟨rfl, hb⟩
  have BE50 := Lib.hid (below_tr BE48.out hb)
  have HBW50 := Lib.hid (below_tr HBW48.out hb)
  have HBM50 := Lib.hid (below_tr HBM.out hb)
  have ZZ50 : Hid (wm46.heap.size ≤ wh49.heap.size) := Lib.hid (by have := (hb).size; simpa using this)
  clear BE48 HBW48 HBM
  clear hb
  go_wp2_with fail
  refine (rws.to_any _ xss0 _ (H0.out.below BE50.out) hn0).mono ?_
  rintro e wc51 ⟨uz0, rfl, hu, hb⟩
  obtain ⟨z0a, z0n, z0c, rfl⟩ := hu.rows.shape
  have BE52 := Lib.hid (below_tr BE50.out hb)
  have HBW52 := Lib.hid (below_tr HBW50.out hb)
  have HBM52 := Lib.hid (below_tr HBM50.out hb)
  have ZZ52 : Hid (wh49.heap.size ≤ wc51.heap.size) := Lib.hid (by have := (hb).size; simpa using this)
  clear BE50 HBW50 HBM50
  have OWz0 := Lib.hid (hu.mono (B' := wh49.heap.size) (by simp) (Nat.le_refl _))
  clear hu hb
  go_wp2_with fail
  refine (ints.to_any _ xs1 _ (H1.out.below BE52.out) hn1).mono ?_
  rintro e wc53 ⟨uz1, rfl, hu, hb⟩
  obtain ⟨z1a, z1n, z1c, rfl⟩ := hu.ints.shape
  have BE54 := Lib.hid (below_tr BE52.out hb)
  have HBW54 := Lib.hid (below_tr HBW52.out hb)
  have HBM54 := Lib.hid (below_tr HBM52.out hb)
  have OWz054 := Lib.hid (OWz0.out.keep hb)
  have ZZ54 : Hid (wc51.heap.size ≤ wc53.heap.size) := Lib.hid (by have := (hb).size; simpa using this)
  clear BE52 HBW52 HBM52 OWz0
  have OWz1 := Lib.hid (hu.mono (B' := wc51.heap.size) (by simp) (Nat.le_refl _))
  clear hu hb
  go_wp2_with fail
  refine (ints.to_any _ xs2 _ (H2.out.below BE54.out) hn2).mono ?_
  rintro e wc55 ⟨uz2, rfl, hu, hb⟩
  obtain ⟨z2a, z2n, z2c, rfl⟩ := hu.ints.shape
  have BE56 := Lib.hid (below_tr BE54.out hb)
  have HBW56 := Lib.hid (below_tr HBW54.out hb)
  have HBM56 := Lib.hid (below_tr HBM54.out hb)
  have OWz056 := Lib.hid (OWz054.out.keep hb)
  have OWz156 := Lib.hid (OWz1.out.keep hb)
  have ZZ56 : Hid (wc53.heap.size ≤ wc55.heap.size) := Lib.hid (by have := (hb).size; simpa using this)
  clear BE54 HBW54 HBM54 OWz054 OWz1
  have OWz2 := Lib.hid (hu.mono (B' := wc53.heap.size) (by simp) (Nat.le_refl _))
  clear hu hb
  go_wp2_with fail
  refine (sws.impl_any (.slice z0a z0n z0c) (.slice z1a z1n z1c) (.slice z2a z2n z2c) xss0 xs1 xs2 _ OWz056.out.rows OWz156.out.ints OWz2.out.ints).mono ?_
  rintro e wf57 ⟨uHh, rfl, hu, hb⟩
  obtain ⟨Hha, Hhn, Hhc, rfl⟩ := hu.rows.shape
  have BE58 := Lib.hid (below_tr BE56.out hb)
  have HBW58 := Lib.hid (below_tr HBW56.out hb)
  have HBM58 := Lib.hid (below_tr HBM56.out hb)
  have OWz058 := Lib.hid (OWz056.out.keep hb)
  have OWz158 := Lib.hid (OWz156.out.keep hb)
  have OWz258 := Lib.hid (OWz2.out.keep hb)
  have ZZ58 : Hid (wc55.heap.size ≤ wf57.heap.size) := Lib.hid (by have := (hb).size; simpa using this)
  clear BE56 HBW56 HBM56 OWz056 OWz156 OWz2
  have OWHh := Lib.hid (hu.mono (B' := wc55.heap.size) (by simp) (Nat.le_refl _))
  clear hu hb
  clear OWz058
  clear OWz158
  clear OWz258
  go_wp2_with fail
  refine (rws.eq_same _ _ ((sws.res xss0 xs1 xs2).1) _ OWHh.out.rows (VWW.out.below HBW58.out) (sws.tot xss0 xs1 xs2)).mono ?_
  rintro e we59 ⟨rfl, hb⟩
  have BE60 := Lib.hid (below_tr BE58.out hb)
  have HBW60 := Lib.hid (below_tr HBW58.out hb)
  have HBM60 := Lib.hid (below_tr HBM58.out hb)
  have OWHh60 := Lib.hid (OWHh.out.keep hb)
  have ZZ60 : Hid (wf57.heap.size ≤ we59.heap.size) := Lib.hid (by have := (hb).size; simpa using this)
  clear BE58 HBW58 HBM58 OWHh
  clear hb
  go_wp2_with fail
  refine (calls_below (rws.held_any _ ((sws.res xss0 xs1 xs2).1) 1 _ (VWM.out.below HBM60.out) (sws.tot xss0 xs1 xs2) (by omega) (by omega))).mono ?_
  rintro e wh61 ⟨rfl, hb⟩
  have BE62 := Lib.hid (below_tr BE60.out hb)
  have HBW62 := Lib.hid (below_tr HBW60.out hb)
  have HBM62 := Lib.hid (below_tr HBM60.out hb)
  have OWHh62 := Lib.hid (OWHh60.out.keep hb)
  have ZZ62 : Hid (we59.heap.size ≤ wh61.heap.size) := Lib.hid (by have := (hb).size; simpa using this)
  clear BE60 HBW60 HBM60 OWHh60
  clear hb
  go_wp2_with fail
  go_ret
  exact ⟨rfl, BE62.out⟩

/-! ### the frame of the row -/
theorem own : ownKnob Try.prog.godebug = none := by kernel_rfl
theorem laidOut : laidOutB Try.prog = true := by kernel_rfl
set_option maxRecDepth 100000 in
theorem lifted (os : Os) (started : os.Started) (H : Type) (enc : TypeId × Value → H) :
    ReturnsInHanded {} Try.checked os 13 .any (Rows.fnExactSwitchSignsSpec.pre6 enc Try.prog Try.f13 Rows.fnExactSwitchSignsRow.domain false) (Rows.fnExactSwitchSignsSpec.post enc Try.prog Try.f13 false true false false) := by
  refine returnsInHanded_of_change (C := Try.checked) own started (by kernel_rfl) Try.func13
    (ChangeSpec.witness6 (enc := enc) (C := Try.checked) false ⟨#[], #[.slice none 0 0, .slice none 0 0, .slice none 0 0], []⟩ 8 (by kernel_rfl) (by kernel_rfl) (by kernel_rfl) (by kernel_rfl)) ?_
  intro W base args ds gs before hval0 hW _ _
  have hval : ∀ (j : Nat) t v, Try.f13.params[j]? = some t → args[j]? = some v → Value.okWide Try.prog W .any base t v := hval0
  have hW' := hW
  obtain ⟨p, q, hA0, hV, rfl, hfz, hnd⟩ := hW
  have hA : DataW.TrodAll enc Try.prog W 0 (fun _ => true) true Try.f13.params.toList args.toList ds p := hA0
  rw [Try.params13] at hA hval
  obtain ⟨v0, vs0, d0, ds0, p0, q0, hargs, rfl, rfl, h0, r0⟩ := trodAll_cons hA
  obtain ⟨v1, vs1, d1, ds1, p1, q1, rfl, rfl, rfl, h1, r1⟩ := trodAll_cons r0
  obtain ⟨v2, vs2, d2, ds2, p2, q2, rfl, rfl, rfl, h2, r2⟩ := trodAll_cons r1
  obtain ⟨rfl, rfl, rfl⟩ := trodAll_nil r2
  obtain rfl : args = #[v0, v1, v2] := by cases args; simp_all
  obtain ⟨rfl, rfl⟩ := trodVars_none hV
  have lt0 : ∀ x ∈ p0, x.block < W.heap.size := by obtain ⟨m, hm⟩ := h0; exact DataW.trod_lt m _ _ _ hm
  obtain ⟨xss0, g0⟩ := opn.rows_of_trod Try.underlying23 Try.underlying22 Try.underlying3 (by kernel_rfl) (by kernel_rfl) (hval 0 23 v0 rfl rfl) h0
  have lt1 : ∀ x ∈ p1, x.block < W.heap.size := by obtain ⟨m, hm⟩ := h1; exact DataW.trod_lt m _ _ _ hm
  obtain ⟨xs1, g1⟩ := opn.ints_of_trod Try.underlying22 Try.underlying3 (by kernel_rfl) (hval 1 22 v1 rfl rfl) h1
  have lt2 : ∀ x ∈ p2, x.block < W.heap.size := by obtain ⟨m, hm⟩ := h2; exact DataW.trod_lt m _ _ _ hm
  obtain ⟨xs2, g2⟩ := opn.ints_of_trod Try.underlying22 Try.underlying3 (by kernel_rfl) (hval 2 22 v2 rfl rfl) h2
  clear hA0 hval0
  refine (walk v0 xss0 v1 xs1 v2 xs2 W g0 g1 g2).mono fun e W' ⟨he, bel⟩ => ?_
  subst he
  exact ⟨_, rfl, _, _, _, [], _, [], hW', trodAll_mk1 (shut_bool Try.underlying4 _), (trodAll_cons_mk (Below.trod laidOut (by kernel_rfl) (of_decide_eq_true (by kernel_rfl)) h0 bel lt0) (trodAll_cons_mk (Below.trod laidOut (by kernel_rfl) (of_decide_eq_true (by kernel_rfl)) h1 bel lt1) (trodAll_cons_mk (Below.trod laidOut (by kernel_rfl) (of_decide_eq_true (by kernel_rfl)) h2 bel lt2) trodAll_mk0))), rfl, bel.frame _, fun h => by cases h⟩

theorem over : Rows.fnExactSwitchSignsRow.holds Try.pinned (OpenSpec.ofChange Rows.fnExactSwitchSignsSpec) :=
  OpenClaim.holds_of_wide 13 Try.f13 rfl rfl rfl rfl rfl rfl rfl ⟨rfl, rfl, rfl, rfl, rfl⟩ rfl rfl rfl rfl rfl (by kernel_rfl) Try.func13 (by kernel_rfl)
    (of_decide_eq_true (by kernel_rfl)) (by unfold Func.isWrapper; first | (rw [if_pos (by decide +kernel)]; kernel_rfl) | (rw [if_neg (by decide +kernel)]; exact ⟨rfl, rfl⟩))
    (fun os started H enc _ => lifted os started H enc)

theorem proved : Rows.FnExactSwitchSignsSaid := over
#print axioms proved
end Go.Proofs.Ytfkdhdiacelcjaa.lawSwitchSigns
