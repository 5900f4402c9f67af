/- Proved here: for all arguments, the law FnExactFlipPlay returns true: the program's function answers as its model in every field, leaves its arguments as they were, and its answer owns its memory. Conditions: none beyond the row. -/
import Derived.Test.YtknpcajignhifaaFlipp
import Derived.Test.YtknpcajignhifaaOpen
import Derived.Test.YtknpcajignhifaaRows
import Derived.Deep.RegionHeld3
namespace Go.Proofs.Ytknpcajignhifaa.lawFlipPlay
open Go.ChangeShapes Go.WideShapes Go.ChangeAt Go.RowKit Go.Deep Go.Proofs.Ytknpcajignhifaa.base
open Go.ChangeMaps (open_string shut_string)

set_option maxRecDepth 100000 in
set_option maxHeartbeats 4000000 in
theorem walk (a0 : Int) (a1 : Int) (v2 : Value) (xs2 : List Int) (v3 : Value) (xs3 : List Int) (w : World) (_f0 : (Lit.int .i64 a0).wf = true) (_f1 : (Lit.int .i64 a1).wf = true) (h2 : Ints w v2 xs2) (h3 : Ints w v3 xs3) :
    Calls Try.prog 3 #[.int .i64 a0, .int .i64 a1, v2, v3] w fun e w' => e = .returned (.bool true) ∧ Below w.heap.size w w' := by
  obtain ⟨va2, vc2, hv2⟩ : ∃ A c, v2 = .slice A xs2.length c := by obtain ⟨A, c, hv, _⟩ := h2; exact ⟨A, c, by rw [hv, len_i64s]⟩
  subst hv2
  obtain ⟨va3, vc3, hv3⟩ : ∃ A c, v3 = .slice A xs3.length c := by obtain ⟨A, c, hv, _⟩ := h3; exact ⟨A, c, by rw [hv, len_i64s]⟩
  subst hv3
  have H2 := Lib.hid h2
  have H3 := Lib.hid h3
  clear h2 h3
  by_cases hs2 : 1048576 < (xs2.length : Int)
  · skip
    go_enter Try.func3, Try.ntmps3
    have BE0 := Lib.hid (Below.refl w.heap.size w)
    go_wp2_with fail
    go_ret
    exact ⟨rfl, BE0.out⟩
  have hn2 : xs2.length ≤ 1048576 := by omega
  by_cases hs3 : 1048576 < (xs3.length : Int)
  · skip
    go_enter Try.func3, Try.ntmps3
    have BE0 := Lib.hid (Below.refl w.heap.size w)
    go_wp2_with fail
    go_ret
    exact ⟨rfl, BE0.out⟩
  have hn3 : xs3.length ≤ 1048576 := by omega
  go_enter Try.func3, Try.ntmps3
  have BE0 := Lib.hid (Below.refl w.heap.size w)
  go_wp2_with fail
  refine (ints.to_any _ xs2 _ (H2.out.below BE0.out) hn2).mono ?_
  rintro e wc1 ⟨us2, rfl, hu, hb⟩
  obtain ⟨s2a, s2n, s2c, rfl⟩ := hu.ints.shape
  have BE2 := Lib.hid (below_tr BE0.out hb)
  have ZZ2 : Hid (w.heap.size ≤ wc1.heap.size) := Lib.hid (by have := (hb).size; simpa using this)
  clear BE0
  have OWs2 := Lib.hid (hu.mono (B' := w.heap.size) (by simp) (Nat.le_refl _))
  clear hu hb
  go_wp2_with fail
  refine (ints.to_any _ xs3 _ (H3.out.below BE2.out) hn3).mono ?_
  rintro e wc3 ⟨us3, rfl, hu, hb⟩
  obtain ⟨s3a, s3n, s3c, rfl⟩ := hu.ints.shape
  have BE4 := Lib.hid (below_tr BE2.out hb)
  have OWs24 := Lib.hid (OWs2.out.keep hb)
  have ZZ4 : Hid (wc1.heap.size ≤ wc3.heap.size) := Lib.hid (by have := (hb).size; simpa using this)
  clear BE2 OWs2
  have OWs3 := Lib.hid (hu.mono (B' := wc1.heap.size) (by simp) (Nat.le_refl _))
  clear hu hb
  go_wp2_with fail
  refine (flipp.spec_any a0 a1 (.slice s2a s2n s2c) (.slice s3a s3n s3c) xs2 xs3 _ OWs24.out.ints OWs3.out.ints).mono ?_
  rintro e wf5 ⟨uW, rfl, hu, hb⟩
  obtain ⟨Wa, Wn, Wc, rfl⟩ := hu.shape
  have BE6 := Lib.hid (below_tr BE4.out hb)
  have OWs26 := Lib.hid (OWs24.out.keep hb)
  have OWs36 := Lib.hid (OWs3.out.keep hb)
  have ZZ6 : Hid (wc3.heap.size ≤ wf5.heap.size) := Lib.hid (by have := (hb).size; simpa using this)
  clear BE4 OWs24 OWs3
  have VWW := Lib.hid hu
  have HBW := Lib.hid (Below.refl wf5.heap.size wf5)
  clear hu hb
  go_wp2_with fail
  refine (ints.to_any _ xs2 _ (H2.out.below BE6.out) hn2).mono ?_
  rintro e wc7 ⟨ux2, rfl, hu, hb⟩
  obtain ⟨x2a, x2n, x2c, rfl⟩ := hu.ints.shape
  have BE8 := Lib.hid (below_tr BE6.out hb)
  have HBW8 := Lib.hid (below_tr HBW.out hb)
  have ZZ8 : Hid (wf5.heap.size ≤ wc7.heap.size) := Lib.hid (by have := (hb).size; simpa using this)
  clear BE6 HBW
  have OWx2 := Lib.hid (hu.mono (B' := wf5.heap.size) (by simp) (Nat.le_refl _))
  clear hu hb
  go_wp2_with fail
  refine (ints.to_any _ xs3 _ (H3.out.below BE8.out) hn3).mono ?_
  rintro e wc9 ⟨ux3, rfl, hu, hb⟩
  obtain ⟨x3a, x3n, x3c, rfl⟩ := hu.ints.shape
  have BE10 := Lib.hid (below_tr BE8.out hb)
  have HBW10 := Lib.hid (below_tr HBW8.out hb)
  have OWx210 := Lib.hid (OWx2.out.keep hb)
  have ZZ10 : Hid (wc7.heap.size ≤ wc9.heap.size) := Lib.hid (by have := (hb).size; simpa using this)
  clear BE8 HBW8 OWx2
  have OWx3 := Lib.hid (hu.mono (B' := wc7.heap.size) (by simp) (Nat.le_refl _))
  clear hu hb
  go_wp2_with fail
  refine (flipp.impl_any a0 a1 (.slice x2a x2n x2c) (.slice x3a x3n x3c) xs2 xs3 _ OWx210.out.ints OWx3.out.ints).mono ?_
  rintro e wf11 ⟨uG, rfl, hu, hb⟩
  obtain ⟨Ga, Gn, Gc, rfl⟩ := hu.ints.shape
  have BE12 := Lib.hid (below_tr BE10.out hb)
  have HBW12 := Lib.hid (below_tr HBW10.out hb)
  have OWx212 := Lib.hid (OWx210.out.keep hb)
  have OWx312 := Lib.hid (OWx3.out.keep hb)
  have ZZ12 : Hid (wc9.heap.size ≤ wf11.heap.size) := Lib.hid (by have := (hb).size; simpa using this)
  clear BE10 HBW10 OWx210 OWx3
  have OWG := Lib.hid (hu.mono (B' := wc9.heap.size) (by simp) (Nat.le_refl _))
  clear hu hb
  have tk0 : (((flipp.res a0 a1 xs2 xs3).2) != ((flipp.res a0 a1 xs2 xs3).2)) = false := bne_self_eq_false _
  go_wp2_with fail
  refine (ints.eq_same _ _ ((flipp.res a0 a1 xs2 xs3).1) _ OWG.out.ints (VWW.out.below HBW12.out) (flipp.len_res a0 a1 xs2 xs3)).mono ?_
  rintro e we13 ⟨rfl, hb⟩
  have BE14 := Lib.hid (below_tr BE12.out hb)
  have HBW14 := Lib.hid (below_tr HBW12.out hb)
  have OWx214 := Lib.hid (OWx212.out.keep hb)
  have OWx314 := Lib.hid (OWx312.out.keep hb)
  have OWG14 := Lib.hid (OWG.out.keep hb)
  have ZZ14 : Hid (wf11.heap.size ≤ we13.heap.size) := Lib.hid (by have := (hb).size; simpa using this)
  clear BE12 HBW12 OWx212 OWx312 OWG
  clear hb
  go_wp2_with fail
  go_wp2_with fail
  refine (ints.to_any _ xs2 _ (H2.out.below BE14.out) hn2).mono ?_
  rintro e wc15 ⟨uy2, rfl, hu, hb⟩
  obtain ⟨y2a, y2n, y2c, rfl⟩ := hu.ints.shape
  have BE16 := Lib.hid (below_tr BE14.out hb)
  have HBW16 := Lib.hid (below_tr HBW14.out hb)
  have OWx216 := Lib.hid (OWx214.out.keep hb)
  have OWx316 := Lib.hid (OWx314.out.keep hb)
  have OWG16 := Lib.hid (OWG14.out.keep hb)
  have ZZ16 : Hid (we13.heap.size ≤ wc15.heap.size) := Lib.hid (by have := (hb).size; simpa using this)
  clear BE14 HBW14 OWx214 OWx314 OWG14
  have OWy2 := Lib.hid (hu.mono (B' := we13.heap.size) (by simp) (Nat.le_refl _))
  clear hu hb
  go_wp2_with fail
  refine (ints.eq_same _ _ xs2 _ OWx216.out.ints OWy2.out.ints hn2).mono ?_
  rintro e we17 ⟨rfl, hb⟩
  have BE18 := Lib.hid (below_tr BE16.out hb)
  have HBW18 := Lib.hid (below_tr HBW16.out hb)
  have OWx218 := Lib.hid (OWx216.out.keep hb)
  have OWx318 := Lib.hid (OWx316.out.keep hb)
  have OWG18 := Lib.hid (OWG16.out.keep hb)
  have OWy218 := Lib.hid (OWy2.out.keep hb)
  have ZZ18 : Hid (wc15.heap.size ≤ we17.heap.size) := Lib.hid (by have := (hb).size; simpa using this)
  clear BE16 HBW16 OWx216 OWx316 OWG16 OWy2
  clear hb
  clear OWy218
  go_wp2_with fail
  go_wp2_with fail
  refine (ints.to_any _ xs3 _ (H3.out.below BE18.out) hn3).mono ?_
  rintro e wc19 ⟨uy3, rfl, hu, hb⟩
  obtain ⟨y3a, y3n, y3c, rfl⟩ := hu.ints.shape
  have BE20 := Lib.hid (below_tr BE18.out hb)
  have HBW20 := Lib.hid (below_tr HBW18.out hb)
  have OWx220 := Lib.hid (OWx218.out.keep hb)
  have OWx320 := Lib.hid (OWx318.out.keep hb)
  have OWG20 := Lib.hid (OWG18.out.keep hb)
  have ZZ20 : Hid (we17.heap.size ≤ wc19.heap.size) := Lib.hid (by have := (hb).size; simpa using this)
  clear BE18 HBW18 OWx218 OWx318 OWG18
  have OWy3 := Lib.hid (hu.mono (B' := we17.heap.size) (by simp) (Nat.le_refl _))
  clear hu hb
  go_wp2_with fail
  refine (ints.eq_same _ _ xs3 _ OWx320.out.ints OWy3.out.ints hn3).mono ?_
  rintro e we21 ⟨rfl, hb⟩
  have BE22 := Lib.hid (below_tr BE20.out hb)
  have HBW22 := Lib.hid (below_tr HBW20.out hb)
  have OWx222 := Lib.hid (OWx220.out.keep hb)
  have OWx322 := Lib.hid (OWx320.out.keep hb)
  have OWG22 := Lib.hid (OWG20.out.keep hb)
  have OWy322 := Lib.hid (OWy3.out.keep hb)
  have ZZ22 : Hid (wc19.heap.size ≤ we21.heap.size) := Lib.hid (by have := (hb).size; simpa using this)
  clear BE20 HBW20 OWx220 OWx320 OWG20 OWy3
  clear hb
  clear OWy322
  go_wp2_with fail
  refine (ints.mark_own _ xs2 (1) (wf5.heap.size) (wc7.heap.size) _ OWx222.out hn2 (by omega) (by omega)).mono ?_
  rintro e wm23 ⟨rfl, hi, S, hw, hs⟩
  clear OWx222
  have BE25 := Lib.hid (BE22.out.trans (hw.below (fun p hp => by have := (hs p hp).1; have := ZZ2.out; have := ZZ4.out; have := ZZ6.out; have := ZZ8.out; have := ZZ10.out; have := ZZ12.out; have := ZZ14.out; have := ZZ16.out; have := ZZ18.out; have := ZZ20.out; have := ZZ22.out; omega)))
  have HBW25 := Lib.hid (HBW22.out.trans (hw.below (fun p hp => by have := (hs p hp).1; have := ZZ2.out; have := ZZ4.out; have := ZZ6.out; have := ZZ8.out; have := ZZ10.out; have := ZZ12.out; have := ZZ14.out; have := ZZ16.out; have := ZZ18.out; have := ZZ20.out; have := ZZ22.out; omega)))
  have OWx325 := Lib.hid (OWx322.out.wrote hw (fun p hp => by have := hs p hp; have := ZZ2.out; have := ZZ4.out; have := ZZ6.out; have := ZZ8.out; have := ZZ10.out; have := ZZ12.out; have := ZZ14.out; have := ZZ16.out; have := ZZ18.out; have := ZZ20.out; have := ZZ22.out; omega))
  have OWG25 := Lib.hid (OWG22.out.wrote hw (fun p hp => by have := hs p hp; have := ZZ2.out; have := ZZ4.out; have := ZZ6.out; have := ZZ8.out; have := ZZ10.out; have := ZZ12.out; have := ZZ14.out; have := ZZ16.out; have := ZZ18.out; have := ZZ20.out; have := ZZ22.out; omega))
  have ZZ25 : Hid (we21.heap.size ≤ wm23.heap.size) := Lib.hid (by have := hw.size; omega)
  clear BE22 HBW22 OWx322 OWG22
  clear hw hs
  clear hi
  go_wp2_with fail
  refine (ints.mark_own _ xs3 (1 + (xs2.length : Int)) (wc7.heap.size) (wc9.heap.size) _ OWx325.out hn3 (by omega) (by omega)).mono ?_
  rintro e wm26 ⟨rfl, hi, S, hw, hs⟩
  clear OWx325
  have BE28 := Lib.hid (BE25.out.trans (hw.below (fun p hp => by have := (hs p hp).1; have := ZZ2.out; have := ZZ4.out; have := ZZ6.out; have := ZZ8.out; have := ZZ10.out; have := ZZ12.out; have := ZZ14.out; have := ZZ16.out; have := ZZ18.out; have := ZZ20.out; have := ZZ22.out; have := ZZ25.out; omega)))
  have HBW28 := Lib.hid (HBW25.out.trans (hw.below (fun p hp => by have := (hs p hp).1; have := ZZ2.out; have := ZZ4.out; have := ZZ6.out; have := ZZ8.out; have := ZZ10.out; have := ZZ12.out; have := ZZ14.out; have := ZZ16.out; have := ZZ18.out; have := ZZ20.out; have := ZZ22.out; have := ZZ25.out; omega)))
  have OWG28 := Lib.hid (OWG25.out.wrote hw (fun p hp => by have := hs p hp; have := ZZ2.out; have := ZZ4.out; have := ZZ6.out; have := ZZ8.out; have := ZZ10.out; have := ZZ12.out; have := ZZ14.out; have := ZZ16.out; have := ZZ18.out; have := ZZ20.out; have := ZZ22.out; have := ZZ25.out; omega))
  have ZZ28 : Hid (wm23.heap.size ≤ wm26.heap.size) := Lib.hid (by have := hw.size; omega)
  clear BE25 HBW25 OWG25
  clear hw hs
  clear hi
  have dk : decide (1 + (xs2.length : Int) + (xs3.length : Int) < 0) = false := by simp; omega
  have dk' : ¬ (1 + (xs2.length : Int) + (xs3.length : Int) < 0) := by omega
  go_wp2_with fail
  refine (ints.eq_same _ _ ((flipp.res a0 a1 xs2 xs3).1) _ OWG28.out.ints (VWW.out.below HBW28.out) (flipp.len_res a0 a1 xs2 xs3)).mono ?_
  rintro e we29 ⟨rfl, hb⟩
  have BE30 := Lib.hid (below_tr BE28.out hb)
  have HBW30 := Lib.hid (below_tr HBW28.out hb)
  have OWG30 := Lib.hid (OWG28.out.keep hb)
  have ZZ30 : Hid (wm26.heap.size ≤ we29.heap.size) := Lib.hid (by have := (hb).size; simpa using this)
  clear BE28 HBW28 OWG28
  clear hb
  have blr := (flipp.len_res a0 a1 xs2 xs3)
  have dq : ¬ (1 + (((flipp.res a0 a1 xs2 xs3).1).length : Int) < 0) := by omega
  have tq : ((1 + (((flipp.res a0 a1 xs2 xs3).1).length : Int)) != (1 + (((flipp.res a0 a1 xs2 xs3).1).length : Int))) = false := bne_self_eq_false _
  go_wp2_with fail
  refine (ints.mark_own _ ((flipp.res a0 a1 xs2 xs3).1) (1) (wc9.heap.size) (wf11.heap.size) _ OWG30.out (flipp.len_res a0 a1 xs2 xs3) (by omega) (by omega)).mono ?_
  rintro e wm31 ⟨rfl, hi, S, hw, hs⟩
  clear OWG30
  have BE33 := Lib.hid (BE30.out.trans (hw.below (fun p hp => by have := (hs p hp).1; have := ZZ2.out; have := ZZ4.out; have := ZZ6.out; have := ZZ8.out; have := ZZ10.out; have := ZZ12.out; have := ZZ14.out; have := ZZ16.out; have := ZZ18.out; have := ZZ20.out; have := ZZ22.out; have := ZZ25.out; have := ZZ28.out; have := ZZ30.out; omega)))
  have HBW33 := Lib.hid (HBW30.out.trans (hw.below (fun p hp => by have := (hs p hp).1; have := ZZ2.out; have := ZZ4.out; have := ZZ6.out; have := ZZ8.out; have := ZZ10.out; have := ZZ12.out; have := ZZ14.out; have := ZZ16.out; have := ZZ18.out; have := ZZ20.out; have := ZZ22.out; have := ZZ25.out; have := ZZ28.out; have := ZZ30.out; omega)))
  have ZZ33 : Hid (we29.heap.size ≤ wm31.heap.size) := Lib.hid (by have := hw.size; omega)
  clear BE30 HBW30
  clear hw hs
  have VWM := Lib.hid hi
  have HBM := Lib.hid (Below.refl wm31.heap.size wm31)
  clear hi
  go_wp2_with fail
  refine (ints.held_below _ ((flipp.res a0 a1 xs2 xs3).1).length 1 _ (VWM.out.below HBM.out) (flipp.len_res a0 a1 xs2 xs3) (by omega) (by omega)).mono ?_
  rintro e wh34 ⟨rfl, hb⟩
  have BE35 := Lib.hid (below_tr BE33.out hb)
  have HBW35 := Lib.hid (below_tr HBW33.out hb)
  have HBM35 := Lib.hid (below_tr HBM.out hb)
  have ZZ35 : Hid (wm31.heap.size ≤ wh34.heap.size) := Lib.hid (by have := (hb).size; simpa using this)
  clear BE33 HBW33 HBM
  clear hb
  go_wp2_with fail
  refine (ints.to_any _ xs2 _ (H2.out.below BE35.out) hn2).mono ?_
  rintro e wc36 ⟨uz2, rfl, hu, hb⟩
  obtain ⟨z2a, z2n, z2c, rfl⟩ := hu.ints.shape
  have BE37 := Lib.hid (below_tr BE35.out hb)
  have HBW37 := Lib.hid (below_tr HBW35.out hb)
  have HBM37 := Lib.hid (below_tr HBM35.out hb)
  have ZZ37 : Hid (wh34.heap.size ≤ wc36.heap.size) := Lib.hid (by have := (hb).size; simpa using this)
  clear BE35 HBW35 HBM35
  have OWz2 := Lib.hid (hu.mono (B' := wh34.heap.size) (by simp) (Nat.le_refl _))
  clear hu hb
  go_wp2_with fail
  refine (ints.to_any _ xs3 _ (H3.out.below BE37.out) hn3).mono ?_
  rintro e wc38 ⟨uz3, rfl, hu, hb⟩
  obtain ⟨z3a, z3n, z3c, rfl⟩ := hu.ints.shape
  have BE39 := Lib.hid (below_tr BE37.out hb)
  have HBW39 := Lib.hid (below_tr HBW37.out hb)
  have HBM39 := Lib.hid (below_tr HBM37.out hb)
  have OWz239 := Lib.hid (OWz2.out.keep hb)
  have ZZ39 : Hid (wc36.heap.size ≤ wc38.heap.size) := Lib.hid (by have := (hb).size; simpa using this)
  clear BE37 HBW37 HBM37 OWz2
  have OWz3 := Lib.hid (hu.mono (B' := wc36.heap.size) (by simp) (Nat.le_refl _))
  clear hu hb
  go_wp2_with fail
  refine (flipp.impl_any a0 a1 (.slice z2a z2n z2c) (.slice z3a z3n z3c) xs2 xs3 _ OWz239.out.ints OWz3.out.ints).mono ?_
  rintro e wf40 ⟨uHh, rfl, hu, hb⟩
  obtain ⟨Hha, Hhn, Hhc, rfl⟩ := hu.ints.shape
  have BE41 := Lib.hid (below_tr BE39.out hb)
  have HBW41 := Lib.hid (below_tr HBW39.out hb)
  have HBM41 := Lib.hid (below_tr HBM39.out hb)
  have OWz241 := Lib.hid (OWz239.out.keep hb)
  have OWz341 := Lib.hid (OWz3.out.keep hb)
  have ZZ41 : Hid (wc38.heap.size ≤ wf40.heap.size) := Lib.hid (by have := (hb).size; simpa using this)
  clear BE39 HBW39 HBM39 OWz239 OWz3
  have OWHh := Lib.hid (hu.mono (B' := wc38.heap.size) (by simp) (Nat.le_refl _))
  clear hu hb
  clear OWz241
  clear OWz341
  go_wp2_with fail
  refine (ints.eq_same _ _ ((flipp.res a0 a1 xs2 xs3).1) _ OWHh.out.ints (VWW.out.below HBW41.out) (flipp.len_res a0 a1 xs2 xs3)).mono ?_
  rintro e we42 ⟨rfl, hb⟩
  have BE43 := Lib.hid (below_tr BE41.out hb)
  have HBW43 := Lib.hid (below_tr HBW41.out hb)
  have HBM43 := Lib.hid (below_tr HBM41.out hb)
  have OWHh43 := Lib.hid (OWHh.out.keep hb)
  have ZZ43 : Hid (wf40.heap.size ≤ we42.heap.size) := Lib.hid (by have := (hb).size; simpa using this)
  clear BE41 HBW41 HBM41 OWHh
  clear hb
  go_wp2_with fail
  refine (ints.held_below _ ((flipp.res a0 a1 xs2 xs3).1).length 1 _ (VWM.out.below HBM43.out) (flipp.len_res a0 a1 xs2 xs3) (by omega) (by omega)).mono ?_
  rintro e wh44 ⟨rfl, hb⟩
  have BE45 := Lib.hid (below_tr BE43.out hb)
  have HBW45 := Lib.hid (below_tr HBW43.out hb)
  have HBM45 := Lib.hid (below_tr HBM43.out hb)
  have OWHh45 := Lib.hid (OWHh43.out.keep hb)
  have ZZ45 : Hid (we42.heap.size ≤ wh44.heap.size) := Lib.hid (by have := (hb).size; simpa using this)
  clear BE43 HBW43 HBM43 OWHh43
  clear hb
  go_wp2_with fail
  go_ret
  exact ⟨rfl, BE45.out⟩

/-! ### the frame of the row -/
theorem own : ownKnob Try.prog.godebug = none := by kernel_rfl
theorem laidOut : laidOutB Try.prog = true := by kernel_rfl
set_option maxRecDepth 100000 in
theorem lifted (os : Os) (started : os.Started) (H : Type) (enc : TypeId × Value → H) :
    ReturnsInHanded {} Try.checked os 3 .any (Rows.fnExactFlipPlaySpec.pre6 enc Try.prog Try.f3 Rows.fnExactFlipPlayRow.domain false) (Rows.fnExactFlipPlaySpec.post enc Try.prog Try.f3 false true false false) := by
  refine returnsInHanded_of_change (C := Try.checked) own started (by kernel_rfl) Try.func3
    (ChangeSpec.witness6 (enc := enc) (C := Try.checked) false ⟨#[], #[.int .i64 0, .int .i64 0, .slice none 0 0, .slice none 0 0], []⟩ 8 (by kernel_rfl) (by kernel_rfl) (by kernel_rfl) (by kernel_rfl)) ?_
  intro W base args ds gs before hval0 hW _ _
  have hval : ∀ (j : Nat) t v, Try.f3.params[j]? = some t → args[j]? = some v → Value.okWide Try.prog W .any base t v := hval0
  have hW' := hW
  obtain ⟨p, q, hA0, hV, rfl, hfz, hnd⟩ := hW
  have hA : DataW.TrodAll enc Try.prog W 0 (fun _ => true) true Try.f3.params.toList args.toList ds p := hA0
  rw [Try.params3] at hA hval
  obtain ⟨v0, vs0, d0, ds0, p0, q0, hargs, rfl, rfl, h0, r0⟩ := trodAll_cons hA
  obtain ⟨v1, vs1, d1, ds1, p1, q1, rfl, rfl, rfl, h1, r1⟩ := trodAll_cons r0
  obtain ⟨v2, vs2, d2, ds2, p2, q2, rfl, rfl, rfl, h2, r2⟩ := trodAll_cons r1
  obtain ⟨v3, vs3, d3, ds3, p3, q3, rfl, rfl, rfl, h3, r3⟩ := trodAll_cons r2
  obtain ⟨rfl, rfl, rfl⟩ := trodAll_nil r3
  obtain rfl : args = #[v0, v1, v2, v3] := by cases args; simp_all
  obtain ⟨rfl, rfl⟩ := trodVars_none hV
  obtain ⟨a0, rfl, rfl, rfl, w0⟩ := open_int Try.underlying3 (hval 0 3 v0 rfl rfl) h0
  obtain ⟨a1, rfl, rfl, rfl, w1⟩ := open_int Try.underlying3 (hval 1 3 v1 rfl rfl) h1
  have lt2 : ∀ x ∈ p2, x.block < W.heap.size := by obtain ⟨m, hm⟩ := h2; exact DataW.trod_lt m _ _ _ hm
  obtain ⟨xs2, g2⟩ := opn.ints_of_trod Try.underlying22 Try.underlying3 (by kernel_rfl) (hval 2 22 v2 rfl rfl) h2
  have lt3 : ∀ x ∈ p3, x.block < W.heap.size := by obtain ⟨m, hm⟩ := h3; exact DataW.trod_lt m _ _ _ hm
  obtain ⟨xs3, g3⟩ := opn.ints_of_trod Try.underlying22 Try.underlying3 (by kernel_rfl) (hval 3 22 v3 rfl rfl) h3
  clear hA0 hval0
  refine (walk a0 a1 v2 xs2 v3 xs3 W w0 w1 g2 g3).mono fun e W' ⟨he, bel⟩ => ?_
  subst he
  exact ⟨_, rfl, _, _, _, [], _, [], hW', trodAll_mk1 (shut_bool Try.underlying4 _), (trodAll_cons_mk (shut_int Try.underlying3 w0) (trodAll_cons_mk (shut_int Try.underlying3 w1) (trodAll_cons_mk (Below.trod laidOut (by kernel_rfl) (of_decide_eq_true (by kernel_rfl)) h2 bel lt2) (trodAll_cons_mk (Below.trod laidOut (by kernel_rfl) (of_decide_eq_true (by kernel_rfl)) h3 bel lt3) trodAll_mk0)))), rfl, bel.frame _, fun h => by cases h⟩

theorem over : Rows.fnExactFlipPlayRow.holds Try.pinned (OpenSpec.ofChange Rows.fnExactFlipPlaySpec) :=
  OpenClaim.holds_of_wide 3 Try.f3 rfl rfl rfl rfl rfl rfl rfl ⟨rfl, rfl, rfl, rfl, rfl⟩ rfl rfl rfl rfl rfl (by kernel_rfl) Try.func3 (by kernel_rfl)
    (of_decide_eq_true (by kernel_rfl)) (by unfold Func.isWrapper; first | (rw [if_pos (by decide +kernel)]; kernel_rfl) | (rw [if_neg (by decide +kernel)]; exact ⟨rfl, rfl⟩))
    (fun os started H enc _ => lifted os started H enc)

theorem proved : Rows.FnExactFlipPlaySaid := over
#print axioms proved
end Go.Proofs.Ytknpcajignhifaa.lawFlipPlay
