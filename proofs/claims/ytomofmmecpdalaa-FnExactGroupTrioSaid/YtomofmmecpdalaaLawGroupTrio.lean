/- Proved here: for all arguments, the law FnExactGroupTrio returns true: the program's function answers as its model in every field, leaves its arguments as they were, and its answer owns its memory. Conditions: none beyond the row. -/
import Derived.Test.YtomofmmecpdalaaTri
import Derived.Test.YtomofmmecpdalaaTgf
import Derived.Test.YtomofmmecpdalaaTgm
import Derived.Test.YtomofmmecpdalaaOpen
import Derived.Test.YtomofmmecpdalaaRows
import Derived.Deep.RegionHeld3
namespace Go.Proofs.Ytomofmmecpdalaa.lawGroupTrio
open Go.ChangeShapes Go.WideShapes Go.ChangeAt Go.RowKit Go.Deep Go.Proofs.Ytomofmmecpdalaa.base
open Go.ChangeMaps (open_string shut_string)

set_option maxRecDepth 100000 in
set_option maxHeartbeats 4000000 in
theorem walk (a0 : Int) (v1 : Value) (xs1 : List Int) (v2 : Value) (xs2 : List Int) (a3 : Int) (w : World) (_f0 : (Lit.int .i64 a0).wf = true) (h1 : Ints w v1 xs1) (h2 : Ints w v2 xs2) (_f3 : (Lit.int .i64 a3).wf = true) :
    Calls Try.prog 6 #[.int .i64 a0, v1, v2, .int .i64 a3] w fun e w' => e = .returned (.bool true) ∧ Below w.heap.size w w' := by
  obtain ⟨va1, vc1, hv1⟩ : ∃ A c, v1 = .slice A xs1.length c := by obtain ⟨A, c, hv, _⟩ := h1; exact ⟨A, c, by rw [hv, len_i64s]⟩
  subst hv1
  obtain ⟨va2, vc2, hv2⟩ : ∃ A c, v2 = .slice A xs2.length c := by obtain ⟨A, c, hv, _⟩ := h2; exact ⟨A, c, by rw [hv, len_i64s]⟩
  subst hv2
  have H1 := Lib.hid h1
  have H2 := Lib.hid h2
  clear h1 h2
  by_cases hs1 : 1048576 < (xs1.length : Int)
  · skip
    go_enter Try.func6, Try.ntmps6
    have BE0 := Lib.hid (Below.refl w.heap.size w)
    go_wp2_with fail
    go_ret
    exact ⟨rfl, BE0.out⟩
  have hn1 : xs1.length ≤ 1048576 := by omega
  by_cases hs2 : 1048576 < (xs2.length : Int)
  · skip
    go_enter Try.func6, Try.ntmps6
    have BE0 := Lib.hid (Below.refl w.heap.size w)
    go_wp2_with fail
    go_ret
    exact ⟨rfl, BE0.out⟩
  have hn2 : xs2.length ≤ 1048576 := by omega
  go_enter Try.func6, Try.ntmps6
  have BE0 := Lib.hid (Below.refl w.heap.size w)
  go_wp2_with fail
  refine (ints.to_any _ xs1 _ (H1.out.below BE0.out) hn1).mono ?_
  rintro e wc1 ⟨us1, rfl, hu, hb⟩
  obtain ⟨s1a, s1n, s1c, rfl⟩ := hu.ints.shape
  have BE2 := Lib.hid (below_tr BE0.out hb)
  have ZZ2 : Hid (w.heap.size ≤ wc1.heap.size) := Lib.hid (by have := (hb).size; simpa using this)
  clear BE0
  have OWs1 := Lib.hid (hu.mono (B' := w.heap.size) (by simp) (Nat.le_refl _))
  clear hu hb
  go_wp2_with fail
  refine (ints.to_any _ xs2 _ (H2.out.below BE2.out) hn2).mono ?_
  rintro e wc3 ⟨us2, rfl, hu, hb⟩
  obtain ⟨s2a, s2n, s2c, rfl⟩ := hu.ints.shape
  have BE4 := Lib.hid (below_tr BE2.out hb)
  have OWs14 := Lib.hid (OWs1.out.keep hb)
  have ZZ4 : Hid (wc1.heap.size ≤ wc3.heap.size) := Lib.hid (by have := (hb).size; simpa using this)
  clear BE2 OWs1
  have OWs2 := Lib.hid (hu.mono (B' := wc1.heap.size) (by simp) (Nat.le_refl _))
  clear hu hb
  go_wp2_with fail
  refine (tgm.spec_any a0 (.slice s1a s1n s1c) (.slice s2a s2n s2c) xs1 xs2 a3 _ OWs14.out.ints OWs2.out.ints).mono ?_
  rintro e wf5 ⟨uW, rfl, hu, hb⟩
  obtain ⟨Wa, Wn, Wc, rfl⟩ := hu.shape
  have BE6 := Lib.hid (below_tr BE4.out hb)
  have OWs16 := Lib.hid (OWs14.out.keep hb)
  have OWs26 := Lib.hid (OWs2.out.keep hb)
  have ZZ6 : Hid (wc3.heap.size ≤ wf5.heap.size) := Lib.hid (by have := (hb).size; simpa using this)
  clear BE4 OWs14 OWs2
  have VWW := Lib.hid hu
  have HBW := Lib.hid (Below.refl wf5.heap.size wf5)
  clear hu hb
  go_wp2_with fail
  have BE7 := Lib.hid (below_al BE6.out (.cells #[.int .i64 ((tgf.resG a0 xs1 xs2 a3).wh), .slice Wa Wn Wc] 27))
  have HBW7 := Lib.hid (below_al HBW.out (.cells #[.int .i64 ((tgf.resG a0 xs1 xs2 a3).wh), .slice Wa Wn Wc] 27))
  have OWs17 := Lib.hid (OWs16.out.keep (below_al (Below.refl _ _) (.cells #[.int .i64 ((tgf.resG a0 xs1 xs2 a3).wh), .slice Wa Wn Wc] 27)))
  have OWs27 := Lib.hid (OWs26.out.keep (below_al (Below.refl _ _) (.cells #[.int .i64 ((tgf.resG a0 xs1 xs2 a3).wh), .slice Wa Wn Wc] 27)))
  have KBbW7 := Lib.hid (Blk.new wf5 27 #[.int .i64 ((tgf.resG a0 xs1 xs2 a3).wh), .slice Wa Wn Wc])
  clear BE6 HBW OWs16 OWs26
  go_wp2_with fail
  refine (ints.to_any _ xs1 _ (H1.out.below BE7.out) hn1).mono ?_
  rintro e wc8 ⟨ux1, rfl, hu, hb⟩
  obtain ⟨x1a, x1n, x1c, rfl⟩ := hu.ints.shape
  have BE9 := Lib.hid (below_tr BE7.out hb)
  have HBW9 := Lib.hid (below_tr HBW7.out hb)
  have KBbW9 := Lib.hid (KBbW7.out.below hb)
  have ZZ9 : Hid (wf5.heap.size + 1 ≤ wc8.heap.size) := Lib.hid (by have := (hb).size; simpa using this)
  clear BE7 HBW7 KBbW7
  obtain ⟨bWc0, bWc1, bWc2⟩ := tri.two_cells KBbW9.out
  have OWx1 := Lib.hid (hu.mono (B' := wf5.heap.size + 1) (by simp) (Nat.le_refl _))
  clear hu hb
  go_wp2_with fail
  refine (ints.to_any _ xs2 _ (H2.out.below BE9.out) hn2).mono ?_
  rintro e wc10 ⟨ux2, rfl, hu, hb⟩
  obtain ⟨x2a, x2n, x2c, rfl⟩ := hu.ints.shape
  clear bWc0 bWc1 bWc2
  have BE11 := Lib.hid (below_tr BE9.out hb)
  have HBW11 := Lib.hid (below_tr HBW9.out hb)
  have OWx111 := Lib.hid (OWx1.out.keep hb)
  have KBbW11 := Lib.hid (KBbW9.out.below hb)
  have ZZ11 : Hid (wc8.heap.size ≤ wc10.heap.size) := Lib.hid (by have := (hb).size; simpa using this)
  clear BE9 HBW9 OWx1 KBbW9
  obtain ⟨bWc0, bWc1, bWc2⟩ := tri.two_cells KBbW11.out
  have OWx2 := Lib.hid (hu.mono (B' := wc8.heap.size) (by simp) (Nat.le_refl _))
  clear hu hb
  go_wp2_with fail
  refine (tgf.impl_any a0 (.slice x1a x1n x1c) (.slice x2a x2n x2c) xs1 xs2 a3 _ OWx111.out.ints OWx2.out.ints).mono ?_
  rintro e wf12 ⟨uG, rfl, hu, hb⟩
  obtain ⟨Ga, Gn, Gc, rfl⟩ := hu.rows.shape
  clear bWc0 bWc1 bWc2
  have BE13 := Lib.hid (below_tr BE11.out hb)
  have HBW13 := Lib.hid (below_tr HBW11.out hb)
  have OWx113 := Lib.hid (OWx111.out.keep hb)
  have OWx213 := Lib.hid (OWx2.out.keep hb)
  have KBbW13 := Lib.hid (KBbW11.out.below hb)
  have ZZ13 : Hid (wc10.heap.size ≤ wf12.heap.size) := Lib.hid (by have := (hb).size; simpa using this)
  clear BE11 HBW11 OWx111 OWx2 KBbW11
  obtain ⟨bWc0, bWc1, bWc2⟩ := tri.two_cells KBbW13.out
  have OWG := Lib.hid (hu.mono (B' := wc10.heap.size) (by simp) (Nat.le_refl _))
  clear hu hb
  go_wp2_with fail
  have BE14 := Lib.hid (below_al BE13.out (.cells #[.int .i64 ((tgf.resG a0 xs1 xs2 a3).wh), .slice Ga Gn Gc] 27))
  have HBW14 := Lib.hid (below_al HBW13.out (.cells #[.int .i64 ((tgf.resG a0 xs1 xs2 a3).wh), .slice Ga Gn Gc] 27))
  have OWx114 := Lib.hid (OWx113.out.keep (below_al (Below.refl _ _) (.cells #[.int .i64 ((tgf.resG a0 xs1 xs2 a3).wh), .slice Ga Gn Gc] 27)))
  have OWx214 := Lib.hid (OWx213.out.keep (below_al (Below.refl _ _) (.cells #[.int .i64 ((tgf.resG a0 xs1 xs2 a3).wh), .slice Ga Gn Gc] 27)))
  have OWG14 := Lib.hid (OWG.out.keep (below_al (Below.refl _ _) (.cells #[.int .i64 ((tgf.resG a0 xs1 xs2 a3).wh), .slice Ga Gn Gc] 27)))
  have KBbW14 := Lib.hid (KBbW13.out.alloc (.cells #[.int .i64 ((tgf.resG a0 xs1 xs2 a3).wh), .slice Ga Gn Gc] 27))
  have KBbG14 := Lib.hid (Blk.new wf12 27 #[.int .i64 ((tgf.resG a0 xs1 xs2 a3).wh), .slice Ga Gn Gc])
  clear BE13 HBW13 OWx113 OWx213 OWG KBbW13
  have tk0 : (((tgf.resG a0 xs1 xs2 a3).ok) != ((tgf.resG a0 xs1 xs2 a3).ok)) = false := bne_self_eq_false _
  go_wp2_with fail
  refine (tri.eq_same ((tgf.resG a0 xs1 xs2 a3).wh) _ _ ((tgf.resG a0 xs1 xs2 a3).rows) _ OWG14.out.rows (VWW.out.below HBW14.out) (tgf.tot_resG a0 xs1 xs2 a3)).mono ?_
  rintro e we15 ⟨rfl, hb⟩
  clear bWc0 bWc1 bWc2
  have BE16 := Lib.hid (below_tr BE14.out hb)
  have HBW16 := Lib.hid (below_tr HBW14.out hb)
  have OWx116 := Lib.hid (OWx114.out.keep hb)
  have OWx216 := Lib.hid (OWx214.out.keep hb)
  have OWG16 := Lib.hid (OWG14.out.keep hb)
  have KBbW16 := Lib.hid (KBbW14.out.below hb)
  have KBbG16 := Lib.hid (KBbG14.out.below hb)
  have ZZ16 : Hid (wf12.heap.size + 1 ≤ we15.heap.size) := Lib.hid (by have := (hb).size; simpa using this)
  clear BE14 HBW14 OWx114 OWx214 OWG14 KBbW14 KBbG14
  obtain ⟨bWc0, bWc1, bWc2⟩ := tri.two_cells KBbW16.out
  obtain ⟨bGc0, bGc1, bGc2⟩ := tri.two_cells KBbG16.out
  clear hb
  go_wp2_with fail
  go_wp2_with fail
  refine (ints.to_any _ xs1 _ (H1.out.below BE16.out) hn1).mono ?_
  rintro e wc17 ⟨uy1, rfl, hu, hb⟩
  obtain ⟨y1a, y1n, y1c, rfl⟩ := hu.ints.shape
  clear bWc0 bWc1 bWc2 bGc0 bGc1 bGc2
  have BE18 := Lib.hid (below_tr BE16.out hb)
  have HBW18 := Lib.hid (below_tr HBW16.out hb)
  have OWx118 := Lib.hid (OWx116.out.keep hb)
  have OWx218 := Lib.hid (OWx216.out.keep hb)
  have OWG18 := Lib.hid (OWG16.out.keep hb)
  have KBbW18 := Lib.hid (KBbW16.out.below hb)
  have KBbG18 := Lib.hid (KBbG16.out.below hb)
  have ZZ18 : Hid (we15.heap.size ≤ wc17.heap.size) := Lib.hid (by have := (hb).size; simpa using this)
  clear BE16 HBW16 OWx116 OWx216 OWG16 KBbW16 KBbG16
  obtain ⟨bWc0, bWc1, bWc2⟩ := tri.two_cells KBbW18.out
  obtain ⟨bGc0, bGc1, bGc2⟩ := tri.two_cells KBbG18.out
  have OWy1 := Lib.hid (hu.mono (B' := we15.heap.size) (by simp) (Nat.le_refl _))
  clear hu hb
  go_wp2_with fail
  refine (ints.eq_same _ _ xs1 _ OWx118.out.ints OWy1.out.ints hn1).mono ?_
  rintro e we19 ⟨rfl, hb⟩
  clear bWc0 bWc1 bWc2 bGc0 bGc1 bGc2
  have BE20 := Lib.hid (below_tr BE18.out hb)
  have HBW20 := Lib.hid (below_tr HBW18.out hb)
  have OWx120 := Lib.hid (OWx118.out.keep hb)
  have OWx220 := Lib.hid (OWx218.out.keep hb)
  have OWG20 := Lib.hid (OWG18.out.keep hb)
  have OWy120 := Lib.hid (OWy1.out.keep hb)
  have KBbW20 := Lib.hid (KBbW18.out.below hb)
  have KBbG20 := Lib.hid (KBbG18.out.below hb)
  have ZZ20 : Hid (wc17.heap.size ≤ we19.heap.size) := Lib.hid (by have := (hb).size; simpa using this)
  clear BE18 HBW18 OWx118 OWx218 OWG18 OWy1 KBbW18 KBbG18
  obtain ⟨bWc0, bWc1, bWc2⟩ := tri.two_cells KBbW20.out
  obtain ⟨bGc0, bGc1, bGc2⟩ := tri.two_cells KBbG20.out
  clear hb
  clear OWy120
  go_wp2_with fail
  go_wp2_with fail
  refine (ints.to_any _ xs2 _ (H2.out.below BE20.out) hn2).mono ?_
  rintro e wc21 ⟨uy2, rfl, hu, hb⟩
  obtain ⟨y2a, y2n, y2c, rfl⟩ := hu.ints.shape
  clear bWc0 bWc1 bWc2 bGc0 bGc1 bGc2
  have BE22 := Lib.hid (below_tr BE20.out hb)
  have HBW22 := Lib.hid (below_tr HBW20.out hb)
  have OWx122 := Lib.hid (OWx120.out.keep hb)
  have OWx222 := Lib.hid (OWx220.out.keep hb)
  have OWG22 := Lib.hid (OWG20.out.keep hb)
  have KBbW22 := Lib.hid (KBbW20.out.below hb)
  have KBbG22 := Lib.hid (KBbG20.out.below hb)
  have ZZ22 : Hid (we19.heap.size ≤ wc21.heap.size) := Lib.hid (by have := (hb).size; simpa using this)
  clear BE20 HBW20 OWx120 OWx220 OWG20 KBbW20 KBbG20
  obtain ⟨bWc0, bWc1, bWc2⟩ := tri.two_cells KBbW22.out
  obtain ⟨bGc0, bGc1, bGc2⟩ := tri.two_cells KBbG22.out
  have OWy2 := Lib.hid (hu.mono (B' := we19.heap.size) (by simp) (Nat.le_refl _))
  clear hu hb
  go_wp2_with fail
  refine (ints.eq_same _ _ xs2 _ OWx222.out.ints OWy2.out.ints hn2).mono ?_
  rintro e we23 ⟨rfl, hb⟩
  clear bWc0 bWc1 bWc2 bGc0 bGc1 bGc2
  have BE24 := Lib.hid (below_tr BE22.out hb)
  have HBW24 := Lib.hid (below_tr HBW22.out hb)
  have OWx124 := Lib.hid (OWx122.out.keep hb)
  have OWx224 := Lib.hid (OWx222.out.keep hb)
  have OWG24 := Lib.hid (OWG22.out.keep hb)
  have OWy224 := Lib.hid (OWy2.out.keep hb)
  have KBbW24 := Lib.hid (KBbW22.out.below hb)
  have KBbG24 := Lib.hid (KBbG22.out.below hb)
  have ZZ24 : Hid (wc21.heap.size ≤ we23.heap.size) := Lib.hid (by have := (hb).size; simpa using this)
  clear BE22 HBW22 OWx122 OWx222 OWG22 OWy2 KBbW22 KBbG22
  obtain ⟨bWc0, bWc1, bWc2⟩ := tri.two_cells KBbW24.out
  obtain ⟨bGc0, bGc1, bGc2⟩ := tri.two_cells KBbG24.out
  clear hb
  clear OWy224
  go_wp2_with fail
  refine (ints.mark_own _ xs1 (1) (wf5.heap.size + 1) (wc8.heap.size) _ OWx124.out hn1 (by omega) (by omega)).mono ?_
  rintro e wm25 ⟨rfl, hi, S, hw, hs⟩
  clear OWx124
  clear bWc0 bWc1 bWc2 bGc0 bGc1 bGc2
  have BE27 := Lib.hid (BE24.out.trans (hw.below (fun p hp => by have := (hs p hp).1; have := ZZ2.out; have := ZZ4.out; have := ZZ6.out; have := ZZ9.out; have := ZZ11.out; have := ZZ13.out; have := ZZ16.out; have := ZZ18.out; have := ZZ20.out; have := ZZ22.out; have := ZZ24.out; omega)))
  have HBW27 := Lib.hid (HBW24.out.trans (hw.below (fun p hp => by have := (hs p hp).1; have := ZZ2.out; have := ZZ4.out; have := ZZ6.out; have := ZZ9.out; have := ZZ11.out; have := ZZ13.out; have := ZZ16.out; have := ZZ18.out; have := ZZ20.out; have := ZZ22.out; have := ZZ24.out; omega)))
  have OWx227 := Lib.hid (OWx224.out.wrote hw (fun p hp => by have := hs p hp; have := ZZ2.out; have := ZZ4.out; have := ZZ6.out; have := ZZ9.out; have := ZZ11.out; have := ZZ13.out; have := ZZ16.out; have := ZZ18.out; have := ZZ20.out; have := ZZ22.out; have := ZZ24.out; omega))
  have OWG27 := Lib.hid (OWG24.out.wrote hw (fun p hp => by have := hs p hp; have := ZZ2.out; have := ZZ4.out; have := ZZ6.out; have := ZZ9.out; have := ZZ11.out; have := ZZ13.out; have := ZZ16.out; have := ZZ18.out; have := ZZ20.out; have := ZZ22.out; have := ZZ24.out; omega))
  have KBbW27 := Lib.hid (KBbW24.out.wrote hw (fun p hp e => by have := hs p hp; have := ZZ2.out; have := ZZ4.out; have := ZZ6.out; have := ZZ9.out; have := ZZ11.out; have := ZZ13.out; have := ZZ16.out; have := ZZ18.out; have := ZZ20.out; have := ZZ22.out; have := ZZ24.out; omega))
  have KBbG27 := Lib.hid (KBbG24.out.wrote hw (fun p hp e => by have := hs p hp; have := ZZ2.out; have := ZZ4.out; have := ZZ6.out; have := ZZ9.out; have := ZZ11.out; have := ZZ13.out; have := ZZ16.out; have := ZZ18.out; have := ZZ20.out; have := ZZ22.out; have := ZZ24.out; omega))
  have ZZ27 : Hid (we23.heap.size ≤ wm25.heap.size) := Lib.hid (by have := hw.size; omega)
  clear BE24 HBW24 OWx224 OWG24 KBbW24 KBbG24
  obtain ⟨bWc0, bWc1, bWc2⟩ := tri.two_cells KBbW27.out
  obtain ⟨bGc0, bGc1, bGc2⟩ := tri.two_cells KBbG27.out
  clear hw hs
  clear hi
  go_wp2_with fail
  refine (ints.mark_own _ xs2 (1 + (xs1.length : Int)) (wc8.heap.size) (wc10.heap.size) _ OWx227.out hn2 (by omega) (by omega)).mono ?_
  rintro e wm28 ⟨rfl, hi, S, hw, hs⟩
  clear OWx227
  clear bWc0 bWc1 bWc2 bGc0 bGc1 bGc2
  have BE30 := Lib.hid (BE27.out.trans (hw.below (fun p hp => by have := (hs p hp).1; have := ZZ2.out; have := ZZ4.out; have := ZZ6.out; have := ZZ9.out; have := ZZ11.out; have := ZZ13.out; have := ZZ16.out; have := ZZ18.out; have := ZZ20.out; have := ZZ22.out; have := ZZ24.out; have := ZZ27.out; omega)))
  have HBW30 := Lib.hid (HBW27.out.trans (hw.below (fun p hp => by have := (hs p hp).1; have := ZZ2.out; have := ZZ4.out; have := ZZ6.out; have := ZZ9.out; have := ZZ11.out; have := ZZ13.out; have := ZZ16.out; have := ZZ18.out; have := ZZ20.out; have := ZZ22.out; have := ZZ24.out; have := ZZ27.out; omega)))
  have OWG30 := Lib.hid (OWG27.out.wrote hw (fun p hp => by have := hs p hp; have := ZZ2.out; have := ZZ4.out; have := ZZ6.out; have := ZZ9.out; have := ZZ11.out; have := ZZ13.out; have := ZZ16.out; have := ZZ18.out; have := ZZ20.out; have := ZZ22.out; have := ZZ24.out; have := ZZ27.out; omega))
  have KBbW30 := Lib.hid (KBbW27.out.wrote hw (fun p hp e => by have := hs p hp; have := ZZ2.out; have := ZZ4.out; have := ZZ6.out; have := ZZ9.out; have := ZZ11.out; have := ZZ13.out; have := ZZ16.out; have := ZZ18.out; have := ZZ20.out; have := ZZ22.out; have := ZZ24.out; have := ZZ27.out; omega))
  have KBbG30 := Lib.hid (KBbG27.out.wrote hw (fun p hp e => by have := hs p hp; have := ZZ2.out; have := ZZ4.out; have := ZZ6.out; have := ZZ9.out; have := ZZ11.out; have := ZZ13.out; have := ZZ16.out; have := ZZ18.out; have := ZZ20.out; have := ZZ22.out; have := ZZ24.out; have := ZZ27.out; omega))
  have ZZ30 : Hid (wm25.heap.size ≤ wm28.heap.size) := Lib.hid (by have := hw.size; omega)
  clear BE27 HBW27 OWG27 KBbW27 KBbG27
  obtain ⟨bWc0, bWc1, bWc2⟩ := tri.two_cells KBbW30.out
  obtain ⟨bGc0, bGc1, bGc2⟩ := tri.two_cells KBbG30.out
  clear hw hs
  clear hi
  have dk : decide (1 + (xs1.length : Int) + (xs2.length : Int) < 0) = false := by simp; omega
  have dk' : ¬ (1 + (xs1.length : Int) + (xs2.length : Int) < 0) := by omega
  go_wp2_with fail
  refine (tri.eq_same ((tgf.resG a0 xs1 xs2 a3).wh) _ _ ((tgf.resG a0 xs1 xs2 a3).rows) _ OWG30.out.rows (VWW.out.below HBW30.out) (tgf.tot_resG a0 xs1 xs2 a3)).mono ?_
  rintro e we31 ⟨rfl, hb⟩
  clear bWc0 bWc1 bWc2 bGc0 bGc1 bGc2
  have BE32 := Lib.hid (below_tr BE30.out hb)
  have HBW32 := Lib.hid (below_tr HBW30.out hb)
  have OWG32 := Lib.hid (OWG30.out.keep hb)
  have KBbW32 := Lib.hid (KBbW30.out.below hb)
  have KBbG32 := Lib.hid (KBbG30.out.below hb)
  have ZZ32 : Hid (wm28.heap.size ≤ we31.heap.size) := Lib.hid (by have := (hb).size; simpa using this)
  clear BE30 HBW30 OWG30 KBbW30 KBbG30
  obtain ⟨bWc0, bWc1, bWc2⟩ := tri.two_cells KBbW32.out
  obtain ⟨bGc0, bGc1, bGc2⟩ := tri.two_cells KBbG32.out
  clear hb
  have blr := Nat.le_trans (rws.before_le ((tgf.resG a0 xs1 xs2 a3).rows) ((tgf.resG a0 xs1 xs2 a3).rows).length) (tgf.tot_resG a0 xs1 xs2 a3)
  have dq : ¬ (1 + (rws.before ((tgf.resG a0 xs1 xs2 a3).rows) ((tgf.resG a0 xs1 xs2 a3).rows).length : Int) < 0) := by omega
  have tq : ((1 + (rws.before ((tgf.resG a0 xs1 xs2 a3).rows) ((tgf.resG a0 xs1 xs2 a3).rows).length : Int)) != (1 + (rws.before ((tgf.resG a0 xs1 xs2 a3).rows) ((tgf.resG a0 xs1 xs2 a3).rows).length : Int))) = false := bne_self_eq_false _
  go_wp2_with fail
  refine (tri.mark_any ((tgf.resG a0 xs1 xs2 a3).wh) _ ((tgf.resG a0 xs1 xs2 a3).rows) (1) (wc10.heap.size) (wf12.heap.size) _ OWG32.out (tgf.tot_resG a0 xs1 xs2 a3) (by omega) (by omega)).mono ?_
  rintro e wm33 ⟨rfl, hi, S, wl34, hb, hw, hs⟩
  clear OWG32
  clear bWc0 bWc1 bWc2 bGc0 bGc1 bGc2
  have BE35 := Lib.hid (below_tr BE32.out hb)
  have HBW35 := Lib.hid (below_tr HBW32.out hb)
  have KBbW35 := Lib.hid (KBbW32.out.below hb)
  have KBbG35 := Lib.hid (KBbG32.out.below hb)
  have ZZ35 : Hid (we31.heap.size ≤ wl34.heap.size) := Lib.hid (by have := (hb).size; simpa using this)
  clear BE32 HBW32 KBbW32 KBbG32
  obtain ⟨bWc0, bWc1, bWc2⟩ := tri.two_cells KBbW35.out
  obtain ⟨bGc0, bGc1, bGc2⟩ := tri.two_cells KBbG35.out
  clear bWc0 bWc1 bWc2 bGc0 bGc1 bGc2
  have BE36 := Lib.hid (BE35.out.trans (hw.below (fun p hp => by have := (hs p hp).1; have := ZZ2.out; have := ZZ4.out; have := ZZ6.out; have := ZZ9.out; have := ZZ11.out; have := ZZ13.out; have := ZZ16.out; have := ZZ18.out; have := ZZ20.out; have := ZZ22.out; have := ZZ24.out; have := ZZ27.out; have := ZZ30.out; have := ZZ32.out; have := ZZ35.out; omega)))
  have HBW36 := Lib.hid (HBW35.out.trans (hw.below (fun p hp => by have := (hs p hp).1; have := ZZ2.out; have := ZZ4.out; have := ZZ6.out; have := ZZ9.out; have := ZZ11.out; have := ZZ13.out; have := ZZ16.out; have := ZZ18.out; have := ZZ20.out; have := ZZ22.out; have := ZZ24.out; have := ZZ27.out; have := ZZ30.out; have := ZZ32.out; have := ZZ35.out; omega)))
  have KBbW36 := Lib.hid (KBbW35.out.wrote hw (fun p hp e => by have := hs p hp; have := ZZ2.out; have := ZZ4.out; have := ZZ6.out; have := ZZ9.out; have := ZZ11.out; have := ZZ13.out; have := ZZ16.out; have := ZZ18.out; have := ZZ20.out; have := ZZ22.out; have := ZZ24.out; have := ZZ27.out; have := ZZ30.out; have := ZZ32.out; have := ZZ35.out; omega))
  have KBbG36 := Lib.hid (KBbG35.out.wrote hw (fun p hp e => by have := hs p hp; have := ZZ2.out; have := ZZ4.out; have := ZZ6.out; have := ZZ9.out; have := ZZ11.out; have := ZZ13.out; have := ZZ16.out; have := ZZ18.out; have := ZZ20.out; have := ZZ22.out; have := ZZ24.out; have := ZZ27.out; have := ZZ30.out; have := ZZ32.out; have := ZZ35.out; omega))
  have ZZ36 : Hid (wl34.heap.size ≤ wm33.heap.size) := Lib.hid (by have := hw.size; omega)
  clear BE35 HBW35 KBbW35 KBbG35
  obtain ⟨bWc0, bWc1, bWc2⟩ := tri.two_cells KBbW36.out
  obtain ⟨bGc0, bGc1, bGc2⟩ := tri.two_cells KBbG36.out
  clear hb
  clear hw hs
  have VWM := Lib.hid hi
  have HBM := Lib.hid (Below.refl wm33.heap.size wm33)
  clear hi
  go_wp2_with fail
  refine (tri.held_any ((tgf.resG a0 xs1 xs2 a3).wh) _ ((tgf.resG a0 xs1 xs2 a3).rows) 1 _ (VWM.out.below HBM.out) (tgf.tot_resG a0 xs1 xs2 a3) (by omega) (by omega)).mono ?_
  rintro e wh37 ⟨rfl, hb⟩
  clear bWc0 bWc1 bWc2 bGc0 bGc1 bGc2
  have BE38 := Lib.hid (below_tr BE36.out hb)
  have HBW38 := Lib.hid (below_tr HBW36.out hb)
  have HBM38 := Lib.hid (below_tr HBM.out hb)
  have KBbW38 := Lib.hid (KBbW36.out.below hb)
  have KBbG38 := Lib.hid (KBbG36.out.below hb)
  have ZZ38 : Hid (wm33.heap.size ≤ wh37.heap.size) := Lib.hid (by have := (hb).size; simpa using this)
  clear BE36 HBW36 HBM KBbW36 KBbG36
  obtain ⟨bWc0, bWc1, bWc2⟩ := tri.two_cells KBbW38.out
  obtain ⟨bGc0, bGc1, bGc2⟩ := tri.two_cells KBbG38.out
  clear hb
  go_wp2_with fail
  refine (ints.to_any _ xs1 _ (H1.out.below BE38.out) hn1).mono ?_
  rintro e wc39 ⟨uz1, rfl, hu, hb⟩
  obtain ⟨z1a, z1n, z1c, rfl⟩ := hu.ints.shape
  clear bWc0 bWc1 bWc2 bGc0 bGc1 bGc2
  have BE40 := Lib.hid (below_tr BE38.out hb)
  have HBW40 := Lib.hid (below_tr HBW38.out hb)
  have HBM40 := Lib.hid (below_tr HBM38.out hb)
  have KBbW40 := Lib.hid (KBbW38.out.below hb)
  have KBbG40 := Lib.hid (KBbG38.out.below hb)
  have ZZ40 : Hid (wh37.heap.size ≤ wc39.heap.size) := Lib.hid (by have := (hb).size; simpa using this)
  clear BE38 HBW38 HBM38 KBbW38 KBbG38
  obtain ⟨bWc0, bWc1, bWc2⟩ := tri.two_cells KBbW40.out
  obtain ⟨bGc0, bGc1, bGc2⟩ := tri.two_cells KBbG40.out
  have OWz1 := Lib.hid (hu.mono (B' := wh37.heap.size) (by simp) (Nat.le_refl _))
  clear hu hb
  go_wp2_with fail
  refine (ints.to_any _ xs2 _ (H2.out.below BE40.out) hn2).mono ?_
  rintro e wc41 ⟨uz2, rfl, hu, hb⟩
  obtain ⟨z2a, z2n, z2c, rfl⟩ := hu.ints.shape
  clear bWc0 bWc1 bWc2 bGc0 bGc1 bGc2
  have BE42 := Lib.hid (below_tr BE40.out hb)
  have HBW42 := Lib.hid (below_tr HBW40.out hb)
  have HBM42 := Lib.hid (below_tr HBM40.out hb)
  have OWz142 := Lib.hid (OWz1.out.keep hb)
  have KBbW42 := Lib.hid (KBbW40.out.below hb)
  have KBbG42 := Lib.hid (KBbG40.out.below hb)
  have ZZ42 : Hid (wc39.heap.size ≤ wc41.heap.size) := Lib.hid (by have := (hb).size; simpa using this)
  clear BE40 HBW40 HBM40 OWz1 KBbW40 KBbG40
  obtain ⟨bWc0, bWc1, bWc2⟩ := tri.two_cells KBbW42.out
  obtain ⟨bGc0, bGc1, bGc2⟩ := tri.two_cells KBbG42.out
  have OWz2 := Lib.hid (hu.mono (B' := wc39.heap.size) (by simp) (Nat.le_refl _))
  clear hu hb
  go_wp2_with fail
  refine (tgf.impl_any a0 (.slice z1a z1n z1c) (.slice z2a z2n z2c) xs1 xs2 a3 _ OWz142.out.ints OWz2.out.ints).mono ?_
  rintro e wf43 ⟨uHh, rfl, hu, hb⟩
  obtain ⟨Hha, Hhn, Hhc, rfl⟩ := hu.rows.shape
  clear bWc0 bWc1 bWc2 bGc0 bGc1 bGc2
  have BE44 := Lib.hid (below_tr BE42.out hb)
  have HBW44 := Lib.hid (below_tr HBW42.out hb)
  have HBM44 := Lib.hid (below_tr HBM42.out hb)
  have OWz144 := Lib.hid (OWz142.out.keep hb)
  have OWz244 := Lib.hid (OWz2.out.keep hb)
  have KBbW44 := Lib.hid (KBbW42.out.below hb)
  have KBbG44 := Lib.hid (KBbG42.out.below hb)
  have ZZ44 : Hid (wc41.heap.size ≤ wf43.heap.size) := Lib.hid (by have := (hb).size; simpa using this)
  clear BE42 HBW42 HBM42 OWz142 OWz2 KBbW42 KBbG42
  obtain ⟨bWc0, bWc1, bWc2⟩ := tri.two_cells KBbW44.out
  obtain ⟨bGc0, bGc1, bGc2⟩ := tri.two_cells KBbG44.out
  have OWHh := Lib.hid (hu.mono (B' := wc41.heap.size) (by simp) (Nat.le_refl _))
  clear hu hb
  go_wp2_with fail
  have BE45 := Lib.hid (below_al BE44.out (.cells #[.int .i64 ((tgf.resG a0 xs1 xs2 a3).wh), .slice Hha Hhn Hhc] 27))
  have HBW45 := Lib.hid (below_al HBW44.out (.cells #[.int .i64 ((tgf.resG a0 xs1 xs2 a3).wh), .slice Hha Hhn Hhc] 27))
  have HBM45 := Lib.hid (below_al HBM44.out (.cells #[.int .i64 ((tgf.resG a0 xs1 xs2 a3).wh), .slice Hha Hhn Hhc] 27))
  have OWz145 := Lib.hid (OWz144.out.keep (below_al (Below.refl _ _) (.cells #[.int .i64 ((tgf.resG a0 xs1 xs2 a3).wh), .slice Hha Hhn Hhc] 27)))
  have OWz245 := Lib.hid (OWz244.out.keep (below_al (Below.refl _ _) (.cells #[.int .i64 ((tgf.resG a0 xs1 xs2 a3).wh), .slice Hha Hhn Hhc] 27)))
  have OWHh45 := Lib.hid (OWHh.out.keep (below_al (Below.refl _ _) (.cells #[.int .i64 ((tgf.resG a0 xs1 xs2 a3).wh), .slice Hha Hhn Hhc] 27)))
  have KBbW45 := Lib.hid (KBbW44.out.alloc (.cells #[.int .i64 ((tgf.resG a0 xs1 xs2 a3).wh), .slice Hha Hhn Hhc] 27))
  have KBbG45 := Lib.hid (KBbG44.out.alloc (.cells #[.int .i64 ((tgf.resG a0 xs1 xs2 a3).wh), .slice Hha Hhn Hhc] 27))
  have KBbHh45 := Lib.hid (Blk.new wf43 27 #[.int .i64 ((tgf.resG a0 xs1 xs2 a3).wh), .slice Hha Hhn Hhc])
  clear BE44 HBW44 HBM44 OWz144 OWz244 OWHh KBbW44 KBbG44
  clear OWz145
  clear OWz245
  go_wp2_with fail
  refine (tri.eq_same ((tgf.resG a0 xs1 xs2 a3).wh) _ _ ((tgf.resG a0 xs1 xs2 a3).rows) _ OWHh45.out.rows (VWW.out.below HBW45.out) (tgf.tot_resG a0 xs1 xs2 a3)).mono ?_
  rintro e we46 ⟨rfl, hb⟩
  clear bWc0 bWc1 bWc2 bGc0 bGc1 bGc2
  have BE47 := Lib.hid (below_tr BE45.out hb)
  have HBW47 := Lib.hid (below_tr HBW45.out hb)
  have HBM47 := Lib.hid (below_tr HBM45.out hb)
  have OWHh47 := Lib.hid (OWHh45.out.keep hb)
  have KBbW47 := Lib.hid (KBbW45.out.below hb)
  have KBbG47 := Lib.hid (KBbG45.out.below hb)
  have KBbHh47 := Lib.hid (KBbHh45.out.below hb)
  have ZZ47 : Hid (wf43.heap.size + 1 ≤ we46.heap.size) := Lib.hid (by have := (hb).size; simpa using this)
  clear BE45 HBW45 HBM45 OWHh45 KBbW45 KBbG45 KBbHh45
  obtain ⟨bWc0, bWc1, bWc2⟩ := tri.two_cells KBbW47.out
  obtain ⟨bGc0, bGc1, bGc2⟩ := tri.two_cells KBbG47.out
  obtain ⟨bHhc0, bHhc1, bHhc2⟩ := tri.two_cells KBbHh47.out
  clear hb
  go_wp2_with fail
  refine (tri.held_any ((tgf.resG a0 xs1 xs2 a3).wh) _ ((tgf.resG a0 xs1 xs2 a3).rows) 1 _ (VWM.out.below HBM47.out) (tgf.tot_resG a0 xs1 xs2 a3) (by omega) (by omega)).mono ?_
  rintro e wh48 ⟨rfl, hb⟩
  clear bWc0 bWc1 bWc2 bGc0 bGc1 bGc2 bHhc0 bHhc1 bHhc2
  have BE49 := Lib.hid (below_tr BE47.out hb)
  have HBW49 := Lib.hid (below_tr HBW47.out hb)
  have HBM49 := Lib.hid (below_tr HBM47.out hb)
  have OWHh49 := Lib.hid (OWHh47.out.keep hb)
  have KBbW49 := Lib.hid (KBbW47.out.below hb)
  have KBbG49 := Lib.hid (KBbG47.out.below hb)
  have KBbHh49 := Lib.hid (KBbHh47.out.below hb)
  have ZZ49 : Hid (we46.heap.size ≤ wh48.heap.size) := Lib.hid (by have := (hb).size; simpa using this)
  clear BE47 HBW47 HBM47 OWHh47 KBbW47 KBbG47 KBbHh47
  obtain ⟨bWc0, bWc1, bWc2⟩ := tri.two_cells KBbW49.out
  obtain ⟨bGc0, bGc1, bGc2⟩ := tri.two_cells KBbG49.out
  obtain ⟨bHhc0, bHhc1, bHhc2⟩ := tri.two_cells KBbHh49.out
  clear hb
  go_wp2_with fail
  go_ret
  exact ⟨rfl, BE49.out⟩

/-! ### the frame of the row -/
theorem own : ownKnob Try.prog.godebug = none := by kernel_rfl
theorem laidOut : laidOutB Try.prog = true := by kernel_rfl
set_option maxRecDepth 100000 in
theorem lifted (os : Os) (started : os.Started) (H : Type) (enc : TypeId × Value → H) :
    ReturnsInHanded {} Try.checked os 6 .any (Rows.fnExactGroupTrioSpec.pre6 enc Try.prog Try.f6 Rows.fnExactGroupTrioRow.domain false) (Rows.fnExactGroupTrioSpec.post enc Try.prog Try.f6 false true false false) := by
  refine returnsInHanded_of_change (C := Try.checked) own started (by kernel_rfl) Try.func6
    (ChangeSpec.witness6 (enc := enc) (C := Try.checked) false ⟨#[], #[.int .i64 0, .slice none 0 0, .slice none 0 0, .int .i64 0], []⟩ 8 (by kernel_rfl) (by kernel_rfl) (by kernel_rfl) (by kernel_rfl)) ?_
  intro W base args ds gs before hval0 hW _ _
  have hval : ∀ (j : Nat) t v, Try.f6.params[j]? = some t → args[j]? = some v → Value.okWide Try.prog W .any base t v := hval0
  have hW' := hW
  obtain ⟨p, q, hA0, hV, rfl, hfz, hnd⟩ := hW
  have hA : DataW.TrodAll enc Try.prog W 0 (fun _ => true) true Try.f6.params.toList args.toList ds p := hA0
  rw [Try.params6] at hA hval
  obtain ⟨v0, vs0, d0, ds0, p0, q0, hargs, rfl, rfl, h0, r0⟩ := trodAll_cons hA
  obtain ⟨v1, vs1, d1, ds1, p1, q1, rfl, rfl, rfl, h1, r1⟩ := trodAll_cons r0
  obtain ⟨v2, vs2, d2, ds2, p2, q2, rfl, rfl, rfl, h2, r2⟩ := trodAll_cons r1
  obtain ⟨v3, vs3, d3, ds3, p3, q3, rfl, rfl, rfl, h3, r3⟩ := trodAll_cons r2
  obtain ⟨rfl, rfl, rfl⟩ := trodAll_nil r3
  obtain rfl : args = #[v0, v1, v2, v3] := by cases args; simp_all
  obtain ⟨rfl, rfl⟩ := trodVars_none hV
  obtain ⟨a0, rfl, rfl, rfl, w0⟩ := open_int Try.underlying3 (hval 0 3 v0 rfl rfl) h0
  have lt1 : ∀ x ∈ p1, x.block < W.heap.size := by obtain ⟨m, hm⟩ := h1; exact DataW.trod_lt m _ _ _ hm
  obtain ⟨xs1, g1⟩ := opn.ints_of_trod Try.underlying33 Try.underlying3 (by kernel_rfl) (hval 1 33 v1 rfl rfl) h1
  have lt2 : ∀ x ∈ p2, x.block < W.heap.size := by obtain ⟨m, hm⟩ := h2; exact DataW.trod_lt m _ _ _ hm
  obtain ⟨xs2, g2⟩ := opn.ints_of_trod Try.underlying33 Try.underlying3 (by kernel_rfl) (hval 2 33 v2 rfl rfl) h2
  obtain ⟨a3, rfl, rfl, rfl, w3⟩ := open_int Try.underlying3 (hval 3 3 v3 rfl rfl) h3
  clear hA0 hval0
  refine (walk a0 v1 xs1 v2 xs2 a3 W w0 g1 g2 w3).mono fun e W' ⟨he, bel⟩ => ?_
  subst he
  exact ⟨_, rfl, _, _, _, [], _, [], hW', trodAll_mk1 (shut_bool Try.underlying4 _), (trodAll_cons_mk (shut_int Try.underlying3 w0) (trodAll_cons_mk (Below.trod laidOut (by kernel_rfl) (of_decide_eq_true (by kernel_rfl)) h1 bel lt1) (trodAll_cons_mk (Below.trod laidOut (by kernel_rfl) (of_decide_eq_true (by kernel_rfl)) h2 bel lt2) (trodAll_cons_mk (shut_int Try.underlying3 w3) trodAll_mk0)))), rfl, bel.frame _, fun h => by cases h⟩

theorem over : Rows.fnExactGroupTrioRow.holds Try.pinned (OpenSpec.ofChange Rows.fnExactGroupTrioSpec) :=
  OpenClaim.holds_of_wide 6 Try.f6 rfl rfl rfl rfl rfl rfl rfl ⟨rfl, rfl, rfl, rfl, rfl⟩ rfl rfl rfl rfl rfl (by kernel_rfl) Try.func6 (by kernel_rfl)
    (of_decide_eq_true (by kernel_rfl)) (by unfold Func.isWrapper; first | (rw [if_pos (by decide +kernel)]; kernel_rfl) | (rw [if_neg (by decide +kernel)]; exact ⟨rfl, rfl⟩))
    (fun os started H enc _ => lifted os started H enc)

theorem proved : Rows.FnExactGroupTrioSaid := over
#print axioms proved
end Go.Proofs.Ytomofmmecpdalaa.lawGroupTrio
