/- Proved here: for all arguments, the law FnExactTrioOf returns true: the program's function answers as its model in every field, leaves its arguments as they were, and its answer owns its memory. Conditions: none beyond the row. -/
import Derived.Test.YtomofmmecpdalaaTri
import Derived.Test.YtomofmmecpdalaaTtf
import Derived.Test.YtomofmmecpdalaaOpen
import Derived.Test.YtomofmmecpdalaaRows
import Derived.Deep.RegionHeld3
namespace Go.Proofs.Ytomofmmecpdalaa.lawTrioOf
open Go.ChangeShapes Go.WideShapes Go.ChangeAt Go.RowKit Go.Deep Go.Proofs.Ytomofmmecpdalaa.base
open Go.ChangeMaps (open_string shut_string)

set_option maxRecDepth 100000 in
set_option maxHeartbeats 4000000 in
theorem walk (v0 : Value) (xs0 : List Int) (a1 : Int) (w : World) (h0 : Ints w v0 xs0) (_f1 : (Lit.int .i64 a1).wf = true) :
    Calls Try.prog 5 #[v0, .int .i64 a1] w fun e w' => e = .returned (.bool true) ∧ Below w.heap.size w w' := by
  obtain ⟨va0, vc0, hv0⟩ : ∃ A c, v0 = .slice A xs0.length c := by obtain ⟨A, c, hv, _⟩ := h0; exact ⟨A, c, by rw [hv, len_i64s]⟩
  subst hv0
  have H0 := Lib.hid h0
  clear h0
  by_cases hs0 : 1048576 < (xs0.length : Int)
  · skip
    go_enter Try.func5, Try.ntmps5
    have BE0 := Lib.hid (Below.refl w.heap.size w)
    go_wp2_with fail
    go_ret
    exact ⟨rfl, BE0.out⟩
  have hn0 : xs0.length ≤ 1048576 := by omega
  go_enter Try.func5, Try.ntmps5
  have BE0 := Lib.hid (Below.refl w.heap.size w)
  go_wp2_with fail
  refine (ints.to_any _ xs0 _ (H0.out.below BE0.out) hn0).mono ?_
  rintro e wc1 ⟨us0, rfl, hu, hb⟩
  obtain ⟨s0a, s0n, s0c, rfl⟩ := hu.ints.shape
  have BE2 := Lib.hid (below_tr BE0.out hb)
  have ZZ2 : Hid (w.heap.size ≤ wc1.heap.size) := Lib.hid (by have := (hb).size; simpa using this)
  clear BE0
  have OWs0 := Lib.hid (hu.mono (B' := w.heap.size) (by simp) (Nat.le_refl _))
  clear hu hb
  go_wp2_with fail
  refine (ttf.spec_any (.slice s0a s0n s0c) xs0 a1 _ OWs0.out.ints).mono ?_
  rintro e wf3 ⟨uW, rfl, hu, hb⟩
  obtain ⟨Wa, Wn, Wc, rfl⟩ := hu.shape
  have BE4 := Lib.hid (below_tr BE2.out hb)
  have OWs04 := Lib.hid (OWs0.out.keep hb)
  have ZZ4 : Hid (wc1.heap.size ≤ wf3.heap.size) := Lib.hid (by have := (hb).size; simpa using this)
  clear BE2 OWs0
  have VWW := Lib.hid hu
  have HBW := Lib.hid (Below.refl wf3.heap.size wf3)
  clear hu hb
  go_wp2_with fail
  have BE5 := Lib.hid (below_al BE4.out (.cells #[.int .i64 ((ttf.resO xs0 a1).wh), .slice Wa Wn Wc] 27))
  have HBW5 := Lib.hid (below_al HBW.out (.cells #[.int .i64 ((ttf.resO xs0 a1).wh), .slice Wa Wn Wc] 27))
  have OWs05 := Lib.hid (OWs04.out.keep (below_al (Below.refl _ _) (.cells #[.int .i64 ((ttf.resO xs0 a1).wh), .slice Wa Wn Wc] 27)))
  have KBbW5 := Lib.hid (Blk.new wf3 27 #[.int .i64 ((ttf.resO xs0 a1).wh), .slice Wa Wn Wc])
  clear BE4 HBW OWs04
  go_wp2_with fail
  refine (ints.to_any _ xs0 _ (H0.out.below BE5.out) hn0).mono ?_
  rintro e wc6 ⟨ux0, rfl, hu, hb⟩
  obtain ⟨x0a, x0n, x0c, rfl⟩ := hu.ints.shape
  have BE7 := Lib.hid (below_tr BE5.out hb)
  have HBW7 := Lib.hid (below_tr HBW5.out hb)
  have KBbW7 := Lib.hid (KBbW5.out.below hb)
  have ZZ7 : Hid (wf3.heap.size + 1 ≤ wc6.heap.size) := Lib.hid (by have := (hb).size; simpa using this)
  clear BE5 HBW5 KBbW5
  obtain ⟨bWc0, bWc1, bWc2⟩ := tri.two_cells KBbW7.out
  have OWx0 := Lib.hid (hu.mono (B' := wf3.heap.size + 1) (by simp) (Nat.le_refl _))
  clear hu hb
  go_wp2_with fail
  refine (ttf.impl_any (.slice x0a x0n x0c) xs0 a1 _ OWx0.out.ints).mono ?_
  rintro e wf8 ⟨uG, rfl, hu, hb⟩
  obtain ⟨Ga, Gn, Gc, rfl⟩ := hu.rows.shape
  clear bWc0 bWc1 bWc2
  have BE9 := Lib.hid (below_tr BE7.out hb)
  have HBW9 := Lib.hid (below_tr HBW7.out hb)
  have OWx09 := Lib.hid (OWx0.out.keep hb)
  have KBbW9 := Lib.hid (KBbW7.out.below hb)
  have ZZ9 : Hid (wc6.heap.size ≤ wf8.heap.size) := Lib.hid (by have := (hb).size; simpa using this)
  clear BE7 HBW7 OWx0 KBbW7
  obtain ⟨bWc0, bWc1, bWc2⟩ := tri.two_cells KBbW9.out
  have OWG := Lib.hid (hu.mono (B' := wc6.heap.size) (by simp) (Nat.le_refl _))
  clear hu hb
  go_wp2_with fail
  have BE10 := Lib.hid (below_al BE9.out (.cells #[.int .i64 ((ttf.resO xs0 a1).wh), .slice Ga Gn Gc] 27))
  have HBW10 := Lib.hid (below_al HBW9.out (.cells #[.int .i64 ((ttf.resO xs0 a1).wh), .slice Ga Gn Gc] 27))
  have OWx010 := Lib.hid (OWx09.out.keep (below_al (Below.refl _ _) (.cells #[.int .i64 ((ttf.resO xs0 a1).wh), .slice Ga Gn Gc] 27)))
  have OWG10 := Lib.hid (OWG.out.keep (below_al (Below.refl _ _) (.cells #[.int .i64 ((ttf.resO xs0 a1).wh), .slice Ga Gn Gc] 27)))
  have KBbW10 := Lib.hid (KBbW9.out.alloc (.cells #[.int .i64 ((ttf.resO xs0 a1).wh), .slice Ga Gn Gc] 27))
  have KBbG10 := Lib.hid (Blk.new wf8 27 #[.int .i64 ((ttf.resO xs0 a1).wh), .slice Ga Gn Gc])
  clear BE9 HBW9 OWx09 OWG KBbW9
  have tk0 : (((ttf.resO xs0 a1).ok) != ((ttf.resO xs0 a1).ok)) = false := bne_self_eq_false _
  go_wp2_with fail
  refine (tri.eq_same ((ttf.resO xs0 a1).wh) _ _ ((ttf.resO xs0 a1).rows) _ OWG10.out.rows (VWW.out.below HBW10.out) (ttf.tot_resO xs0 a1)).mono ?_
  rintro e we11 ⟨rfl, hb⟩
  clear bWc0 bWc1 bWc2
  have BE12 := Lib.hid (below_tr BE10.out hb)
  have HBW12 := Lib.hid (below_tr HBW10.out hb)
  have OWx012 := Lib.hid (OWx010.out.keep hb)
  have OWG12 := Lib.hid (OWG10.out.keep hb)
  have KBbW12 := Lib.hid (KBbW10.out.below hb)
  have KBbG12 := Lib.hid (KBbG10.out.below hb)
  have ZZ12 : Hid (wf8.heap.size + 1 ≤ we11.heap.size) := Lib.hid (by have := (hb).size; simpa using this)
  clear BE10 HBW10 OWx010 OWG10 KBbW10 KBbG10
  obtain ⟨bWc0, bWc1, bWc2⟩ := tri.two_cells KBbW12.out
  obtain ⟨bGc0, bGc1, bGc2⟩ := tri.two_cells KBbG12.out
  clear hb
  go_wp2_with fail
  go_wp2_with fail
  refine (ints.to_any _ xs0 _ (H0.out.below BE12.out) hn0).mono ?_
  rintro e wc13 ⟨uy0, rfl, hu, hb⟩
  obtain ⟨y0a, y0n, y0c, rfl⟩ := hu.ints.shape
  clear bWc0 bWc1 bWc2 bGc0 bGc1 bGc2
  have BE14 := Lib.hid (below_tr BE12.out hb)
  have HBW14 := Lib.hid (below_tr HBW12.out hb)
  have OWx014 := Lib.hid (OWx012.out.keep hb)
  have OWG14 := Lib.hid (OWG12.out.keep hb)
  have KBbW14 := Lib.hid (KBbW12.out.below hb)
  have KBbG14 := Lib.hid (KBbG12.out.below hb)
  have ZZ14 : Hid (we11.heap.size ≤ wc13.heap.size) := Lib.hid (by have := (hb).size; simpa using this)
  clear BE12 HBW12 OWx012 OWG12 KBbW12 KBbG12
  obtain ⟨bWc0, bWc1, bWc2⟩ := tri.two_cells KBbW14.out
  obtain ⟨bGc0, bGc1, bGc2⟩ := tri.two_cells KBbG14.out
  have OWy0 := Lib.hid (hu.mono (B' := we11.heap.size) (by simp) (Nat.le_refl _))
  clear hu hb
  go_wp2_with fail
  refine (ints.eq_same _ _ xs0 _ OWx014.out.ints OWy0.out.ints hn0).mono ?_
  rintro e we15 ⟨rfl, hb⟩
  clear bWc0 bWc1 bWc2 bGc0 bGc1 bGc2
  have BE16 := Lib.hid (below_tr BE14.out hb)
  have HBW16 := Lib.hid (below_tr HBW14.out hb)
  have OWx016 := Lib.hid (OWx014.out.keep hb)
  have OWG16 := Lib.hid (OWG14.out.keep hb)
  have OWy016 := Lib.hid (OWy0.out.keep hb)
  have KBbW16 := Lib.hid (KBbW14.out.below hb)
  have KBbG16 := Lib.hid (KBbG14.out.below hb)
  have ZZ16 : Hid (wc13.heap.size ≤ we15.heap.size) := Lib.hid (by have := (hb).size; simpa using this)
  clear BE14 HBW14 OWx014 OWG14 OWy0 KBbW14 KBbG14
  obtain ⟨bWc0, bWc1, bWc2⟩ := tri.two_cells KBbW16.out
  obtain ⟨bGc0, bGc1, bGc2⟩ := tri.two_cells KBbG16.out
  clear hb
  clear OWy016
  go_wp2_with fail
  refine (ints.mark_own _ xs0 (1) (wf3.heap.size + 1) (wc6.heap.size) _ OWx016.out hn0 (by omega) (by omega)).mono ?_
  rintro e wm17 ⟨rfl, hi, S, hw, hs⟩
  clear OWx016
  clear bWc0 bWc1 bWc2 bGc0 bGc1 bGc2
  have BE19 := Lib.hid (BE16.out.trans (hw.below (fun p hp => by have := (hs p hp).1; have := ZZ2.out; have := ZZ4.out; have := ZZ7.out; have := ZZ9.out; have := ZZ12.out; have := ZZ14.out; have := ZZ16.out; omega)))
  have HBW19 := Lib.hid (HBW16.out.trans (hw.below (fun p hp => by have := (hs p hp).1; have := ZZ2.out; have := ZZ4.out; have := ZZ7.out; have := ZZ9.out; have := ZZ12.out; have := ZZ14.out; have := ZZ16.out; omega)))
  have OWG19 := Lib.hid (OWG16.out.wrote hw (fun p hp => by have := hs p hp; have := ZZ2.out; have := ZZ4.out; have := ZZ7.out; have := ZZ9.out; have := ZZ12.out; have := ZZ14.out; have := ZZ16.out; omega))
  have KBbW19 := Lib.hid (KBbW16.out.wrote hw (fun p hp e => by have := hs p hp; have := ZZ2.out; have := ZZ4.out; have := ZZ7.out; have := ZZ9.out; have := ZZ12.out; have := ZZ14.out; have := ZZ16.out; omega))
  have KBbG19 := Lib.hid (KBbG16.out.wrote hw (fun p hp e => by have := hs p hp; have := ZZ2.out; have := ZZ4.out; have := ZZ7.out; have := ZZ9.out; have := ZZ12.out; have := ZZ14.out; have := ZZ16.out; omega))
  have ZZ19 : Hid (we15.heap.size ≤ wm17.heap.size) := Lib.hid (by have := hw.size; omega)
  clear BE16 HBW16 OWG16 KBbW16 KBbG16
  obtain ⟨bWc0, bWc1, bWc2⟩ := tri.two_cells KBbW19.out
  obtain ⟨bGc0, bGc1, bGc2⟩ := tri.two_cells KBbG19.out
  clear hw hs
  clear hi
  have dk : decide (1 + (xs0.length : Int) < 0) = false := by simp; omega
  have dk' : ¬ (1 + (xs0.length : Int) < 0) := by omega
  go_wp2_with fail
  refine (tri.eq_same ((ttf.resO xs0 a1).wh) _ _ ((ttf.resO xs0 a1).rows) _ OWG19.out.rows (VWW.out.below HBW19.out) (ttf.tot_resO xs0 a1)).mono ?_
  rintro e we20 ⟨rfl, hb⟩
  clear bWc0 bWc1 bWc2 bGc0 bGc1 bGc2
  have BE21 := Lib.hid (below_tr BE19.out hb)
  have HBW21 := Lib.hid (below_tr HBW19.out hb)
  have OWG21 := Lib.hid (OWG19.out.keep hb)
  have KBbW21 := Lib.hid (KBbW19.out.below hb)
  have KBbG21 := Lib.hid (KBbG19.out.below hb)
  have ZZ21 : Hid (wm17.heap.size ≤ we20.heap.size) := Lib.hid (by have := (hb).size; simpa using this)
  clear BE19 HBW19 OWG19 KBbW19 KBbG19
  obtain ⟨bWc0, bWc1, bWc2⟩ := tri.two_cells KBbW21.out
  obtain ⟨bGc0, bGc1, bGc2⟩ := tri.two_cells KBbG21.out
  clear hb
  have blr := Nat.le_trans (rws.before_le ((ttf.resO xs0 a1).rows) ((ttf.resO xs0 a1).rows).length) (ttf.tot_resO xs0 a1)
  have dq : ¬ (1 + (rws.before ((ttf.resO xs0 a1).rows) ((ttf.resO xs0 a1).rows).length : Int) < 0) := by omega
  have tq : ((1 + (rws.before ((ttf.resO xs0 a1).rows) ((ttf.resO xs0 a1).rows).length : Int)) != (1 + (rws.before ((ttf.resO xs0 a1).rows) ((ttf.resO xs0 a1).rows).length : Int))) = false := bne_self_eq_false _
  go_wp2_with fail
  refine (tri.mark_any ((ttf.resO xs0 a1).wh) _ ((ttf.resO xs0 a1).rows) (1) (wc6.heap.size) (wf8.heap.size) _ OWG21.out (ttf.tot_resO xs0 a1) (by omega) (by omega)).mono ?_
  rintro e wm22 ⟨rfl, hi, S, wl23, hb, hw, hs⟩
  clear OWG21
  clear bWc0 bWc1 bWc2 bGc0 bGc1 bGc2
  have BE24 := Lib.hid (below_tr BE21.out hb)
  have HBW24 := Lib.hid (below_tr HBW21.out hb)
  have KBbW24 := Lib.hid (KBbW21.out.below hb)
  have KBbG24 := Lib.hid (KBbG21.out.below hb)
  have ZZ24 : Hid (we20.heap.size ≤ wl23.heap.size) := Lib.hid (by have := (hb).size; simpa using this)
  clear BE21 HBW21 KBbW21 KBbG21
  obtain ⟨bWc0, bWc1, bWc2⟩ := tri.two_cells KBbW24.out
  obtain ⟨bGc0, bGc1, bGc2⟩ := tri.two_cells KBbG24.out
  clear bWc0 bWc1 bWc2 bGc0 bGc1 bGc2
  have BE25 := Lib.hid (BE24.out.trans (hw.below (fun p hp => by have := (hs p hp).1; have := ZZ2.out; have := ZZ4.out; have := ZZ7.out; have := ZZ9.out; have := ZZ12.out; have := ZZ14.out; have := ZZ16.out; have := ZZ19.out; have := ZZ21.out; have := ZZ24.out; omega)))
  have HBW25 := Lib.hid (HBW24.out.trans (hw.below (fun p hp => by have := (hs p hp).1; have := ZZ2.out; have := ZZ4.out; have := ZZ7.out; have := ZZ9.out; have := ZZ12.out; have := ZZ14.out; have := ZZ16.out; have := ZZ19.out; have := ZZ21.out; have := ZZ24.out; omega)))
  have KBbW25 := Lib.hid (KBbW24.out.wrote hw (fun p hp e => by have := hs p hp; have := ZZ2.out; have := ZZ4.out; have := ZZ7.out; have := ZZ9.out; have := ZZ12.out; have := ZZ14.out; have := ZZ16.out; have := ZZ19.out; have := ZZ21.out; have := ZZ24.out; omega))
  have KBbG25 := Lib.hid (KBbG24.out.wrote hw (fun p hp e => by have := hs p hp; have := ZZ2.out; have := ZZ4.out; have := ZZ7.out; have := ZZ9.out; have := ZZ12.out; have := ZZ14.out; have := ZZ16.out; have := ZZ19.out; have := ZZ21.out; have := ZZ24.out; omega))
  have ZZ25 : Hid (wl23.heap.size ≤ wm22.heap.size) := Lib.hid (by have := hw.size; omega)
  clear BE24 HBW24 KBbW24 KBbG24
  obtain ⟨bWc0, bWc1, bWc2⟩ := tri.two_cells KBbW25.out
  obtain ⟨bGc0, bGc1, bGc2⟩ := tri.two_cells KBbG25.out
  clear hb
  clear hw hs
  have VWM := Lib.hid hi
  have HBM := Lib.hid (Below.refl wm22.heap.size wm22)
  clear hi
  go_wp2_with fail
  refine (tri.held_any ((ttf.resO xs0 a1).wh) _ ((ttf.resO xs0 a1).rows) 1 _ (VWM.out.below HBM.out) (ttf.tot_resO xs0 a1) (by omega) (by omega)).mono ?_
  rintro e wh26 ⟨rfl, hb⟩
  clear bWc0 bWc1 bWc2 bGc0 bGc1 bGc2
  have BE27 := Lib.hid (below_tr BE25.out hb)
  have HBW27 := Lib.hid (below_tr HBW25.out hb)
  have HBM27 := Lib.hid (below_tr HBM.out hb)
  have KBbW27 := Lib.hid (KBbW25.out.below hb)
  have KBbG27 := Lib.hid (KBbG25.out.below hb)
  have ZZ27 : Hid (wm22.heap.size ≤ wh26.heap.size) := Lib.hid (by have := (hb).size; simpa using this)
  clear BE25 HBW25 HBM KBbW25 KBbG25
  obtain ⟨bWc0, bWc1, bWc2⟩ := tri.two_cells KBbW27.out
  obtain ⟨bGc0, bGc1, bGc2⟩ := tri.two_cells KBbG27.out
  clear hb
  go_wp2_with fail
  refine (ints.to_any _ xs0 _ (H0.out.below BE27.out) hn0).mono ?_
  rintro e wc28 ⟨uz0, rfl, hu, hb⟩
  obtain ⟨z0a, z0n, z0c, rfl⟩ := hu.ints.shape
  clear bWc0 bWc1 bWc2 bGc0 bGc1 bGc2
  have BE29 := Lib.hid (below_tr BE27.out hb)
  have HBW29 := Lib.hid (below_tr HBW27.out hb)
  have HBM29 := Lib.hid (below_tr HBM27.out hb)
  have KBbW29 := Lib.hid (KBbW27.out.below hb)
  have KBbG29 := Lib.hid (KBbG27.out.below hb)
  have ZZ29 : Hid (wh26.heap.size ≤ wc28.heap.size) := Lib.hid (by have := (hb).size; simpa using this)
  clear BE27 HBW27 HBM27 KBbW27 KBbG27
  obtain ⟨bWc0, bWc1, bWc2⟩ := tri.two_cells KBbW29.out
  obtain ⟨bGc0, bGc1, bGc2⟩ := tri.two_cells KBbG29.out
  have OWz0 := Lib.hid (hu.mono (B' := wh26.heap.size) (by simp) (Nat.le_refl _))
  clear hu hb
  go_wp2_with fail
  refine (ttf.impl_any (.slice z0a z0n z0c) xs0 a1 _ OWz0.out.ints).mono ?_
  rintro e wf30 ⟨uHh, rfl, hu, hb⟩
  obtain ⟨Hha, Hhn, Hhc, rfl⟩ := hu.rows.shape
  clear bWc0 bWc1 bWc2 bGc0 bGc1 bGc2
  have BE31 := Lib.hid (below_tr BE29.out hb)
  have HBW31 := Lib.hid (below_tr HBW29.out hb)
  have HBM31 := Lib.hid (below_tr HBM29.out hb)
  have OWz031 := Lib.hid (OWz0.out.keep hb)
  have KBbW31 := Lib.hid (KBbW29.out.below hb)
  have KBbG31 := Lib.hid (KBbG29.out.below hb)
  have ZZ31 : Hid (wc28.heap.size ≤ wf30.heap.size) := Lib.hid (by have := (hb).size; simpa using this)
  clear BE29 HBW29 HBM29 OWz0 KBbW29 KBbG29
  obtain ⟨bWc0, bWc1, bWc2⟩ := tri.two_cells KBbW31.out
  obtain ⟨bGc0, bGc1, bGc2⟩ := tri.two_cells KBbG31.out
  have OWHh := Lib.hid (hu.mono (B' := wc28.heap.size) (by simp) (Nat.le_refl _))
  clear hu hb
  go_wp2_with fail
  have BE32 := Lib.hid (below_al BE31.out (.cells #[.int .i64 ((ttf.resO xs0 a1).wh), .slice Hha Hhn Hhc] 27))
  have HBW32 := Lib.hid (below_al HBW31.out (.cells #[.int .i64 ((ttf.resO xs0 a1).wh), .slice Hha Hhn Hhc] 27))
  have HBM32 := Lib.hid (below_al HBM31.out (.cells #[.int .i64 ((ttf.resO xs0 a1).wh), .slice Hha Hhn Hhc] 27))
  have OWz032 := Lib.hid (OWz031.out.keep (below_al (Below.refl _ _) (.cells #[.int .i64 ((ttf.resO xs0 a1).wh), .slice Hha Hhn Hhc] 27)))
  have OWHh32 := Lib.hid (OWHh.out.keep (below_al (Below.refl _ _) (.cells #[.int .i64 ((ttf.resO xs0 a1).wh), .slice Hha Hhn Hhc] 27)))
  have KBbW32 := Lib.hid (KBbW31.out.alloc (.cells #[.int .i64 ((ttf.resO xs0 a1).wh), .slice Hha Hhn Hhc] 27))
  have KBbG32 := Lib.hid (KBbG31.out.alloc (.cells #[.int .i64 ((ttf.resO xs0 a1).wh), .slice Hha Hhn Hhc] 27))
  have KBbHh32 := Lib.hid (Blk.new wf30 27 #[.int .i64 ((ttf.resO xs0 a1).wh), .slice Hha Hhn Hhc])
  clear BE31 HBW31 HBM31 OWz031 OWHh KBbW31 KBbG31
  clear OWz032
  go_wp2_with fail
  refine (tri.eq_same ((ttf.resO xs0 a1).wh) _ _ ((ttf.resO xs0 a1).rows) _ OWHh32.out.rows (VWW.out.below HBW32.out) (ttf.tot_resO xs0 a1)).mono ?_
  rintro e we33 ⟨rfl, hb⟩
  clear bWc0 bWc1 bWc2 bGc0 bGc1 bGc2
  have BE34 := Lib.hid (below_tr BE32.out hb)
  have HBW34 := Lib.hid (below_tr HBW32.out hb)
  have HBM34 := Lib.hid (below_tr HBM32.out hb)
  have OWHh34 := Lib.hid (OWHh32.out.keep hb)
  have KBbW34 := Lib.hid (KBbW32.out.below hb)
  have KBbG34 := Lib.hid (KBbG32.out.below hb)
  have KBbHh34 := Lib.hid (KBbHh32.out.below hb)
  have ZZ34 : Hid (wf30.heap.size + 1 ≤ we33.heap.size) := Lib.hid (by have := (hb).size; simpa using this)
  clear BE32 HBW32 HBM32 OWHh32 KBbW32 KBbG32 KBbHh32
  obtain ⟨bWc0, bWc1, bWc2⟩ := tri.two_cells KBbW34.out
  obtain ⟨bGc0, bGc1, bGc2⟩ := tri.two_cells KBbG34.out
  obtain ⟨bHhc0, bHhc1, bHhc2⟩ := tri.two_cells KBbHh34.out
  clear hb
  go_wp2_with fail
  refine (tri.held_any ((ttf.resO xs0 a1).wh) _ ((ttf.resO xs0 a1).rows) 1 _ (VWM.out.below HBM34.out) (ttf.tot_resO xs0 a1) (by omega) (by omega)).mono ?_
  rintro e wh35 ⟨rfl, hb⟩
  clear bWc0 bWc1 bWc2 bGc0 bGc1 bGc2 bHhc0 bHhc1 bHhc2
  have BE36 := Lib.hid (below_tr BE34.out hb)
  have HBW36 := Lib.hid (below_tr HBW34.out hb)
  have HBM36 := Lib.hid (below_tr HBM34.out hb)
  have OWHh36 := Lib.hid (OWHh34.out.keep hb)
  have KBbW36 := Lib.hid (KBbW34.out.below hb)
  have KBbG36 := Lib.hid (KBbG34.out.below hb)
  have KBbHh36 := Lib.hid (KBbHh34.out.below hb)
  have ZZ36 : Hid (we33.heap.size ≤ wh35.heap.size) := Lib.hid (by have := (hb).size; simpa using this)
  clear BE34 HBW34 HBM34 OWHh34 KBbW34 KBbG34 KBbHh34
  obtain ⟨bWc0, bWc1, bWc2⟩ := tri.two_cells KBbW36.out
  obtain ⟨bGc0, bGc1, bGc2⟩ := tri.two_cells KBbG36.out
  obtain ⟨bHhc0, bHhc1, bHhc2⟩ := tri.two_cells KBbHh36.out
  clear hb
  go_wp2_with fail
  go_ret
  exact ⟨rfl, BE36.out⟩

/-! ### the frame of the row -/
theorem own : ownKnob Try.prog.godebug = none := by kernel_rfl
theorem laidOut : laidOutB Try.prog = true := by kernel_rfl
set_option maxRecDepth 100000 in
theorem lifted (os : Os) (started : os.Started) (H : Type) (enc : TypeId × Value → H) :
    ReturnsInHanded {} Try.checked os 5 .any (Rows.fnExactTrioOfSpec.pre6 enc Try.prog Try.f5 Rows.fnExactTrioOfRow.domain false) (Rows.fnExactTrioOfSpec.post enc Try.prog Try.f5 false true false false) := by
  refine returnsInHanded_of_change (C := Try.checked) own started (by kernel_rfl) Try.func5
    (ChangeSpec.witness6 (enc := enc) (C := Try.checked) false ⟨#[], #[.slice none 0 0, .int .i64 0], []⟩ 8 (by kernel_rfl) (by kernel_rfl) (by kernel_rfl) (by kernel_rfl)) ?_
  intro W base args ds gs before hval0 hW _ _
  have hval : ∀ (j : Nat) t v, Try.f5.params[j]? = some t → args[j]? = some v → Value.okWide Try.prog W .any base t v := hval0
  have hW' := hW
  obtain ⟨p, q, hA0, hV, rfl, hfz, hnd⟩ := hW
  have hA : DataW.TrodAll enc Try.prog W 0 (fun _ => true) true Try.f5.params.toList args.toList ds p := hA0
  rw [Try.params5] at hA hval
  obtain ⟨v0, vs0, d0, ds0, p0, q0, hargs, rfl, rfl, h0, r0⟩ := trodAll_cons hA
  obtain ⟨v1, vs1, d1, ds1, p1, q1, rfl, rfl, rfl, h1, r1⟩ := trodAll_cons r0
  obtain ⟨rfl, rfl, rfl⟩ := trodAll_nil r1
  obtain rfl : args = #[v0, v1] := by cases args; simp_all
  obtain ⟨rfl, rfl⟩ := trodVars_none hV
  have lt0 : ∀ x ∈ p0, x.block < W.heap.size := by obtain ⟨m, hm⟩ := h0; exact DataW.trod_lt m _ _ _ hm
  obtain ⟨xs0, g0⟩ := opn.ints_of_trod Try.underlying33 Try.underlying3 (by kernel_rfl) (hval 0 33 v0 rfl rfl) h0
  obtain ⟨a1, rfl, rfl, rfl, w1⟩ := open_int Try.underlying3 (hval 1 3 v1 rfl rfl) h1
  clear hA0 hval0
  refine (walk v0 xs0 a1 W g0 w1).mono fun e W' ⟨he, bel⟩ => ?_
  subst he
  exact ⟨_, rfl, _, _, _, [], _, [], hW', trodAll_mk1 (shut_bool Try.underlying4 _), (trodAll_cons_mk (Below.trod laidOut (by kernel_rfl) (of_decide_eq_true (by kernel_rfl)) h0 bel lt0) (trodAll_cons_mk (shut_int Try.underlying3 w1) trodAll_mk0)), rfl, bel.frame _, fun h => by cases h⟩

theorem over : Rows.fnExactTrioOfRow.holds Try.pinned (OpenSpec.ofChange Rows.fnExactTrioOfSpec) :=
  OpenClaim.holds_of_wide 5 Try.f5 rfl rfl rfl rfl rfl rfl rfl ⟨rfl, rfl, rfl, rfl, rfl⟩ rfl rfl rfl rfl rfl (by kernel_rfl) Try.func5 (by kernel_rfl)
    (of_decide_eq_true (by kernel_rfl)) (by unfold Func.isWrapper; first | (rw [if_pos (by decide +kernel)]; kernel_rfl) | (rw [if_neg (by decide +kernel)]; exact ⟨rfl, rfl⟩))
    (fun os started H enc _ => lifted os started H enc)

theorem proved : Rows.FnExactTrioOfSaid := over
#print axioms proved
end Go.Proofs.Ytomofmmecpdalaa.lawTrioOf
