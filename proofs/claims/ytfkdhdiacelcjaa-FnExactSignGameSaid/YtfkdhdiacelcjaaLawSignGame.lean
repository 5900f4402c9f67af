/- Proved here: for all arguments, the law FnExactSignGame returns true: the program's function answers as its model in every field, leaves its arguments as they were, and its answer owns its memory. Conditions: none beyond the row. -/
import Derived.Test.YtfkdhdiacelcjaaGame
import Derived.Test.YtfkdhdiacelcjaaGsgs
import Derived.Test.YtfkdhdiacelcjaaOpeng
import Derived.Test.YtfkdhdiacelcjaaRows
import Derived.Deep.RegionHeld3
namespace Go.Proofs.Ytfkdhdiacelcjaa.lawSignGame
open Go.ChangeShapes Go.WideShapes Go.ChangeAt Go.RowKit Go.Deep Go.Proofs.Ytfkdhdiacelcjaa.base
open Go.ChangeMaps (open_string shut_string)

set_option maxRecDepth 100000 in
set_option maxHeartbeats 4000000 in
theorem walk (a0 : Int) (a1 : Int) (v2 : Value) (xs2 : List Int) (v3 : Value) (xs3 : List Int) (w : World) (_f0 : (Lit.int .i64 a0).wf = true) (_f1 : (Lit.int .i64 a1).wf = true) (h2 : Ints w v2 xs2) (h3 : Ints w v3 xs3) :
    Calls Try.prog 3 #[.int .i64 a0, .int .i64 a1, v2, v3] w fun e w' => e = .returned (.bool true) ∧ Below w.heap.size w w' := by
  obtain ⟨va2, vc2, hv2⟩ : ∃ A c, v2 = .slice A xs2.length c := by obtain ⟨A, c, hv, _⟩ := h2; exact ⟨A, c, by rw [hv, len_i64s]⟩
  subst hv2
  obtain ⟨va3, vc3, hv3⟩ : ∃ A c, v3 = .slice A xs3.length c := by obtain ⟨A, c, hv, _⟩ := h3; exact ⟨A, c, by rw [hv, len_i64s]⟩
  subst hv3
  have H2 := Lib.hid h2
  have H3 := Lib.hid h3
  clear h2 h3
  by_cases hs2 : 1048576 < (xs2.length : Int)
  · skip
    go_enter Try.func3, Try.ntmps3
    have BE0 := Lib.hid (Below.refl w.heap.size w)
    go_wp2_with fail
    go_ret
    exact ⟨rfl, BE0.out⟩
  have hn2 : xs2.length ≤ 1048576 := by omega
  by_cases hs3 : 1048576 < (xs3.length : Int)
  · skip
    go_enter Try.func3, Try.ntmps3
    have BE0 := Lib.hid (Below.refl w.heap.size w)
    go_wp2_with fail
    go_ret
    exact ⟨rfl, BE0.out⟩
  have hn3 : xs3.length ≤ 1048576 := by omega
  go_enter Try.func3, Try.ntmps3
  have BE0 := Lib.hid (Below.refl w.heap.size w)
  go_wp2_with fail
  refine (ints.to_any _ xs2 _ (H2.out.below BE0.out) hn2).mono ?_
  rintro e wc1 ⟨us2, rfl, hu, hb⟩
  obtain ⟨s2a, s2n, s2c, rfl⟩ := hu.ints.shape
  have BE2 := Lib.hid (below_tr BE0.out hb)
  have ZZ2 : Hid (w.heap.size ≤ wc1.heap.size) := Lib.hid (by have := (hb).size; simpa using this)
  clear BE0
  have OWs2 := Lib.hid (hu.mono (B' := w.heap.size) (by simp) (Nat.le_refl _))
  clear hu hb
  go_wp2_with fail
  refine (ints.to_any _ xs3 _ (H3.out.below BE2.out) hn3).mono ?_
  rintro e wc3 ⟨us3, rfl, hu, hb⟩
  obtain ⟨s3a, s3n, s3c, rfl⟩ := hu.ints.shape
  have BE4 := Lib.hid (below_tr BE2.out hb)
  have OWs24 := Lib.hid (OWs2.out.keep hb)
  have ZZ4 : Hid (wc1.heap.size ≤ wc3.heap.size) := Lib.hid (by have := (hb).size; simpa using this)
  clear BE2 OWs2
  have OWs3 := Lib.hid (hu.mono (B' := wc1.heap.size) (by simp) (Nat.le_refl _))
  clear hu hb
  go_wp2_with fail
  refine (gsign.spec_any a0 a1 (.slice s2a s2n s2c) xs2 (.slice s3a s3n s3c) xs3 _ OWs24.out.ints OWs3.out.ints hn2).mono ?_
  rintro e wf5 ⟨vW, uW, rfl, hu, hb⟩
  obtain ⟨Wa, Wn, Wc, Wd, Wm, We, rfl, rfl⟩ := hu.shape
  have BE6 := Lib.hid (below_tr BE4.out hb)
  have OWs26 := Lib.hid (OWs24.out.keep hb)
  have OWs36 := Lib.hid (OWs3.out.keep hb)
  have ZZ6 : Hid (wc3.heap.size ≤ wf5.heap.size) := Lib.hid (by have := (hb).size; simpa using this)
  clear BE4 OWs24 OWs3
  have VWW := Lib.hid hu
  have HBW := Lib.hid (Below.refl wf5.heap.size wf5)
  clear hu hb
  go_wp2_with fail
  have BE7 := Lib.hid (below_al BE6.out (.cells #[.int .i64 ((gsign.res a0 a1 xs2 xs3).x), .int .i64 ((gsign.res a0 a1 xs2 xs3).y), .slice Wa Wn Wc, .slice Wd Wm We] 25))
  have HBW7 := Lib.hid (below_al HBW.out (.cells #[.int .i64 ((gsign.res a0 a1 xs2 xs3).x), .int .i64 ((gsign.res a0 a1 xs2 xs3).y), .slice Wa Wn Wc, .slice Wd Wm We] 25))
  have OWs27 := Lib.hid (OWs26.out.keep (below_al (Below.refl _ _) (.cells #[.int .i64 ((gsign.res a0 a1 xs2 xs3).x), .int .i64 ((gsign.res a0 a1 xs2 xs3).y), .slice Wa Wn Wc, .slice Wd Wm We] 25)))
  have OWs37 := Lib.hid (OWs36.out.keep (below_al (Below.refl _ _) (.cells #[.int .i64 ((gsign.res a0 a1 xs2 xs3).x), .int .i64 ((gsign.res a0 a1 xs2 xs3).y), .slice Wa Wn Wc, .slice Wd Wm We] 25)))
  have KBbW7 := Lib.hid (Blk.new wf5 25 #[.int .i64 ((gsign.res a0 a1 xs2 xs3).x), .int .i64 ((gsign.res a0 a1 xs2 xs3).y), .slice Wa Wn Wc, .slice Wd Wm We])
  clear BE6 HBW OWs26 OWs36
  go_wp2_with fail
  refine (ints.to_any _ xs2 _ (H2.out.below BE7.out) hn2).mono ?_
  rintro e wc8 ⟨ux2, rfl, hu, hb⟩
  obtain ⟨x2a, x2n, x2c, rfl⟩ := hu.ints.shape
  have BE9 := Lib.hid (below_tr BE7.out hb)
  have HBW9 := Lib.hid (below_tr HBW7.out hb)
  have KBbW9 := Lib.hid (KBbW7.out.below hb)
  have ZZ9 : Hid (wf5.heap.size + 1 ≤ wc8.heap.size) := Lib.hid (by have := (hb).size; simpa using this)
  clear BE7 HBW7 KBbW7
  obtain ⟨bWc0, bWc1, bWc2, bWc3, bWc4⟩ := four_cells KBbW9.out
  have OWx2 := Lib.hid (hu.mono (B' := wf5.heap.size + 1) (by simp) (Nat.le_refl _))
  clear hu hb
  go_wp2_with fail
  refine (ints.to_any _ xs3 _ (H3.out.below BE9.out) hn3).mono ?_
  rintro e wc10 ⟨ux3, rfl, hu, hb⟩
  obtain ⟨x3a, x3n, x3c, rfl⟩ := hu.ints.shape
  clear bWc0 bWc1 bWc2 bWc3 bWc4
  have BE11 := Lib.hid (below_tr BE9.out hb)
  have HBW11 := Lib.hid (below_tr HBW9.out hb)
  have OWx211 := Lib.hid (OWx2.out.keep hb)
  have KBbW11 := Lib.hid (KBbW9.out.below hb)
  have ZZ11 : Hid (wc8.heap.size ≤ wc10.heap.size) := Lib.hid (by have := (hb).size; simpa using this)
  clear BE9 HBW9 OWx2 KBbW9
  obtain ⟨bWc0, bWc1, bWc2, bWc3, bWc4⟩ := four_cells KBbW11.out
  have OWx3 := Lib.hid (hu.mono (B' := wc8.heap.size) (by simp) (Nat.le_refl _))
  clear hu hb
  go_wp2_with fail
  refine (gsign.impl_any a0 a1 (.slice x2a x2n x2c) xs2 (.slice x3a x3n x3c) xs3 _ OWx211.out.ints OWx3.out.ints hn2).mono ?_
  rintro e wf12 ⟨vG, uG, rfl, hu, hb⟩
  obtain ⟨Ga, Gn, Gc, Gd, Gm, Ge, rfl, rfl⟩ := hu.view.shape
  clear bWc0 bWc1 bWc2 bWc3 bWc4
  have BE13 := Lib.hid (below_tr BE11.out hb)
  have HBW13 := Lib.hid (below_tr HBW11.out hb)
  have OWx213 := Lib.hid (OWx211.out.keep hb)
  have OWx313 := Lib.hid (OWx3.out.keep hb)
  have KBbW13 := Lib.hid (KBbW11.out.below hb)
  have ZZ13 : Hid (wc10.heap.size ≤ wf12.heap.size) := Lib.hid (by have := (hb).size; simpa using this)
  clear BE11 HBW11 OWx211 OWx3 KBbW11
  obtain ⟨bWc0, bWc1, bWc2, bWc3, bWc4⟩ := four_cells KBbW13.out
  have OWG := Lib.hid (hu.mono (B' := wc10.heap.size) (by simp) (Nat.le_refl _))
  clear hu hb
  go_wp2_with fail
  have BE14 := Lib.hid (below_al BE13.out (.cells #[.int .i64 ((gsign.res a0 a1 xs2 xs3).x), .int .i64 ((gsign.res a0 a1 xs2 xs3).y), .slice Ga Gn Gc, .slice Gd Gm Ge] 25))
  have HBW14 := Lib.hid (below_al HBW13.out (.cells #[.int .i64 ((gsign.res a0 a1 xs2 xs3).x), .int .i64 ((gsign.res a0 a1 xs2 xs3).y), .slice Ga Gn Gc, .slice Gd Gm Ge] 25))
  have OWx214 := Lib.hid (OWx213.out.keep (below_al (Below.refl _ _) (.cells #[.int .i64 ((gsign.res a0 a1 xs2 xs3).x), .int .i64 ((gsign.res a0 a1 xs2 xs3).y), .slice Ga Gn Gc, .slice Gd Gm Ge] 25)))
  have OWx314 := Lib.hid (OWx313.out.keep (below_al (Below.refl _ _) (.cells #[.int .i64 ((gsign.res a0 a1 xs2 xs3).x), .int .i64 ((gsign.res a0 a1 xs2 xs3).y), .slice Ga Gn Gc, .slice Gd Gm Ge] 25)))
  have OWG14 := Lib.hid (OWG.out.keep (below_al (Below.refl _ _) (.cells #[.int .i64 ((gsign.res a0 a1 xs2 xs3).x), .int .i64 ((gsign.res a0 a1 xs2 xs3).y), .slice Ga Gn Gc, .slice Gd Gm Ge] 25)))
  have KBbW14 := Lib.hid (KBbW13.out.alloc (.cells #[.int .i64 ((gsign.res a0 a1 xs2 xs3).x), .int .i64 ((gsign.res a0 a1 xs2 xs3).y), .slice Ga Gn Gc, .slice Gd Gm Ge] 25))
  have KBbG14 := Lib.hid (Blk.new wf12 25 #[.int .i64 ((gsign.res a0 a1 xs2 xs3).x), .int .i64 ((gsign.res a0 a1 xs2 xs3).y), .slice Ga Gn Gc, .slice Gd Gm Ge])
  clear BE13 HBW13 OWx213 OWx313 OWG KBbW13
  have tk0 : (((gsign.res a0 a1 xs2 xs3).ok) != ((gsign.res a0 a1 xs2 xs3).ok)) = false := bne_self_eq_false _
  go_wp2_with fail
  refine (game.eq_same ((gsign.res a0 a1 xs2 xs3).x) ((gsign.res a0 a1 xs2 xs3).y) _ _ ((gsign.res a0 a1 xs2 xs3).ws) _ _ ((gsign.res a0 a1 xs2 xs3).rows) _ OWG14.out.view (VWW.out.below HBW14.out) (gsign.len_ws a0 a1 xs2 xs3) (gsign.tot a0 a1 xs2 xs3)).mono ?_
  rintro e we15 ⟨rfl, hb⟩
  clear bWc0 bWc1 bWc2 bWc3 bWc4
  have BE16 := Lib.hid (below_tr BE14.out hb)
  have HBW16 := Lib.hid (below_tr HBW14.out hb)
  have OWx216 := Lib.hid (OWx214.out.keep hb)
  have OWx316 := Lib.hid (OWx314.out.keep hb)
  have OWG16 := Lib.hid (OWG14.out.keep hb)
  have KBbW16 := Lib.hid (KBbW14.out.below hb)
  have KBbG16 := Lib.hid (KBbG14.out.below hb)
  have ZZ16 : Hid (wf12.heap.size + 1 ≤ we15.heap.size) := Lib.hid (by have := (hb).size; simpa using this)
  clear BE14 HBW14 OWx214 OWx314 OWG14 KBbW14 KBbG14
  obtain ⟨bWc0, bWc1, bWc2, bWc3, bWc4⟩ := four_cells KBbW16.out
  obtain ⟨bGc0, bGc1, bGc2, bGc3, bGc4⟩ := four_cells KBbG16.out
  clear hb
  go_wp2_with fail
  go_wp2_with fail
  refine (ints.to_any _ xs2 _ (H2.out.below BE16.out) hn2).mono ?_
  rintro e wc17 ⟨uy2, rfl, hu, hb⟩
  obtain ⟨y2a, y2n, y2c, rfl⟩ := hu.ints.shape
  clear bWc0 bWc1 bWc2 bWc3 bWc4 bGc0 bGc1 bGc2 bGc3 bGc4
  have BE18 := Lib.hid (below_tr BE16.out hb)
  have HBW18 := Lib.hid (below_tr HBW16.out hb)
  have OWx218 := Lib.hid (OWx216.out.keep hb)
  have OWx318 := Lib.hid (OWx316.out.keep hb)
  have OWG18 := Lib.hid (OWG16.out.keep hb)
  have KBbW18 := Lib.hid (KBbW16.out.below hb)
  have KBbG18 := Lib.hid (KBbG16.out.below hb)
  have ZZ18 : Hid (we15.heap.size ≤ wc17.heap.size) := Lib.hid (by have := (hb).size; simpa using this)
  clear BE16 HBW16 OWx216 OWx316 OWG16 KBbW16 KBbG16
  obtain ⟨bWc0, bWc1, bWc2, bWc3, bWc4⟩ := four_cells KBbW18.out
  obtain ⟨bGc0, bGc1, bGc2, bGc3, bGc4⟩ := four_cells KBbG18.out
  have OWy2 := Lib.hid (hu.mono (B' := we15.heap.size) (by simp) (Nat.le_refl _))
  clear hu hb
  go_wp2_with fail
  refine (ints.eq_same _ _ xs2 _ OWx218.out.ints OWy2.out.ints hn2).mono ?_
  rintro e we19 ⟨rfl, hb⟩
  clear bWc0 bWc1 bWc2 bWc3 bWc4 bGc0 bGc1 bGc2 bGc3 bGc4
  have BE20 := Lib.hid (below_tr BE18.out hb)
  have HBW20 := Lib.hid (below_tr HBW18.out hb)
  have OWx220 := Lib.hid (OWx218.out.keep hb)
  have OWx320 := Lib.hid (OWx318.out.keep hb)
  have OWG20 := Lib.hid (OWG18.out.keep hb)
  have OWy220 := Lib.hid (OWy2.out.keep hb)
  have KBbW20 := Lib.hid (KBbW18.out.below hb)
  have KBbG20 := Lib.hid (KBbG18.out.below hb)
  have ZZ20 : Hid (wc17.heap.size ≤ we19.heap.size) := Lib.hid (by have := (hb).size; simpa using this)
  clear BE18 HBW18 OWx218 OWx318 OWG18 OWy2 KBbW18 KBbG18
  obtain ⟨bWc0, bWc1, bWc2, bWc3, bWc4⟩ := four_cells KBbW20.out
  obtain ⟨bGc0, bGc1, bGc2, bGc3, bGc4⟩ := four_cells KBbG20.out
  clear hb
  clear OWy220
  go_wp2_with fail
  go_wp2_with fail
  refine (ints.to_any _ xs3 _ (H3.out.below BE20.out) hn3).mono ?_
  rintro e wc21 ⟨uy3, rfl, hu, hb⟩
  obtain ⟨y3a, y3n, y3c, rfl⟩ := hu.ints.shape
  clear bWc0 bWc1 bWc2 bWc3 bWc4 bGc0 bGc1 bGc2 bGc3 bGc4
  have BE22 := Lib.hid (below_tr BE20.out hb)
  have HBW22 := Lib.hid (below_tr HBW20.out hb)
  have OWx222 := Lib.hid (OWx220.out.keep hb)
  have OWx322 := Lib.hid (OWx320.out.keep hb)
  have OWG22 := Lib.hid (OWG20.out.keep hb)
  have KBbW22 := Lib.hid (KBbW20.out.below hb)
  have KBbG22 := Lib.hid (KBbG20.out.below hb)
  have ZZ22 : Hid (we19.heap.size ≤ wc21.heap.size) := Lib.hid (by have := (hb).size; simpa using this)
  clear BE20 HBW20 OWx220 OWx320 OWG20 KBbW20 KBbG20
  obtain ⟨bWc0, bWc1, bWc2, bWc3, bWc4⟩ := four_cells KBbW22.out
  obtain ⟨bGc0, bGc1, bGc2, bGc3, bGc4⟩ := four_cells KBbG22.out
  have OWy3 := Lib.hid (hu.mono (B' := we19.heap.size) (by simp) (Nat.le_refl _))
  clear hu hb
  go_wp2_with fail
  refine (ints.eq_same _ _ xs3 _ OWx322.out.ints OWy3.out.ints hn3).mono ?_
  rintro e we23 ⟨rfl, hb⟩
  clear bWc0 bWc1 bWc2 bWc3 bWc4 bGc0 bGc1 bGc2 bGc3 bGc4
  have BE24 := Lib.hid (below_tr BE22.out hb)
  have HBW24 := Lib.hid (below_tr HBW22.out hb)
  have OWx224 := Lib.hid (OWx222.out.keep hb)
  have OWx324 := Lib.hid (OWx322.out.keep hb)
  have OWG24 := Lib.hid (OWG22.out.keep hb)
  have OWy324 := Lib.hid (OWy3.out.keep hb)
  have KBbW24 := Lib.hid (KBbW22.out.below hb)
  have KBbG24 := Lib.hid (KBbG22.out.below hb)
  have ZZ24 : Hid (wc21.heap.size ≤ we23.heap.size) := Lib.hid (by have := (hb).size; simpa using this)
  clear BE22 HBW22 OWx222 OWx322 OWG22 OWy3 KBbW22 KBbG22
  obtain ⟨bWc0, bWc1, bWc2, bWc3, bWc4⟩ := four_cells KBbW24.out
  obtain ⟨bGc0, bGc1, bGc2, bGc3, bGc4⟩ := four_cells KBbG24.out
  clear hb
  clear OWy324
  go_wp2_with fail
  refine (ints.mark_own _ xs2 (1) (wf5.heap.size + 1) (wc8.heap.size) _ OWx224.out hn2 (by omega) (by omega)).mono ?_
  rintro e wm25 ⟨rfl, hi, S, hw, hs⟩
  clear OWx224
  clear bWc0 bWc1 bWc2 bWc3 bWc4 bGc0 bGc1 bGc2 bGc3 bGc4
  have BE27 := Lib.hid (BE24.out.trans (hw.below (fun p hp => by have := (hs p hp).1; have := ZZ2.out; have := ZZ4.out; have := ZZ6.out; have := ZZ9.out; have := ZZ11.out; have := ZZ13.out; have := ZZ16.out; have := ZZ18.out; have := ZZ20.out; have := ZZ22.out; have := ZZ24.out; omega)))
  have HBW27 := Lib.hid (HBW24.out.trans (hw.below (fun p hp => by have := (hs p hp).1; have := ZZ2.out; have := ZZ4.out; have := ZZ6.out; have := ZZ9.out; have := ZZ11.out; have := ZZ13.out; have := ZZ16.out; have := ZZ18.out; have := ZZ20.out; have := ZZ22.out; have := ZZ24.out; omega)))
  have OWx327 := Lib.hid (OWx324.out.wrote hw (fun p hp => by have := hs p hp; have := ZZ2.out; have := ZZ4.out; have := ZZ6.out; have := ZZ9.out; have := ZZ11.out; have := ZZ13.out; have := ZZ16.out; have := ZZ18.out; have := ZZ20.out; have := ZZ22.out; have := ZZ24.out; omega))
  have OWG27 := Lib.hid (OWG24.out.wrote hw (fun p hp => by have := hs p hp; have := ZZ2.out; have := ZZ4.out; have := ZZ6.out; have := ZZ9.out; have := ZZ11.out; have := ZZ13.out; have := ZZ16.out; have := ZZ18.out; have := ZZ20.out; have := ZZ22.out; have := ZZ24.out; omega))
  have KBbW27 := Lib.hid (KBbW24.out.wrote hw (fun p hp e => by have := hs p hp; have := ZZ2.out; have := ZZ4.out; have := ZZ6.out; have := ZZ9.out; have := ZZ11.out; have := ZZ13.out; have := ZZ16.out; have := ZZ18.out; have := ZZ20.out; have := ZZ22.out; have := ZZ24.out; omega))
  have KBbG27 := Lib.hid (KBbG24.out.wrote hw (fun p hp e => by have := hs p hp; have := ZZ2.out; have := ZZ4.out; have := ZZ6.out; have := ZZ9.out; have := ZZ11.out; have := ZZ13.out; have := ZZ16.out; have := ZZ18.out; have := ZZ20.out; have := ZZ22.out; have := ZZ24.out; omega))
  have ZZ27 : Hid (we23.heap.size ≤ wm25.heap.size) := Lib.hid (by have := hw.size; omega)
  clear BE24 HBW24 OWx324 OWG24 KBbW24 KBbG24
  obtain ⟨bWc0, bWc1, bWc2, bWc3, bWc4⟩ := four_cells KBbW27.out
  obtain ⟨bGc0, bGc1, bGc2, bGc3, bGc4⟩ := four_cells KBbG27.out
  clear hw hs
  clear hi
  go_wp2_with fail
  refine (ints.mark_own _ xs3 (1 + (xs2.length : Int)) (wc8.heap.size) (wc10.heap.size) _ OWx327.out hn3 (by omega) (by omega)).mono ?_
  rintro e wm28 ⟨rfl, hi, S, hw, hs⟩
  clear OWx327
  clear bWc0 bWc1 bWc2 bWc3 bWc4 bGc0 bGc1 bGc2 bGc3 bGc4
  have BE30 := Lib.hid (BE27.out.trans (hw.below (fun p hp => by have := (hs p hp).1; have := ZZ2.out; have := ZZ4.out; have := ZZ6.out; have := ZZ9.out; have := ZZ11.out; have := ZZ13.out; have := ZZ16.out; have := ZZ18.out; have := ZZ20.out; have := ZZ22.out; have := ZZ24.out; have := ZZ27.out; omega)))
  have HBW30 := Lib.hid (HBW27.out.trans (hw.below (fun p hp => by have := (hs p hp).1; have := ZZ2.out; have := ZZ4.out; have := ZZ6.out; have := ZZ9.out; have := ZZ11.out; have := ZZ13.out; have := ZZ16.out; have := ZZ18.out; have := ZZ20.out; have := ZZ22.out; have := ZZ24.out; have := ZZ27.out; omega)))
  have OWG30 := Lib.hid (OWG27.out.wrote hw (fun p hp => by have := hs p hp; have := ZZ2.out; have := ZZ4.out; have := ZZ6.out; have := ZZ9.out; have := ZZ11.out; have := ZZ13.out; have := ZZ16.out; have := ZZ18.out; have := ZZ20.out; have := ZZ22.out; have := ZZ24.out; have := ZZ27.out; omega))
  have KBbW30 := Lib.hid (KBbW27.out.wrote hw (fun p hp e => by have := hs p hp; have := ZZ2.out; have := ZZ4.out; have := ZZ6.out; have := ZZ9.out; have := ZZ11.out; have := ZZ13.out; have := ZZ16.out; have := ZZ18.out; have := ZZ20.out; have := ZZ22.out; have := ZZ24.out; have := ZZ27.out; omega))
  have KBbG30 := Lib.hid (KBbG27.out.wrote hw (fun p hp e => by have := hs p hp; have := ZZ2.out; have := ZZ4.out; have := ZZ6.out; have := ZZ9.out; have := ZZ11.out; have := ZZ13.out; have := ZZ16.out; have := ZZ18.out; have := ZZ20.out; have := ZZ22.out; have := ZZ24.out; have := ZZ27.out; omega))
  have ZZ30 : Hid (wm25.heap.size ≤ wm28.heap.size) := Lib.hid (by have := hw.size; omega)
  clear BE27 HBW27 OWG27 KBbW27 KBbG27
  obtain ⟨bWc0, bWc1, bWc2, bWc3, bWc4⟩ := four_cells KBbW30.out
  obtain ⟨bGc0, bGc1, bGc2, bGc3, bGc4⟩ := four_cells KBbG30.out
  clear hw hs
  clear hi
  have dk : decide (1 + (xs2.length : Int) + (xs3.length : Int) < 0) = false := by simp; omega
  have dk' : ¬ (1 + (xs2.length : Int) + (xs3.length : Int) < 0) := by omega
  go_wp2_with fail
  refine (game.eq_same ((gsign.res a0 a1 xs2 xs3).x) ((gsign.res a0 a1 xs2 xs3).y) _ _ ((gsign.res a0 a1 xs2 xs3).ws) _ _ ((gsign.res a0 a1 xs2 xs3).rows) _ OWG30.out.view (VWW.out.below HBW30.out) (gsign.len_ws a0 a1 xs2 xs3) (gsign.tot a0 a1 xs2 xs3)).mono ?_
  rintro e we31 ⟨rfl, hb⟩
  clear bWc0 bWc1 bWc2 bWc3 bWc4 bGc0 bGc1 bGc2 bGc3 bGc4
  have BE32 := Lib.hid (below_tr BE30.out hb)
  have HBW32 := Lib.hid (below_tr HBW30.out hb)
  have OWG32 := Lib.hid (OWG30.out.keep hb)
  have KBbW32 := Lib.hid (KBbW30.out.below hb)
  have KBbG32 := Lib.hid (KBbG30.out.below hb)
  have ZZ32 : Hid (wm28.heap.size ≤ we31.heap.size) := Lib.hid (by have := (hb).size; simpa using this)
  clear BE30 HBW30 OWG30 KBbW30 KBbG30
  obtain ⟨bWc0, bWc1, bWc2, bWc3, bWc4⟩ := four_cells KBbW32.out
  obtain ⟨bGc0, bGc1, bGc2, bGc3, bGc4⟩ := four_cells KBbG32.out
  clear hb
  have blr := Nat.le_trans (rws.before_le ((gsign.res a0 a1 xs2 xs3).rows) ((gsign.res a0 a1 xs2 xs3).rows).length) (gsign.tot a0 a1 xs2 xs3)
  have blw := (gsign.len_ws a0 a1 xs2 xs3)
  have dq : ¬ (1 + (((gsign.res a0 a1 xs2 xs3).ws).length : Int) + (rws.before ((gsign.res a0 a1 xs2 xs3).rows) ((gsign.res a0 a1 xs2 xs3).rows).length : Int) < 0) := by omega
  have tq : ((1 + (((gsign.res a0 a1 xs2 xs3).ws).length : Int) + (rws.before ((gsign.res a0 a1 xs2 xs3).rows) ((gsign.res a0 a1 xs2 xs3).rows).length : Int)) != (1 + (((gsign.res a0 a1 xs2 xs3).ws).length : Int) + (rws.before ((gsign.res a0 a1 xs2 xs3).rows) ((gsign.res a0 a1 xs2 xs3).rows).length : Int))) = false := bne_self_eq_false _
  go_wp2_with fail
  refine (game.mark_any ((gsign.res a0 a1 xs2 xs3).x) ((gsign.res a0 a1 xs2 xs3).y) _ ((gsign.res a0 a1 xs2 xs3).ws) _ ((gsign.res a0 a1 xs2 xs3).rows) (1) (wc10.heap.size) (wf12.heap.size) _ OWG32.out (gsign.len_ws a0 a1 xs2 xs3) (gsign.tot a0 a1 xs2 xs3) (by omega) (by omega)).mono ?_
  rintro e wm33 ⟨rfl, hi, S, wl34, hb, hw, hs⟩
  clear OWG32
  clear bWc0 bWc1 bWc2 bWc3 bWc4 bGc0 bGc1 bGc2 bGc3 bGc4
  have BE35 := Lib.hid (below_tr BE32.out hb)
  have HBW35 := Lib.hid (below_tr HBW32.out hb)
  have KBbW35 := Lib.hid (KBbW32.out.below hb)
  have KBbG35 := Lib.hid (KBbG32.out.below hb)
  have ZZ35 : Hid (we31.heap.size ≤ wl34.heap.size) := Lib.hid (by have := (hb).size; simpa using this)
  clear BE32 HBW32 KBbW32 KBbG32
  obtain ⟨bWc0, bWc1, bWc2, bWc3, bWc4⟩ := four_cells KBbW35.out
  obtain ⟨bGc0, bGc1, bGc2, bGc3, bGc4⟩ := four_cells KBbG35.out
  clear bWc0 bWc1 bWc2 bWc3 bWc4 bGc0 bGc1 bGc2 bGc3 bGc4
  have BE36 := Lib.hid (BE35.out.trans (hw.below (fun p hp => by have := (hs p hp).1; have := ZZ2.out; have := ZZ4.out; have := ZZ6.out; have := ZZ9.out; have := ZZ11.out; have := ZZ13.out; have := ZZ16.out; have := ZZ18.out; have := ZZ20.out; have := ZZ22.out; have := ZZ24.out; have := ZZ27.out; have := ZZ30.out; have := ZZ32.out; have := ZZ35.out; omega)))
  have HBW36 := Lib.hid (HBW35.out.trans (hw.below (fun p hp => by have := (hs p hp).1; have := ZZ2.out; have := ZZ4.out; have := ZZ6.out; have := ZZ9.out; have := ZZ11.out; have := ZZ13.out; have := ZZ16.out; have := ZZ18.out; have := ZZ20.out; have := ZZ22.out; have := ZZ24.out; have := ZZ27.out; have := ZZ30.out; have := ZZ32.out; have := ZZ35.out; omega)))
  have KBbW36 := Lib.hid (KBbW35.out.wrote hw (fun p hp e => by have := hs p hp; have := ZZ2.out; have := ZZ4.out; have := ZZ6.out; have := ZZ9.out; have := ZZ11.out; have := ZZ13.out; have := ZZ16.out; have := ZZ18.out; have := ZZ20.out; have := ZZ22.out; have := ZZ24.out; have := ZZ27.out; have := ZZ30.out; have := ZZ32.out; have := ZZ35.out; omega))
  have KBbG36 := Lib.hid (KBbG35.out.wrote hw (fun p hp e => by have := hs p hp; have := ZZ2.out; have := ZZ4.out; have := ZZ6.out; have := ZZ9.out; have := ZZ11.out; have := ZZ13.out; have := ZZ16.out; have := ZZ18.out; have := ZZ20.out; have := ZZ22.out; have := ZZ24.out; have := ZZ27.out; have := ZZ30.out; have := ZZ32.out; have := ZZ35.out; omega))
  have ZZ36 : Hid (wl34.heap.size ≤ wm33.heap.size) := Lib.hid (by have := hw.size; omega)
  clear BE35 HBW35 KBbW35 KBbG35
  obtain ⟨bWc0, bWc1, bWc2, bWc3, bWc4⟩ := four_cells KBbW36.out
  obtain ⟨bGc0, bGc1, bGc2, bGc3, bGc4⟩ := four_cells KBbG36.out
  clear hb
  clear hw hs
  have VWM := Lib.hid hi
  have HBM := Lib.hid (Below.refl wm33.heap.size wm33)
  clear hi
  go_wp2_with fail
  refine (game.held_any ((gsign.res a0 a1 xs2 xs3).x) ((gsign.res a0 a1 xs2 xs3).y) _ ((gsign.res a0 a1 xs2 xs3).ws).length _ ((gsign.res a0 a1 xs2 xs3).rows) 1 _ (VWM.out.below HBM.out) (gsign.len_ws a0 a1 xs2 xs3) (gsign.tot a0 a1 xs2 xs3) (by omega) (by omega)).mono ?_
  rintro e wh37 ⟨rfl, hb⟩
  clear bWc0 bWc1 bWc2 bWc3 bWc4 bGc0 bGc1 bGc2 bGc3 bGc4
  have BE38 := Lib.hid (below_tr BE36.out hb)
  have HBW38 := Lib.hid (below_tr HBW36.out hb)
  have HBM38 := Lib.hid (below_tr HBM.out hb)
  have KBbW38 := Lib.hid (KBbW36.out.below hb)
  have KBbG38 := Lib.hid (KBbG36.out.below hb)
  have ZZ38 : Hid (wm33.heap.size ≤ wh37.heap.size) := Lib.hid (by have := (hb).size; simpa using this)
  clear BE36 HBW36 HBM KBbW36 KBbG36
  obtain ⟨bWc0, bWc1, bWc2, bWc3, bWc4⟩ := four_cells KBbW38.out
  obtain ⟨bGc0, bGc1, bGc2, bGc3, bGc4⟩ := four_cells KBbG38.out
  clear hb
  go_wp2_with fail
  refine (ints.to_any _ xs2 _ (H2.out.below BE38.out) hn2).mono ?_
  rintro e wc39 ⟨uz2, rfl, hu, hb⟩
  obtain ⟨z2a, z2n, z2c, rfl⟩ := hu.ints.shape
  clear bWc0 bWc1 bWc2 bWc3 bWc4 bGc0 bGc1 bGc2 bGc3 bGc4
  have BE40 := Lib.hid (below_tr BE38.out hb)
  have HBW40 := Lib.hid (below_tr HBW38.out hb)
  have HBM40 := Lib.hid (below_tr HBM38.out hb)
  have KBbW40 := Lib.hid (KBbW38.out.below hb)
  have KBbG40 := Lib.hid (KBbG38.out.below hb)
  have ZZ40 : Hid (wh37.heap.size ≤ wc39.heap.size) := Lib.hid (by have := (hb).size; simpa using this)
  clear BE38 HBW38 HBM38 KBbW38 KBbG38
  obtain ⟨bWc0, bWc1, bWc2, bWc3, bWc4⟩ := four_cells KBbW40.out
  obtain ⟨bGc0, bGc1, bGc2, bGc3, bGc4⟩ := four_cells KBbG40.out
  have OWz2 := Lib.hid (hu.mono (B' := wh37.heap.size) (by simp) (Nat.le_refl _))
  clear hu hb
  go_wp2_with fail
  refine (ints.to_any _ xs3 _ (H3.out.below BE40.out) hn3).mono ?_
  rintro e wc41 ⟨uz3, rfl, hu, hb⟩
  obtain ⟨z3a, z3n, z3c, rfl⟩ := hu.ints.shape
  clear bWc0 bWc1 bWc2 bWc3 bWc4 bGc0 bGc1 bGc2 bGc3 bGc4
  have BE42 := Lib.hid (below_tr BE40.out hb)
  have HBW42 := Lib.hid (below_tr HBW40.out hb)
  have HBM42 := Lib.hid (below_tr HBM40.out hb)
  have OWz242 := Lib.hid (OWz2.out.keep hb)
  have KBbW42 := Lib.hid (KBbW40.out.below hb)
  have KBbG42 := Lib.hid (KBbG40.out.below hb)
  have ZZ42 : Hid (wc39.heap.size ≤ wc41.heap.size) := Lib.hid (by have := (hb).size; simpa using this)
  clear BE40 HBW40 HBM40 OWz2 KBbW40 KBbG40
  obtain ⟨bWc0, bWc1, bWc2, bWc3, bWc4⟩ := four_cells KBbW42.out
  obtain ⟨bGc0, bGc1, bGc2, bGc3, bGc4⟩ := four_cells KBbG42.out
  have OWz3 := Lib.hid (hu.mono (B' := wc39.heap.size) (by simp) (Nat.le_refl _))
  clear hu hb
  go_wp2_with fail
  refine (gsign.impl_any a0 a1 (.slice z2a z2n z2c) xs2 (.slice z3a z3n z3c) xs3 _ OWz242.out.ints OWz3.out.ints hn2).mono ?_
  rintro e wf43 ⟨vHh, uHh, rfl, hu, hb⟩
  obtain ⟨Hha, Hhn, Hhc, Hhd, Hhm, Hhe, rfl, rfl⟩ := hu.view.shape
  clear bWc0 bWc1 bWc2 bWc3 bWc4 bGc0 bGc1 bGc2 bGc3 bGc4
  have BE44 := Lib.hid (below_tr BE42.out hb)
  have HBW44 := Lib.hid (below_tr HBW42.out hb)
  have HBM44 := Lib.hid (below_tr HBM42.out hb)
  have OWz244 := Lib.hid (OWz242.out.keep hb)
  have OWz344 := Lib.hid (OWz3.out.keep hb)
  have KBbW44 := Lib.hid (KBbW42.out.below hb)
  have KBbG44 := Lib.hid (KBbG42.out.below hb)
  have ZZ44 : Hid (wc41.heap.size ≤ wf43.heap.size) := Lib.hid (by have := (hb).size; simpa using this)
  clear BE42 HBW42 HBM42 OWz242 OWz3 KBbW42 KBbG42
  obtain ⟨bWc0, bWc1, bWc2, bWc3, bWc4⟩ := four_cells KBbW44.out
  obtain ⟨bGc0, bGc1, bGc2, bGc3, bGc4⟩ := four_cells KBbG44.out
  have OWHh := Lib.hid (hu.mono (B' := wc41.heap.size) (by simp) (Nat.le_refl _))
  clear hu hb
  go_wp2_with fail
  have BE45 := Lib.hid (below_al BE44.out (.cells #[.int .i64 ((gsign.res a0 a1 xs2 xs3).x), .int .i64 ((gsign.res a0 a1 xs2 xs3).y), .slice Hha Hhn Hhc, .slice Hhd Hhm Hhe] 25))
  have HBW45 := Lib.hid (below_al HBW44.out (.cells #[.int .i64 ((gsign.res a0 a1 xs2 xs3).x), .int .i64 ((gsign.res a0 a1 xs2 xs3).y), .slice Hha Hhn Hhc, .slice Hhd Hhm Hhe] 25))
  have HBM45 := Lib.hid (below_al HBM44.out (.cells #[.int .i64 ((gsign.res a0 a1 xs2 xs3).x), .int .i64 ((gsign.res a0 a1 xs2 xs3).y), .slice Hha Hhn Hhc, .slice Hhd Hhm Hhe] 25))
  have OWz245 := Lib.hid (OWz244.out.keep (below_al (Below.refl _ _) (.cells #[.int .i64 ((gsign.res a0 a1 xs2 xs3).x), .int .i64 ((gsign.res a0 a1 xs2 xs3).y), .slice Hha Hhn Hhc, .slice Hhd Hhm Hhe] 25)))
  have OWz345 := Lib.hid (OWz344.out.keep (below_al (Below.refl _ _) (.cells #[.int .i64 ((gsign.res a0 a1 xs2 xs3).x), .int .i64 ((gsign.res a0 a1 xs2 xs3).y), .slice Hha Hhn Hhc, .slice Hhd Hhm Hhe] 25)))
  have OWHh45 := Lib.hid (OWHh.out.keep (below_al (Below.refl _ _) (.cells #[.int .i64 ((gsign.res a0 a1 xs2 xs3).x), .int .i64 ((gsign.res a0 a1 xs2 xs3).y), .slice Hha Hhn Hhc, .slice Hhd Hhm Hhe] 25)))
  have KBbW45 := Lib.hid (KBbW44.out.alloc (.cells #[.int .i64 ((gsign.res a0 a1 xs2 xs3).x), .int .i64 ((gsign.res a0 a1 xs2 xs3).y), .slice Hha Hhn Hhc, .slice Hhd Hhm Hhe] 25))
  have KBbG45 := Lib.hid (KBbG44.out.alloc (.cells #[.int .i64 ((gsign.res a0 a1 xs2 xs3).x), .int .i64 ((gsign.res a0 a1 xs2 xs3).y), .slice Hha Hhn Hhc, .slice Hhd Hhm Hhe] 25))
  have KBbHh45 := Lib.hid (Blk.new wf43 25 #[.int .i64 ((gsign.res a0 a1 xs2 xs3).x), .int .i64 ((gsign.res a0 a1 xs2 xs3).y), .slice Hha Hhn Hhc, .slice Hhd Hhm Hhe])
  clear BE44 HBW44 HBM44 OWz244 OWz344 OWHh KBbW44 KBbG44
  clear OWz245
  clear OWz345
  go_wp2_with fail
  refine (game.eq_same ((gsign.res a0 a1 xs2 xs3).x) ((gsign.res a0 a1 xs2 xs3).y) _ _ ((gsign.res a0 a1 xs2 xs3).ws) _ _ ((gsign.res a0 a1 xs2 xs3).rows) _ OWHh45.out.view (VWW.out.below HBW45.out) (gsign.len_ws a0 a1 xs2 xs3) (gsign.tot a0 a1 xs2 xs3)).mono ?_
  rintro e we46 ⟨rfl, hb⟩
  clear bWc0 bWc1 bWc2 bWc3 bWc4 bGc0 bGc1 bGc2 bGc3 bGc4
  have BE47 := Lib.hid (below_tr BE45.out hb)
  have HBW47 := Lib.hid (below_tr HBW45.out hb)
  have HBM47 := Lib.hid (below_tr HBM45.out hb)
  have OWHh47 := Lib.hid (OWHh45.out.keep hb)
  have KBbW47 := Lib.hid (KBbW45.out.below hb)
  have KBbG47 := Lib.hid (KBbG45.out.below hb)
  have KBbHh47 := Lib.hid (KBbHh45.out.below hb)
  have ZZ47 : Hid (wf43.heap.size + 1 ≤ we46.heap.size) := Lib.hid (by have := (hb).size; simpa using this)
  clear BE45 HBW45 HBM45 OWHh45 KBbW45 KBbG45 KBbHh45
  obtain ⟨bWc0, bWc1, bWc2, bWc3, bWc4⟩ := four_cells KBbW47.out
  obtain ⟨bGc0, bGc1, bGc2, bGc3, bGc4⟩ := four_cells KBbG47.out
  obtain ⟨bHhc0, bHhc1, bHhc2, bHhc3, bHhc4⟩ := four_cells KBbHh47.out
  clear hb
  go_wp2_with fail
  refine (game.held_any ((gsign.res a0 a1 xs2 xs3).x) ((gsign.res a0 a1 xs2 xs3).y) _ ((gsign.res a0 a1 xs2 xs3).ws).length _ ((gsign.res a0 a1 xs2 xs3).rows) 1 _ (VWM.out.below HBM47.out) (gsign.len_ws a0 a1 xs2 xs3) (gsign.tot a0 a1 xs2 xs3) (by omega) (by omega)).mono ?_
  rintro e wh48 ⟨rfl, hb⟩
  clear bWc0 bWc1 bWc2 bWc3 bWc4 bGc0 bGc1 bGc2 bGc3 bGc4 bHhc0 bHhc1 bHhc2 bHhc3 bHhc4
  have BE49 := Lib.hid (below_tr BE47.out hb)
  have HBW49 := Lib.hid (below_tr HBW47.out hb)
  have HBM49 := Lib.hid (below_tr HBM47.out hb)
  have OWHh49 := Lib.hid (OWHh47.out.keep hb)
  have KBbW49 := Lib.hid (KBbW47.out.below hb)
  have KBbG49 := Lib.hid (KBbG47.out.below hb)
  have KBbHh49 := Lib.hid (KBbHh47.out.below hb)
  have ZZ49 : Hid (we46.heap.size ≤ wh48.heap.size) := Lib.hid (by have := (hb).size; simpa using this)
  clear BE47 HBW47 HBM47 OWHh47 KBbW47 KBbG47 KBbHh47
  obtain ⟨bWc0, bWc1, bWc2, bWc3, bWc4⟩ := four_cells KBbW49.out
  obtain ⟨bGc0, bGc1, bGc2, bGc3, bGc4⟩ := four_cells KBbG49.out
  obtain ⟨bHhc0, bHhc1, bHhc2, bHhc3, bHhc4⟩ := four_cells KBbHh49.out
  clear hb
  go_wp2_with fail
  go_ret
  exact ⟨rfl, BE49.out⟩

/-! ### the frame of the row -/
theorem own : ownKnob Try.prog.godebug = none := by kernel_rfl
theorem laidOut : laidOutB Try.prog = true := by kernel_rfl
set_option maxRecDepth 100000 in
theorem lifted (os : Os) (started : os.Started) (H : Type) (enc : TypeId × Value → H) :
    ReturnsInHanded {} Try.checked os 3 .any (Rows.fnExactSignGameSpec.pre6 enc Try.prog Try.f3 Rows.fnExactSignGameRow.domain false) (Rows.fnExactSignGameSpec.post enc Try.prog Try.f3 false true false false) := by
  refine returnsInHanded_of_change (C := Try.checked) own started (by kernel_rfl) Try.func3
    (ChangeSpec.witness6 (enc := enc) (C := Try.checked) false ⟨#[], #[.int .i64 0, .int .i64 0, .slice none 0 0, .slice none 0 0], []⟩ 8 (by kernel_rfl) (by kernel_rfl) (by kernel_rfl) (by kernel_rfl)) ?_
  intro W base args ds gs before hval0 hW _ _
  have hval : ∀ (j : Nat) t v, Try.f3.params[j]? = some t → args[j]? = some v → Value.okWide Try.prog W .any base t v := hval0
  have hW' := hW
  obtain ⟨p, q, hA0, hV, rfl, hfz, hnd⟩ := hW
  have hA : DataW.TrodAll enc Try.prog W 0 (fun _ => true) true Try.f3.params.toList args.toList ds p := hA0
  rw [Try.params3] at hA hval
  obtain ⟨v0, vs0, d0, ds0, p0, q0, hargs, rfl, rfl, h0, r0⟩ := trodAll_cons hA
  obtain ⟨v1, vs1, d1, ds1, p1, q1, rfl, rfl, rfl, h1, r1⟩ := trodAll_cons r0
  obtain ⟨v2, vs2, d2, ds2, p2, q2, rfl, rfl, rfl, h2, r2⟩ := trodAll_cons r1
  obtain ⟨v3, vs3, d3, ds3, p3, q3, rfl, rfl, rfl, h3, r3⟩ := trodAll_cons r2
  obtain ⟨rfl, rfl, rfl⟩ := trodAll_nil r3
  obtain rfl : args = #[v0, v1, v2, v3] := by cases args; simp_all
  obtain ⟨rfl, rfl⟩ := trodVars_none hV
  obtain ⟨a0, rfl, rfl, rfl, w0⟩ := open_int Try.underlying3 (hval 0 3 v0 rfl rfl) h0
  obtain ⟨a1, rfl, rfl, rfl, w1⟩ := open_int Try.underlying3 (hval 1 3 v1 rfl rfl) h1
  have lt2 : ∀ x ∈ p2, x.block < W.heap.size := by obtain ⟨m, hm⟩ := h2; exact DataW.trod_lt m _ _ _ hm
  obtain ⟨xs2, g2⟩ := opn.ints_of_trod Try.underlying22 Try.underlying3 (by kernel_rfl) (hval 2 22 v2 rfl rfl) h2
  have lt3 : ∀ x ∈ p3, x.block < W.heap.size := by obtain ⟨m, hm⟩ := h3; exact DataW.trod_lt m _ _ _ hm
  obtain ⟨xs3, g3⟩ := opn.ints_of_trod Try.underlying22 Try.underlying3 (by kernel_rfl) (hval 3 22 v3 rfl rfl) h3
  clear hA0 hval0
  refine (walk a0 a1 v2 xs2 v3 xs3 W w0 w1 g2 g3).mono fun e W' ⟨he, bel⟩ => ?_
  subst he
  exact ⟨_, rfl, _, _, _, [], _, [], hW', trodAll_mk1 (shut_bool Try.underlying4 _), (trodAll_cons_mk (shut_int Try.underlying3 w0) (trodAll_cons_mk (shut_int Try.underlying3 w1) (trodAll_cons_mk (Below.trod laidOut (by kernel_rfl) (of_decide_eq_true (by kernel_rfl)) h2 bel lt2) (trodAll_cons_mk (Below.trod laidOut (by kernel_rfl) (of_decide_eq_true (by kernel_rfl)) h3 bel lt3) trodAll_mk0)))), rfl, bel.frame _, fun h => by cases h⟩

theorem over : Rows.fnExactSignGameRow.holds Try.pinned (OpenSpec.ofChange Rows.fnExactSignGameSpec) :=
  OpenClaim.holds_of_wide 3 Try.f3 rfl rfl rfl rfl rfl rfl rfl ⟨rfl, rfl, rfl, rfl, rfl⟩ rfl rfl rfl rfl rfl (by kernel_rfl) Try.func3 (by kernel_rfl)
    (of_decide_eq_true (by kernel_rfl)) (by unfold Func.isWrapper; first | (rw [if_pos (by decide +kernel)]; kernel_rfl) | (rw [if_neg (by decide +kernel)]; exact ⟨rfl, rfl⟩))
    (fun os started H enc _ => lifted os started H enc)

theorem proved : Rows.FnExactSignGameSaid := over
#print axioms proved
end Go.Proofs.Ytfkdhdiacelcjaa.lawSignGame
