/- Proved here: for all arguments, the law FnExactAskGame returns true: the program's function answers as its model in every field, leaves its arguments as they were, and its answer owns its memory. Conditions: none beyond the row. -/
import Derived.Test.YtfkdhdiacelcjaaGame
import Derived.Test.YtfkdhdiacelcjaaAskl
import Derived.Test.YtfkdhdiacelcjaaOpeng
import Derived.Test.YtfkdhdiacelcjaaRows
import Derived.Deep.RegionHeld3
namespace Go.Proofs.Ytfkdhdiacelcjaa.lawAskGame
open Go.ChangeShapes Go.WideShapes Go.ChangeAt Go.RowKit Go.Deep Go.Proofs.Ytfkdhdiacelcjaa.base
open Go.ChangeMaps (open_string shut_string)

set_option maxRecDepth 100000 in
set_option maxHeartbeats 4000000 in
theorem walk (x0 y0 : Int) (wv0 : Value) (ws0 : List Int) (u0 : Value) (xss0 : List (List Int)) (v1 : Value) (xs1 : List Int) (v2 : Value) (xs2 : List Int) (w : World) (h0 : game.GV w wv0 ws0 u0 xss0) (h1 : Ints w v1 xs1) (h2 : Ints w v2 xs2) :
    Calls Try.prog 5 #[.agg #[.int .i64 x0, .int .i64 y0, wv0, u0], v1, v2] w fun e w' => e = .returned (.bool true) ∧ Below w.heap.size w w' := by
  obtain ⟨wa0, wn0, wc0, va0, vn0, vc0, rfl, rfl⟩ := h0.shape
  obtain ⟨va1, vc1, hv1⟩ : ∃ A c, v1 = .slice A xs1.length c := by obtain ⟨A, c, hv, _⟩ := h1; exact ⟨A, c, by rw [hv, len_i64s]⟩
  subst hv1
  obtain ⟨va2, vc2, hv2⟩ : ∃ A c, v2 = .slice A xs2.length c := by obtain ⟨A, c, hv, _⟩ := h2; exact ⟨A, c, by rw [hv, len_i64s]⟩
  subst hv2
  have H0 := Lib.hid h0
  have H1 := Lib.hid h1
  have H2 := Lib.hid h2
  clear h0 h1 h2
  by_cases hs1 : 1048576 < (xs1.length : Int)
  · skip
    go_enter Try.func5, Try.ntmps5
    have BE0 := Lib.hid (Below.refl w.heap.size w)
    have BE1 := Lib.hid (below_al BE0.out (.cells #[.int .i64 x0, .int .i64 y0, .slice wa0 wn0 wc0, .slice va0 vn0 vc0] 34))
    have KBp01 := Lib.hid (Blk.new w 34 #[.int .i64 x0, .int .i64 y0, .slice wa0 wn0 wc0, .slice va0 vn0 vc0])
    clear BE0
    go_wp2_with fail
    go_ret
    exact ⟨rfl, BE1.out⟩
  have hn1 : xs1.length ≤ 1048576 := by omega
  by_cases hs2 : 1048576 < (xs2.length : Int)
  · skip
    go_enter Try.func5, Try.ntmps5
    have BE0 := Lib.hid (Below.refl w.heap.size w)
    have BE2 := Lib.hid (below_al BE0.out (.cells #[.int .i64 x0, .int .i64 y0, .slice wa0 wn0 wc0, .slice va0 vn0 vc0] 34))
    have KBp02 := Lib.hid (Blk.new w 34 #[.int .i64 x0, .int .i64 y0, .slice wa0 wn0 wc0, .slice va0 vn0 vc0])
    clear BE0
    go_wp2_with fail
    go_ret
    exact ⟨rfl, BE2.out⟩
  have hn2 : xs2.length ≤ 1048576 := by omega
  by_cases hs0 : game.sz ws0 xss0 (1048576) < 0
  · skip
    go_enter Try.func5, Try.ntmps5
    have BE0 := Lib.hid (Below.refl w.heap.size w)
    have BE3 := Lib.hid (below_al BE0.out (.cells #[.int .i64 x0, .int .i64 y0, .slice wa0 wn0 wc0, .slice va0 vn0 vc0] 34))
    have KBp03 := Lib.hid (Blk.new w 34 #[.int .i64 x0, .int .i64 y0, .slice wa0 wn0 wc0, .slice va0 vn0 vc0])
    clear BE0
    go_wp2_with fail
    refine (game.sz_any x0 y0 _ ws0 _ xss0 (1048576) _ (H0.out.below BE3.out) (by omega) (by omega)).mono ?_
    rintro e wz4 ⟨rfl, hb⟩
    have BE5 := Lib.hid (below_tr BE3.out hb)
    have KBp05 := Lib.hid (KBp03.out.below hb)
    have ZZ5 : Hid (w.heap.size + 1 ≤ wz4.heap.size) := Lib.hid (by have := (hb).size; simpa using this)
    clear BE3 KBp03
    obtain ⟨p0c0, p0c1, p0c2, p0c3, p0c4⟩ := four_cells KBp05.out
    clear hb
    go_wp2_with fail
    go_ret
    exact ⟨rfl, BE5.out⟩
  have hq0 := game.sz_bound hs0
  have hn0 : ws0.length ≤ 1048576 := by omega
  have hm0 : rws.total xss0 ≤ 1048576 := by omega
  go_enter Try.func5, Try.ntmps5
  have BE0 := Lib.hid (Below.refl w.heap.size w)
  have BE6 := Lib.hid (below_al BE0.out (.cells #[.int .i64 x0, .int .i64 y0, .slice wa0 wn0 wc0, .slice va0 vn0 vc0] 34))
  have KBp06 := Lib.hid (Blk.new w 34 #[.int .i64 x0, .int .i64 y0, .slice wa0 wn0 wc0, .slice va0 vn0 vc0])
  clear BE0
  go_wp2_with fail
  refine (game.sz_any x0 y0 _ ws0 _ xss0 (1048576) _ (H0.out.below BE6.out) (by omega) (by omega)).mono ?_
  rintro e wz7 ⟨rfl, hb⟩
  have BE8 := Lib.hid (below_tr BE6.out hb)
  have KBp08 := Lib.hid (KBp06.out.below hb)
  have ZZ8 : Hid (w.heap.size + 1 ≤ wz7.heap.size) := Lib.hid (by have := (hb).size; simpa using this)
  clear BE6 KBp06
  obtain ⟨p0c0, p0c1, p0c2, p0c3, p0c4⟩ := four_cells KBp08.out
  clear hb
  go_wp2_with fail
  refine (game.to_any x0 y0 _ ws0 _ xss0 _ (H0.out.below BE8.out) hn0 hm0).mono ?_
  rintro e wc9 ⟨vs0, us0, rfl, hu, hb⟩
  obtain ⟨s0a, s0n, s0c, s0d, s0m, s0e, rfl, rfl⟩ := hu.view.shape
  clear p0c0 p0c1 p0c2 p0c3 p0c4
  have BE10 := Lib.hid (below_tr BE8.out hb)
  have KBp010 := Lib.hid (KBp08.out.below hb)
  have ZZ10 : Hid (wz7.heap.size ≤ wc9.heap.size) := Lib.hid (by have := (hb).size; simpa using this)
  clear BE8 KBp08
  obtain ⟨p0c0, p0c1, p0c2, p0c3, p0c4⟩ := four_cells KBp010.out
  have OWs0 := Lib.hid (hu.mono (B' := wz7.heap.size) (by simp) (Nat.le_refl _))
  clear hu hb
  go_wp2_with fail
  refine (ints.to_any _ xs1 _ (H1.out.below BE10.out) hn1).mono ?_
  rintro e wc11 ⟨us1, rfl, hu, hb⟩
  obtain ⟨s1a, s1n, s1c, rfl⟩ := hu.ints.shape
  clear p0c0 p0c1 p0c2 p0c3 p0c4
  have BE12 := Lib.hid (below_tr BE10.out hb)
  have OWs012 := Lib.hid (OWs0.out.keep hb)
  have KBp012 := Lib.hid (KBp010.out.below hb)
  have ZZ12 : Hid (wc9.heap.size ≤ wc11.heap.size) := Lib.hid (by have := (hb).size; simpa using this)
  clear BE10 OWs0 KBp010
  obtain ⟨p0c0, p0c1, p0c2, p0c3, p0c4⟩ := four_cells KBp012.out
  have OWs1 := Lib.hid (hu.mono (B' := wc9.heap.size) (by simp) (Nat.le_refl _))
  clear hu hb
  go_wp2_with fail
  refine (ints.to_any _ xs2 _ (H2.out.below BE12.out) hn2).mono ?_
  rintro e wc13 ⟨us2, rfl, hu, hb⟩
  obtain ⟨s2a, s2n, s2c, rfl⟩ := hu.ints.shape
  clear p0c0 p0c1 p0c2 p0c3 p0c4
  have BE14 := Lib.hid (below_tr BE12.out hb)
  have OWs014 := Lib.hid (OWs012.out.keep hb)
  have OWs114 := Lib.hid (OWs1.out.keep hb)
  have KBp014 := Lib.hid (KBp012.out.below hb)
  have ZZ14 : Hid (wc11.heap.size ≤ wc13.heap.size) := Lib.hid (by have := (hb).size; simpa using this)
  clear BE12 OWs012 OWs1 KBp012
  obtain ⟨p0c0, p0c1, p0c2, p0c3, p0c4⟩ := four_cells KBp014.out
  have OWs2 := Lib.hid (hu.mono (B' := wc11.heap.size) (by simp) (Nat.le_refl _))
  clear hu hb
  go_wp2_with fail
  refine (gask.spec_any x0 y0 (.slice s0a s0n s0c) ws0 (.slice s0d s0m s0e) xss0 (.slice s1a s1n s1c) (.slice s2a s2n s2c) xs1 xs2 _ OWs014.out.view OWs114.out.ints OWs2.out.ints hn0 hm0).mono ?_
  rintro e wf15 ⟨vW, uW, rfl, hu, hb⟩
  obtain ⟨Wa, Wn, Wc, Wd, Wm, We, rfl, rfl⟩ := hu.shape
  clear p0c0 p0c1 p0c2 p0c3 p0c4
  have BE16 := Lib.hid (below_tr BE14.out hb)
  have OWs016 := Lib.hid (OWs014.out.keep hb)
  have OWs116 := Lib.hid (OWs114.out.keep hb)
  have OWs216 := Lib.hid (OWs2.out.keep hb)
  have KBp016 := Lib.hid (KBp014.out.below hb)
  have ZZ16 : Hid (wc13.heap.size ≤ wf15.heap.size) := Lib.hid (by have := (hb).size; simpa using this)
  clear BE14 OWs014 OWs114 OWs2 KBp014
  obtain ⟨p0c0, p0c1, p0c2, p0c3, p0c4⟩ := four_cells KBp016.out
  have VWW := Lib.hid hu
  have HBW := Lib.hid (Below.refl wf15.heap.size wf15)
  clear hu hb
  go_wp2_with fail
  have BE17 := Lib.hid (below_al BE16.out (.cells #[.int .i64 ((gask.res x0 y0 ws0 xss0 xs1 xs2).x), .int .i64 ((gask.res x0 y0 ws0 xss0 xs1 xs2).y), .slice Wa Wn Wc, .slice Wd Wm We] 25))
  have HBW17 := Lib.hid (below_al HBW.out (.cells #[.int .i64 ((gask.res x0 y0 ws0 xss0 xs1 xs2).x), .int .i64 ((gask.res x0 y0 ws0 xss0 xs1 xs2).y), .slice Wa Wn Wc, .slice Wd Wm We] 25))
  have OWs017 := Lib.hid (OWs016.out.keep (below_al (Below.refl _ _) (.cells #[.int .i64 ((gask.res x0 y0 ws0 xss0 xs1 xs2).x), .int .i64 ((gask.res x0 y0 ws0 xss0 xs1 xs2).y), .slice Wa Wn Wc, .slice Wd Wm We] 25)))
  have OWs117 := Lib.hid (OWs116.out.keep (below_al (Below.refl _ _) (.cells #[.int .i64 ((gask.res x0 y0 ws0 xss0 xs1 xs2).x), .int .i64 ((gask.res x0 y0 ws0 xss0 xs1 xs2).y), .slice Wa Wn Wc, .slice Wd Wm We] 25)))
  have OWs217 := Lib.hid (OWs216.out.keep (below_al (Below.refl _ _) (.cells #[.int .i64 ((gask.res x0 y0 ws0 xss0 xs1 xs2).x), .int .i64 ((gask.res x0 y0 ws0 xss0 xs1 xs2).y), .slice Wa Wn Wc, .slice Wd Wm We] 25)))
  have KBp017 := Lib.hid (KBp016.out.alloc (.cells #[.int .i64 ((gask.res x0 y0 ws0 xss0 xs1 xs2).x), .int .i64 ((gask.res x0 y0 ws0 xss0 xs1 xs2).y), .slice Wa Wn Wc, .slice Wd Wm We] 25))
  have KBbW17 := Lib.hid (Blk.new wf15 25 #[.int .i64 ((gask.res x0 y0 ws0 xss0 xs1 xs2).x), .int .i64 ((gask.res x0 y0 ws0 xss0 xs1 xs2).y), .slice Wa Wn Wc, .slice Wd Wm We])
  clear BE16 HBW OWs016 OWs116 OWs216 KBp016
  go_wp2_with fail
  refine (game.to_any x0 y0 _ ws0 _ xss0 _ (H0.out.below BE17.out) hn0 hm0).mono ?_
  rintro e wc18 ⟨vx0, ux0, rfl, hu, hb⟩
  obtain ⟨x0a, x0n, x0c, x0d, x0m, x0e, rfl, rfl⟩ := hu.view.shape
  clear p0c0 p0c1 p0c2 p0c3 p0c4
  have BE19 := Lib.hid (below_tr BE17.out hb)
  have HBW19 := Lib.hid (below_tr HBW17.out hb)
  have KBp019 := Lib.hid (KBp017.out.below hb)
  have KBbW19 := Lib.hid (KBbW17.out.below hb)
  have ZZ19 : Hid (wf15.heap.size + 1 ≤ wc18.heap.size) := Lib.hid (by have := (hb).size; simpa using this)
  clear BE17 HBW17 KBp017 KBbW17
  obtain ⟨p0c0, p0c1, p0c2, p0c3, p0c4⟩ := four_cells KBp019.out
  obtain ⟨bWc0, bWc1, bWc2, bWc3, bWc4⟩ := four_cells KBbW19.out
  have OWx0 := Lib.hid (hu.mono (B' := wf15.heap.size + 1) (by simp) (Nat.le_refl _))
  clear hu hb
  go_wp2_with fail
  have BE20 := Lib.hid (below_al BE19.out (.cells #[.int .i64 x0, .int .i64 y0, .slice x0a x0n x0c, .slice x0d x0m x0e] 25))
  have HBW20 := Lib.hid (below_al HBW19.out (.cells #[.int .i64 x0, .int .i64 y0, .slice x0a x0n x0c, .slice x0d x0m x0e] 25))
  have OWx020 := Lib.hid (OWx0.out.keep (below_al (Below.refl _ _) (.cells #[.int .i64 x0, .int .i64 y0, .slice x0a x0n x0c, .slice x0d x0m x0e] 25)))
  have KBp020 := Lib.hid (KBp019.out.alloc (.cells #[.int .i64 x0, .int .i64 y0, .slice x0a x0n x0c, .slice x0d x0m x0e] 25))
  have KBbW20 := Lib.hid (KBbW19.out.alloc (.cells #[.int .i64 x0, .int .i64 y0, .slice x0a x0n x0c, .slice x0d x0m x0e] 25))
  have KBbx020 := Lib.hid (Blk.new wc18 25 #[.int .i64 x0, .int .i64 y0, .slice x0a x0n x0c, .slice x0d x0m x0e])
  clear BE19 HBW19 OWx0 KBp019 KBbW19
  go_wp2_with fail
  refine (ints.to_any _ xs1 _ (H1.out.below BE20.out) hn1).mono ?_
  rintro e wc21 ⟨ux1, rfl, hu, hb⟩
  obtain ⟨x1a, x1n, x1c, rfl⟩ := hu.ints.shape
  clear p0c0 p0c1 p0c2 p0c3 p0c4 bWc0 bWc1 bWc2 bWc3 bWc4
  have BE22 := Lib.hid (below_tr BE20.out hb)
  have HBW22 := Lib.hid (below_tr HBW20.out hb)
  have OWx022 := Lib.hid (OWx020.out.keep hb)
  have KBp022 := Lib.hid (KBp020.out.below hb)
  have KBbW22 := Lib.hid (KBbW20.out.below hb)
  have KBbx022 := Lib.hid (KBbx020.out.below hb)
  have ZZ22 : Hid (wc18.heap.size + 1 ≤ wc21.heap.size) := Lib.hid (by have := (hb).size; simpa using this)
  clear BE20 HBW20 OWx020 KBp020 KBbW20 KBbx020
  obtain ⟨p0c0, p0c1, p0c2, p0c3, p0c4⟩ := four_cells KBp022.out
  obtain ⟨bWc0, bWc1, bWc2, bWc3, bWc4⟩ := four_cells KBbW22.out
  obtain ⟨bx0c0, bx0c1, bx0c2, bx0c3, bx0c4⟩ := four_cells KBbx022.out
  have OWx1 := Lib.hid (hu.mono (B' := wc18.heap.size + 1) (by simp) (Nat.le_refl _))
  clear hu hb
  go_wp2_with fail
  refine (ints.to_any _ xs2 _ (H2.out.below BE22.out) hn2).mono ?_
  rintro e wc23 ⟨ux2, rfl, hu, hb⟩
  obtain ⟨x2a, x2n, x2c, rfl⟩ := hu.ints.shape
  clear p0c0 p0c1 p0c2 p0c3 p0c4 bWc0 bWc1 bWc2 bWc3 bWc4 bx0c0 bx0c1 bx0c2 bx0c3 bx0c4
  have BE24 := Lib.hid (below_tr BE22.out hb)
  have HBW24 := Lib.hid (below_tr HBW22.out hb)
  have OWx024 := Lib.hid (OWx022.out.keep hb)
  have OWx124 := Lib.hid (OWx1.out.keep hb)
  have KBp024 := Lib.hid (KBp022.out.below hb)
  have KBbW24 := Lib.hid (KBbW22.out.below hb)
  have KBbx024 := Lib.hid (KBbx022.out.below hb)
  have ZZ24 : Hid (wc21.heap.size ≤ wc23.heap.size) := Lib.hid (by have := (hb).size; simpa using this)
  clear BE22 HBW22 OWx022 OWx1 KBp022 KBbW22 KBbx022
  obtain ⟨p0c0, p0c1, p0c2, p0c3, p0c4⟩ := four_cells KBp024.out
  obtain ⟨bWc0, bWc1, bWc2, bWc3, bWc4⟩ := four_cells KBbW24.out
  obtain ⟨bx0c0, bx0c1, bx0c2, bx0c3, bx0c4⟩ := four_cells KBbx024.out
  have OWx2 := Lib.hid (hu.mono (B' := wc21.heap.size) (by simp) (Nat.le_refl _))
  clear hu hb
  go_wp2_with fail
  refine (gask.impl_any x0 y0 (.slice x0a x0n x0c) ws0 (.slice x0d x0m x0e) xss0 (.slice x1a x1n x1c) (.slice x2a x2n x2c) xs1 xs2 _ OWx024.out.view OWx124.out.ints OWx2.out.ints hn0 hm0).mono ?_
  rintro e wf25 ⟨vG, uG, rfl, hu, hb⟩
  obtain ⟨Ga, Gn, Gc, Gd, Gm, Ge, rfl, rfl⟩ := hu.view.shape
  clear p0c0 p0c1 p0c2 p0c3 p0c4 bWc0 bWc1 bWc2 bWc3 bWc4 bx0c0 bx0c1 bx0c2 bx0c3 bx0c4
  have BE26 := Lib.hid (below_tr BE24.out hb)
  have HBW26 := Lib.hid (below_tr HBW24.out hb)
  have OWx026 := Lib.hid (OWx024.out.keep hb)
  have OWx126 := Lib.hid (OWx124.out.keep hb)
  have OWx226 := Lib.hid (OWx2.out.keep hb)
  have KBp026 := Lib.hid (KBp024.out.below hb)
  have KBbW26 := Lib.hid (KBbW24.out.below hb)
  have KBbx026 := Lib.hid (KBbx024.out.below hb)
  have ZZ26 : Hid (wc23.heap.size ≤ wf25.heap.size) := Lib.hid (by have := (hb).size; simpa using this)
  clear BE24 HBW24 OWx024 OWx124 OWx2 KBp024 KBbW24 KBbx024
  obtain ⟨p0c0, p0c1, p0c2, p0c3, p0c4⟩ := four_cells KBp026.out
  obtain ⟨bWc0, bWc1, bWc2, bWc3, bWc4⟩ := four_cells KBbW26.out
  obtain ⟨bx0c0, bx0c1, bx0c2, bx0c3, bx0c4⟩ := four_cells KBbx026.out
  have OWG := Lib.hid (hu.mono (B' := wc23.heap.size) (by simp) (Nat.le_refl _))
  clear hu hb
  go_wp2_with fail
  have BE27 := Lib.hid (below_al BE26.out (.cells #[.int .i64 ((gask.res x0 y0 ws0 xss0 xs1 xs2).x), .int .i64 ((gask.res x0 y0 ws0 xss0 xs1 xs2).y), .slice Ga Gn Gc, .slice Gd Gm Ge] 25))
  have HBW27 := Lib.hid (below_al HBW26.out (.cells #[.int .i64 ((gask.res x0 y0 ws0 xss0 xs1 xs2).x), .int .i64 ((gask.res x0 y0 ws0 xss0 xs1 xs2).y), .slice Ga Gn Gc, .slice Gd Gm Ge] 25))
  have OWx027 := Lib.hid (OWx026.out.keep (below_al (Below.refl _ _) (.cells #[.int .i64 ((gask.res x0 y0 ws0 xss0 xs1 xs2).x), .int .i64 ((gask.res x0 y0 ws0 xss0 xs1 xs2).y), .slice Ga Gn Gc, .slice Gd Gm Ge] 25)))
  have OWx127 := Lib.hid (OWx126.out.keep (below_al (Below.refl _ _) (.cells #[.int .i64 ((gask.res x0 y0 ws0 xss0 xs1 xs2).x), .int .i64 ((gask.res x0 y0 ws0 xss0 xs1 xs2).y), .slice Ga Gn Gc, .slice Gd Gm Ge] 25)))
  have OWx227 := Lib.hid (OWx226.out.keep (below_al (Below.refl _ _) (.cells #[.int .i64 ((gask.res x0 y0 ws0 xss0 xs1 xs2).x), .int .i64 ((gask.res x0 y0 ws0 xss0 xs1 xs2).y), .slice Ga Gn Gc, .slice Gd Gm Ge] 25)))
  have OWG27 := Lib.hid (OWG.out.keep (below_al (Below.refl _ _) (.cells #[.int .i64 ((gask.res x0 y0 ws0 xss0 xs1 xs2).x), .int .i64 ((gask.res x0 y0 ws0 xss0 xs1 xs2).y), .slice Ga Gn Gc, .slice Gd Gm Ge] 25)))
  have KBp027 := Lib.hid (KBp026.out.alloc (.cells #[.int .i64 ((gask.res x0 y0 ws0 xss0 xs1 xs2).x), .int .i64 ((gask.res x0 y0 ws0 xss0 xs1 xs2).y), .slice Ga Gn Gc, .slice Gd Gm Ge] 25))
  have KBbW27 := Lib.hid (KBbW26.out.alloc (.cells #[.int .i64 ((gask.res x0 y0 ws0 xss0 xs1 xs2).x), .int .i64 ((gask.res x0 y0 ws0 xss0 xs1 xs2).y), .slice Ga Gn Gc, .slice Gd Gm Ge] 25))
  have KBbx027 := Lib.hid (KBbx026.out.alloc (.cells #[.int .i64 ((gask.res x0 y0 ws0 xss0 xs1 xs2).x), .int .i64 ((gask.res x0 y0 ws0 xss0 xs1 xs2).y), .slice Ga Gn Gc, .slice Gd Gm Ge] 25))
  have KBbG27 := Lib.hid (Blk.new wf25 25 #[.int .i64 ((gask.res x0 y0 ws0 xss0 xs1 xs2).x), .int .i64 ((gask.res x0 y0 ws0 xss0 xs1 xs2).y), .slice Ga Gn Gc, .slice Gd Gm Ge])
  clear BE26 HBW26 OWx026 OWx126 OWx226 OWG KBp026 KBbW26 KBbx026
  have tk0 : (((gask.res x0 y0 ws0 xss0 xs1 xs2).ok) != ((gask.res x0 y0 ws0 xss0 xs1 xs2).ok)) = false := bne_self_eq_false _
  go_wp2_with fail
  refine (game.eq_same ((gask.res x0 y0 ws0 xss0 xs1 xs2).x) ((gask.res x0 y0 ws0 xss0 xs1 xs2).y) _ _ ((gask.res x0 y0 ws0 xss0 xs1 xs2).ws) _ _ ((gask.res x0 y0 ws0 xss0 xs1 xs2).rows) _ OWG27.out.view (VWW.out.below HBW27.out) (gask.len_ws x0 y0 ws0 xss0 xs1 xs2) (gask.tot x0 y0 ws0 xss0 xs1 xs2)).mono ?_
  rintro e we28 ⟨rfl, hb⟩
  clear p0c0 p0c1 p0c2 p0c3 p0c4 bWc0 bWc1 bWc2 bWc3 bWc4 bx0c0 bx0c1 bx0c2 bx0c3 bx0c4
  have BE29 := Lib.hid (below_tr BE27.out hb)
  have HBW29 := Lib.hid (below_tr HBW27.out hb)
  have OWx029 := Lib.hid (OWx027.out.keep hb)
  have OWx129 := Lib.hid (OWx127.out.keep hb)
  have OWx229 := Lib.hid (OWx227.out.keep hb)
  have OWG29 := Lib.hid (OWG27.out.keep hb)
  have KBp029 := Lib.hid (KBp027.out.below hb)
  have KBbW29 := Lib.hid (KBbW27.out.below hb)
  have KBbx029 := Lib.hid (KBbx027.out.below hb)
  have KBbG29 := Lib.hid (KBbG27.out.below hb)
  have ZZ29 : Hid (wf25.heap.size + 1 ≤ we28.heap.size) := Lib.hid (by have := (hb).size; simpa using this)
  clear BE27 HBW27 OWx027 OWx127 OWx227 OWG27 KBp027 KBbW27 KBbx027 KBbG27
  obtain ⟨p0c0, p0c1, p0c2, p0c3, p0c4⟩ := four_cells KBp029.out
  obtain ⟨bWc0, bWc1, bWc2, bWc3, bWc4⟩ := four_cells KBbW29.out
  obtain ⟨bx0c0, bx0c1, bx0c2, bx0c3, bx0c4⟩ := four_cells KBbx029.out
  obtain ⟨bGc0, bGc1, bGc2, bGc3, bGc4⟩ := four_cells KBbG29.out
  clear hb
  go_wp2_with fail
  have HA := Lib.hid (H0.out.below BE29.out)
  have HX := Lib.hid (OWx029.out.view)
  go_region_held3 (fun w' => w'.cell? ⟨w.heap.size, 0, none⟩ = some (.int .i64 x0) ∧ w'.cell? ⟨w.heap.size, 1, none⟩ = some (.int .i64 y0) ∧ w'.cell? ⟨w.heap.size, 2, none⟩ = some (.slice wa0 wn0 wc0) ∧ w'.cell? ⟨w.heap.size, 3, none⟩ = some (.slice va0 vn0 vc0) ∧ w'.cell? ⟨wc18.heap.size, 0, none⟩ = some (.int .i64 x0) ∧ w'.cell? ⟨wc18.heap.size, 1, none⟩ = some (.int .i64 y0) ∧ w'.cell? ⟨wc18.heap.size, 2, none⟩ = some (.slice x0a x0n x0c) ∧ w'.cell? ⟨wc18.heap.size, 3, none⟩ = some (.slice x0d x0m x0e) ∧ Below we28.heap.size we28 w')
    ((refine held8 p0c0 p0c1 p0c2 p0c3 bx0c0 bx0c1 bx0c2 bx0c3 ?_; repeat (first | exact Below.refl _ _ | assumption | refine below_dr ?_ | refine below_tr ?_ (by assumption))))
    (first | (go_at_call 24; refine (game.to_any x0 y0 _ ws0 _ xss0 _ (HA.out.below ?_) hn0 hm0).mono ?_; (simp [*]); rintro e wq ⟨vq, uq, rfl, huq, hbq⟩) | (go_at_call 17; refine (game.eq_same x0 y0 _ _ ws0 _ _ xss0 _ (HX.out.below (below_tr (below_dr (Below.refl _ _)) hbq)) huq.view hn0 hm0).mono ?_; rintro e wd30 ⟨rfl, hbr⟩))
  have hbt := below_tr (below_tr (below_dr (Below.refl _ _)) hbq) hbr
  clear HA HX huq hbq hbr
  clear p0c0 p0c1 p0c2 p0c3 p0c4 bWc0 bWc1 bWc2 bWc3 bWc4 bx0c0 bx0c1 bx0c2 bx0c3 bx0c4 bGc0 bGc1 bGc2 bGc3 bGc4
  have BE31 := Lib.hid (below_tr BE29.out hbt)
  have HBW31 := Lib.hid (below_tr HBW29.out hbt)
  have OWx031 := Lib.hid (OWx029.out.keep hbt)
  have OWx131 := Lib.hid (OWx129.out.keep hbt)
  have OWx231 := Lib.hid (OWx229.out.keep hbt)
  have OWG31 := Lib.hid (OWG29.out.keep hbt)
  have KBp031 := Lib.hid (KBp029.out.below hbt)
  have KBbW31 := Lib.hid (KBbW29.out.below hbt)
  have KBbx031 := Lib.hid (KBbx029.out.below hbt)
  have KBbG31 := Lib.hid (KBbG29.out.below hbt)
  have ZZ31 : Hid (we28.heap.size ≤ wd30.heap.size) := Lib.hid (by have := (hbt).size; simpa using this)
  clear BE29 HBW29 OWx029 OWx129 OWx229 OWG29 KBp029 KBbW29 KBbx029 KBbG29
  obtain ⟨p0c0, p0c1, p0c2, p0c3, p0c4⟩ := four_cells KBp031.out
  obtain ⟨bWc0, bWc1, bWc2, bWc3, bWc4⟩ := four_cells KBbW31.out
  obtain ⟨bx0c0, bx0c1, bx0c2, bx0c3, bx0c4⟩ := four_cells KBbx031.out
  obtain ⟨bGc0, bGc1, bGc2, bGc3, bGc4⟩ := four_cells KBbG31.out
  clear hbt
  go_wp2_with fail
  go_wp2_with fail
  refine (ints.to_any _ xs1 _ (H1.out.below BE31.out) hn1).mono ?_
  rintro e wc32 ⟨uy1, rfl, hu, hb⟩
  obtain ⟨y1a, y1n, y1c, rfl⟩ := hu.ints.shape
  clear p0c0 p0c1 p0c2 p0c3 p0c4 bWc0 bWc1 bWc2 bWc3 bWc4 bx0c0 bx0c1 bx0c2 bx0c3 bx0c4 bGc0 bGc1 bGc2 bGc3 bGc4
  have BE33 := Lib.hid (below_tr BE31.out hb)
  have HBW33 := Lib.hid (below_tr HBW31.out hb)
  have OWx033 := Lib.hid (OWx031.out.keep hb)
  have OWx133 := Lib.hid (OWx131.out.keep hb)
  have OWx233 := Lib.hid (OWx231.out.keep hb)
  have OWG33 := Lib.hid (OWG31.out.keep hb)
  have KBp033 := Lib.hid (KBp031.out.below hb)
  have KBbW33 := Lib.hid (KBbW31.out.below hb)
  have KBbx033 := Lib.hid (KBbx031.out.below hb)
  have KBbG33 := Lib.hid (KBbG31.out.below hb)
  have ZZ33 : Hid (wd30.heap.size ≤ wc32.heap.size) := Lib.hid (by have := (hb).size; simpa using this)
  clear BE31 HBW31 OWx031 OWx131 OWx231 OWG31 KBp031 KBbW31 KBbx031 KBbG31
  obtain ⟨p0c0, p0c1, p0c2, p0c3, p0c4⟩ := four_cells KBp033.out
  obtain ⟨bWc0, bWc1, bWc2, bWc3, bWc4⟩ := four_cells KBbW33.out
  obtain ⟨bx0c0, bx0c1, bx0c2, bx0c3, bx0c4⟩ := four_cells KBbx033.out
  obtain ⟨bGc0, bGc1, bGc2, bGc3, bGc4⟩ := four_cells KBbG33.out
  have OWy1 := Lib.hid (hu.mono (B' := wd30.heap.size) (by simp) (Nat.le_refl _))
  clear hu hb
  go_wp2_with fail
  refine (ints.eq_same _ _ xs1 _ OWx133.out.ints OWy1.out.ints hn1).mono ?_
  rintro e we34 ⟨rfl, hb⟩
  clear p0c0 p0c1 p0c2 p0c3 p0c4 bWc0 bWc1 bWc2 bWc3 bWc4 bx0c0 bx0c1 bx0c2 bx0c3 bx0c4 bGc0 bGc1 bGc2 bGc3 bGc4
  have BE35 := Lib.hid (below_tr BE33.out hb)
  have HBW35 := Lib.hid (below_tr HBW33.out hb)
  have OWx035 := Lib.hid (OWx033.out.keep hb)
  have OWx135 := Lib.hid (OWx133.out.keep hb)
  have OWx235 := Lib.hid (OWx233.out.keep hb)
  have OWG35 := Lib.hid (OWG33.out.keep hb)
  have OWy135 := Lib.hid (OWy1.out.keep hb)
  have KBp035 := Lib.hid (KBp033.out.below hb)
  have KBbW35 := Lib.hid (KBbW33.out.below hb)
  have KBbx035 := Lib.hid (KBbx033.out.below hb)
  have KBbG35 := Lib.hid (KBbG33.out.below hb)
  have ZZ35 : Hid (wc32.heap.size ≤ we34.heap.size) := Lib.hid (by have := (hb).size; simpa using this)
  clear BE33 HBW33 OWx033 OWx133 OWx233 OWG33 OWy1 KBp033 KBbW33 KBbx033 KBbG33
  obtain ⟨p0c0, p0c1, p0c2, p0c3, p0c4⟩ := four_cells KBp035.out
  obtain ⟨bWc0, bWc1, bWc2, bWc3, bWc4⟩ := four_cells KBbW35.out
  obtain ⟨bx0c0, bx0c1, bx0c2, bx0c3, bx0c4⟩ := four_cells KBbx035.out
  obtain ⟨bGc0, bGc1, bGc2, bGc3, bGc4⟩ := four_cells KBbG35.out
  clear hb
  clear OWy135
  go_wp2_with fail
  go_wp2_with fail
  refine (ints.to_any _ xs2 _ (H2.out.below BE35.out) hn2).mono ?_
  rintro e wc36 ⟨uy2, rfl, hu, hb⟩
  obtain ⟨y2a, y2n, y2c, rfl⟩ := hu.ints.shape
  clear p0c0 p0c1 p0c2 p0c3 p0c4 bWc0 bWc1 bWc2 bWc3 bWc4 bx0c0 bx0c1 bx0c2 bx0c3 bx0c4 bGc0 bGc1 bGc2 bGc3 bGc4
  have BE37 := Lib.hid (below_tr BE35.out hb)
  have HBW37 := Lib.hid (below_tr HBW35.out hb)
  have OWx037 := Lib.hid (OWx035.out.keep hb)
  have OWx137 := Lib.hid (OWx135.out.keep hb)
  have OWx237 := Lib.hid (OWx235.out.keep hb)
  have OWG37 := Lib.hid (OWG35.out.keep hb)
  have KBp037 := Lib.hid (KBp035.out.below hb)
  have KBbW37 := Lib.hid (KBbW35.out.below hb)
  have KBbx037 := Lib.hid (KBbx035.out.below hb)
  have KBbG37 := Lib.hid (KBbG35.out.below hb)
  have ZZ37 : Hid (we34.heap.size ≤ wc36.heap.size) := Lib.hid (by have := (hb).size; simpa using this)
  clear BE35 HBW35 OWx035 OWx135 OWx235 OWG35 KBp035 KBbW35 KBbx035 KBbG35
  obtain ⟨p0c0, p0c1, p0c2, p0c3, p0c4⟩ := four_cells KBp037.out
  obtain ⟨bWc0, bWc1, bWc2, bWc3, bWc4⟩ := four_cells KBbW37.out
  obtain ⟨bx0c0, bx0c1, bx0c2, bx0c3, bx0c4⟩ := four_cells KBbx037.out
  obtain ⟨bGc0, bGc1, bGc2, bGc3, bGc4⟩ := four_cells KBbG37.out
  have OWy2 := Lib.hid (hu.mono (B' := we34.heap.size) (by simp) (Nat.le_refl _))
  clear hu hb
  go_wp2_with fail
  refine (ints.eq_same _ _ xs2 _ OWx237.out.ints OWy2.out.ints hn2).mono ?_
  rintro e we38 ⟨rfl, hb⟩
  clear p0c0 p0c1 p0c2 p0c3 p0c4 bWc0 bWc1 bWc2 bWc3 bWc4 bx0c0 bx0c1 bx0c2 bx0c3 bx0c4 bGc0 bGc1 bGc2 bGc3 bGc4
  have BE39 := Lib.hid (below_tr BE37.out hb)
  have HBW39 := Lib.hid (below_tr HBW37.out hb)
  have OWx039 := Lib.hid (OWx037.out.keep hb)
  have OWx139 := Lib.hid (OWx137.out.keep hb)
  have OWx239 := Lib.hid (OWx237.out.keep hb)
  have OWG39 := Lib.hid (OWG37.out.keep hb)
  have OWy239 := Lib.hid (OWy2.out.keep hb)
  have KBp039 := Lib.hid (KBp037.out.below hb)
  have KBbW39 := Lib.hid (KBbW37.out.below hb)
  have KBbx039 := Lib.hid (KBbx037.out.below hb)
  have KBbG39 := Lib.hid (KBbG37.out.below hb)
  have ZZ39 : Hid (wc36.heap.size ≤ we38.heap.size) := Lib.hid (by have := (hb).size; simpa using this)
  clear BE37 HBW37 OWx037 OWx137 OWx237 OWG37 OWy2 KBp037 KBbW37 KBbx037 KBbG37
  obtain ⟨p0c0, p0c1, p0c2, p0c3, p0c4⟩ := four_cells KBp039.out
  obtain ⟨bWc0, bWc1, bWc2, bWc3, bWc4⟩ := four_cells KBbW39.out
  obtain ⟨bx0c0, bx0c1, bx0c2, bx0c3, bx0c4⟩ := four_cells KBbx039.out
  obtain ⟨bGc0, bGc1, bGc2, bGc3, bGc4⟩ := four_cells KBbG39.out
  clear hb
  clear OWy239
  have bl0 := rws.before_le xss0 xss0.length
  go_wp2_with fail
  refine (game.mark_any x0 y0 _ ws0 _ xss0 (1) (wf15.heap.size + 1) (wc18.heap.size) _ OWx039.out hn0 hm0 (by omega) (by omega)).mono ?_
  rintro e wm40 ⟨rfl, hi, S, wl41, hb, hw, hs⟩
  clear OWx039
  clear p0c0 p0c1 p0c2 p0c3 p0c4 bWc0 bWc1 bWc2 bWc3 bWc4 bx0c0 bx0c1 bx0c2 bx0c3 bx0c4 bGc0 bGc1 bGc2 bGc3 bGc4
  have BE42 := Lib.hid (below_tr BE39.out hb)
  have HBW42 := Lib.hid (below_tr HBW39.out hb)
  have OWx142 := Lib.hid (OWx139.out.keep hb)
  have OWx242 := Lib.hid (OWx239.out.keep hb)
  have OWG42 := Lib.hid (OWG39.out.keep hb)
  have KBp042 := Lib.hid (KBp039.out.below hb)
  have KBbW42 := Lib.hid (KBbW39.out.below hb)
  have KBbx042 := Lib.hid (KBbx039.out.below hb)
  have KBbG42 := Lib.hid (KBbG39.out.below hb)
  have ZZ42 : Hid (we38.heap.size ≤ wl41.heap.size) := Lib.hid (by have := (hb).size; simpa using this)
  clear BE39 HBW39 OWx139 OWx239 OWG39 KBp039 KBbW39 KBbx039 KBbG39
  obtain ⟨p0c0, p0c1, p0c2, p0c3, p0c4⟩ := four_cells KBp042.out
  obtain ⟨bWc0, bWc1, bWc2, bWc3, bWc4⟩ := four_cells KBbW42.out
  obtain ⟨bx0c0, bx0c1, bx0c2, bx0c3, bx0c4⟩ := four_cells KBbx042.out
  obtain ⟨bGc0, bGc1, bGc2, bGc3, bGc4⟩ := four_cells KBbG42.out
  clear p0c0 p0c1 p0c2 p0c3 p0c4 bWc0 bWc1 bWc2 bWc3 bWc4 bx0c0 bx0c1 bx0c2 bx0c3 bx0c4 bGc0 bGc1 bGc2 bGc3 bGc4
  have BE43 := Lib.hid (BE42.out.trans (hw.below (fun p hp => by have := (hs p hp).1; have := ZZ8.out; have := ZZ10.out; have := ZZ12.out; have := ZZ14.out; have := ZZ16.out; have := ZZ19.out; have := ZZ22.out; have := ZZ24.out; have := ZZ26.out; have := ZZ29.out; have := ZZ31.out; have := ZZ33.out; have := ZZ35.out; have := ZZ37.out; have := ZZ39.out; have := ZZ42.out; omega)))
  have HBW43 := Lib.hid (HBW42.out.trans (hw.below (fun p hp => by have := (hs p hp).1; have := ZZ8.out; have := ZZ10.out; have := ZZ12.out; have := ZZ14.out; have := ZZ16.out; have := ZZ19.out; have := ZZ22.out; have := ZZ24.out; have := ZZ26.out; have := ZZ29.out; have := ZZ31.out; have := ZZ33.out; have := ZZ35.out; have := ZZ37.out; have := ZZ39.out; have := ZZ42.out; omega)))
  have OWx143 := Lib.hid (OWx142.out.wrote hw (fun p hp => by have := hs p hp; have := ZZ8.out; have := ZZ10.out; have := ZZ12.out; have := ZZ14.out; have := ZZ16.out; have := ZZ19.out; have := ZZ22.out; have := ZZ24.out; have := ZZ26.out; have := ZZ29.out; have := ZZ31.out; have := ZZ33.out; have := ZZ35.out; have := ZZ37.out; have := ZZ39.out; have := ZZ42.out; omega))
  have OWx243 := Lib.hid (OWx242.out.wrote hw (fun p hp => by have := hs p hp; have := ZZ8.out; have := ZZ10.out; have := ZZ12.out; have := ZZ14.out; have := ZZ16.out; have := ZZ19.out; have := ZZ22.out; have := ZZ24.out; have := ZZ26.out; have := ZZ29.out; have := ZZ31.out; have := ZZ33.out; have := ZZ35.out; have := ZZ37.out; have := ZZ39.out; have := ZZ42.out; omega))
  have OWG43 := Lib.hid (OWG42.out.wrote hw (fun p hp => by have := hs p hp; have := ZZ8.out; have := ZZ10.out; have := ZZ12.out; have := ZZ14.out; have := ZZ16.out; have := ZZ19.out; have := ZZ22.out; have := ZZ24.out; have := ZZ26.out; have := ZZ29.out; have := ZZ31.out; have := ZZ33.out; have := ZZ35.out; have := ZZ37.out; have := ZZ39.out; have := ZZ42.out; omega))
  have KBp043 := Lib.hid (KBp042.out.wrote hw (fun p hp e => by have := hs p hp; have := ZZ8.out; have := ZZ10.out; have := ZZ12.out; have := ZZ14.out; have := ZZ16.out; have := ZZ19.out; have := ZZ22.out; have := ZZ24.out; have := ZZ26.out; have := ZZ29.out; have := ZZ31.out; have := ZZ33.out; have := ZZ35.out; have := ZZ37.out; have := ZZ39.out; have := ZZ42.out; omega))
  have KBbW43 := Lib.hid (KBbW42.out.wrote hw (fun p hp e => by have := hs p hp; have := ZZ8.out; have := ZZ10.out; have := ZZ12.out; have := ZZ14.out; have := ZZ16.out; have := ZZ19.out; have := ZZ22.out; have := ZZ24.out; have := ZZ26.out; have := ZZ29.out; have := ZZ31.out; have := ZZ33.out; have := ZZ35.out; have := ZZ37.out; have := ZZ39.out; have := ZZ42.out; omega))
  have KBbx043 := Lib.hid (KBbx042.out.wrote hw (fun p hp e => by have := hs p hp; have := ZZ8.out; have := ZZ10.out; have := ZZ12.out; have := ZZ14.out; have := ZZ16.out; have := ZZ19.out; have := ZZ22.out; have := ZZ24.out; have := ZZ26.out; have := ZZ29.out; have := ZZ31.out; have := ZZ33.out; have := ZZ35.out; have := ZZ37.out; have := ZZ39.out; have := ZZ42.out; omega))
  have KBbG43 := Lib.hid (KBbG42.out.wrote hw (fun p hp e => by have := hs p hp; have := ZZ8.out; have := ZZ10.out; have := ZZ12.out; have := ZZ14.out; have := ZZ16.out; have := ZZ19.out; have := ZZ22.out; have := ZZ24.out; have := ZZ26.out; have := ZZ29.out; have := ZZ31.out; have := ZZ33.out; have := ZZ35.out; have := ZZ37.out; have := ZZ39.out; have := ZZ42.out; omega))
  have ZZ43 : Hid (wl41.heap.size ≤ wm40.heap.size) := Lib.hid (by have := hw.size; omega)
  clear BE42 HBW42 OWx142 OWx242 OWG42 KBp042 KBbW42 KBbx042 KBbG42
  obtain ⟨p0c0, p0c1, p0c2, p0c3, p0c4⟩ := four_cells KBp043.out
  obtain ⟨bWc0, bWc1, bWc2, bWc3, bWc4⟩ := four_cells KBbW43.out
  obtain ⟨bx0c0, bx0c1, bx0c2, bx0c3, bx0c4⟩ := four_cells KBbx043.out
  obtain ⟨bGc0, bGc1, bGc2, bGc3, bGc4⟩ := four_cells KBbG43.out
  clear hb
  clear hw hs
  clear hi
  go_wp2_with fail
  refine (ints.mark_own _ xs1 (1 + (ws0.length : Int) + (rws.before xss0 xss0.length : Int)) (wc18.heap.size + 1) (wc21.heap.size) _ OWx143.out hn1 (by omega) (by omega)).mono ?_
  rintro e wm44 ⟨rfl, hi, S, hw, hs⟩
  clear OWx143
  clear p0c0 p0c1 p0c2 p0c3 p0c4 bWc0 bWc1 bWc2 bWc3 bWc4 bx0c0 bx0c1 bx0c2 bx0c3 bx0c4 bGc0 bGc1 bGc2 bGc3 bGc4
  have BE46 := Lib.hid (BE43.out.trans (hw.below (fun p hp => by have := (hs p hp).1; have := ZZ8.out; have := ZZ10.out; have := ZZ12.out; have := ZZ14.out; have := ZZ16.out; have := ZZ19.out; have := ZZ22.out; have := ZZ24.out; have := ZZ26.out; have := ZZ29.out; have := ZZ31.out; have := ZZ33.out; have := ZZ35.out; have := ZZ37.out; have := ZZ39.out; have := ZZ42.out; have := ZZ43.out; omega)))
  have HBW46 := Lib.hid (HBW43.out.trans (hw.below (fun p hp => by have := (hs p hp).1; have := ZZ8.out; have := ZZ10.out; have := ZZ12.out; have := ZZ14.out; have := ZZ16.out; have := ZZ19.out; have := ZZ22.out; have := ZZ24.out; have := ZZ26.out; have := ZZ29.out; have := ZZ31.out; have := ZZ33.out; have := ZZ35.out; have := ZZ37.out; have := ZZ39.out; have := ZZ42.out; have := ZZ43.out; omega)))
  have OWx246 := Lib.hid (OWx243.out.wrote hw (fun p hp => by have := hs p hp; have := ZZ8.out; have := ZZ10.out; have := ZZ12.out; have := ZZ14.out; have := ZZ16.out; have := ZZ19.out; have := ZZ22.out; have := ZZ24.out; have := ZZ26.out; have := ZZ29.out; have := ZZ31.out; have := ZZ33.out; have := ZZ35.out; have := ZZ37.out; have := ZZ39.out; have := ZZ42.out; have := ZZ43.out; omega))
  have OWG46 := Lib.hid (OWG43.out.wrote hw (fun p hp => by have := hs p hp; have := ZZ8.out; have := ZZ10.out; have := ZZ12.out; have := ZZ14.out; have := ZZ16.out; have := ZZ19.out; have := ZZ22.out; have := ZZ24.out; have := ZZ26.out; have := ZZ29.out; have := ZZ31.out; have := ZZ33.out; have := ZZ35.out; have := ZZ37.out; have := ZZ39.out; have := ZZ42.out; have := ZZ43.out; omega))
  have KBp046 := Lib.hid (KBp043.out.wrote hw (fun p hp e => by have := hs p hp; have := ZZ8.out; have := ZZ10.out; have := ZZ12.out; have := ZZ14.out; have := ZZ16.out; have := ZZ19.out; have := ZZ22.out; have := ZZ24.out; have := ZZ26.out; have := ZZ29.out; have := ZZ31.out; have := ZZ33.out; have := ZZ35.out; have := ZZ37.out; have := ZZ39.out; have := ZZ42.out; have := ZZ43.out; omega))
  have KBbW46 := Lib.hid (KBbW43.out.wrote hw (fun p hp e => by have := hs p hp; have := ZZ8.out; have := ZZ10.out; have := ZZ12.out; have := ZZ14.out; have := ZZ16.out; have := ZZ19.out; have := ZZ22.out; have := ZZ24.out; have := ZZ26.out; have := ZZ29.out; have := ZZ31.out; have := ZZ33.out; have := ZZ35.out; have := ZZ37.out; have := ZZ39.out; have := ZZ42.out; have := ZZ43.out; omega))
  have KBbx046 := Lib.hid (KBbx043.out.wrote hw (fun p hp e => by have := hs p hp; have := ZZ8.out; have := ZZ10.out; have := ZZ12.out; have := ZZ14.out; have := ZZ16.out; have := ZZ19.out; have := ZZ22.out; have := ZZ24.out; have := ZZ26.out; have := ZZ29.out; have := ZZ31.out; have := ZZ33.out; have := ZZ35.out; have := ZZ37.out; have := ZZ39.out; have := ZZ42.out; have := ZZ43.out; omega))
  have KBbG46 := Lib.hid (KBbG43.out.wrote hw (fun p hp e => by have := hs p hp; have := ZZ8.out; have := ZZ10.out; have := ZZ12.out; have := ZZ14.out; have := ZZ16.out; have := ZZ19.out; have := ZZ22.out; have := ZZ24.out; have := ZZ26.out; have := ZZ29.out; have := ZZ31.out; have := ZZ33.out; have := ZZ35.out; have := ZZ37.out; have := ZZ39.out; have := ZZ42.out; have := ZZ43.out; omega))
  have ZZ46 : Hid (wm40.heap.size ≤ wm44.heap.size) := Lib.hid (by have := hw.size; omega)
  clear BE43 HBW43 OWx243 OWG43 KBp043 KBbW43 KBbx043 KBbG43
  obtain ⟨p0c0, p0c1, p0c2, p0c3, p0c4⟩ := four_cells KBp046.out
  obtain ⟨bWc0, bWc1, bWc2, bWc3, bWc4⟩ := four_cells KBbW46.out
  obtain ⟨bx0c0, bx0c1, bx0c2, bx0c3, bx0c4⟩ := four_cells KBbx046.out
  obtain ⟨bGc0, bGc1, bGc2, bGc3, bGc4⟩ := four_cells KBbG46.out
  clear hw hs
  clear hi
  go_wp2_with fail
  refine (ints.mark_own _ xs2 (1 + (ws0.length : Int) + (rws.before xss0 xss0.length : Int) + (xs1.length : Int)) (wc21.heap.size) (wc23.heap.size) _ OWx246.out hn2 (by omega) (by omega)).mono ?_
  rintro e wm47 ⟨rfl, hi, S, hw, hs⟩
  clear OWx246
  clear p0c0 p0c1 p0c2 p0c3 p0c4 bWc0 bWc1 bWc2 bWc3 bWc4 bx0c0 bx0c1 bx0c2 bx0c3 bx0c4 bGc0 bGc1 bGc2 bGc3 bGc4
  have BE49 := Lib.hid (BE46.out.trans (hw.below (fun p hp => by have := (hs p hp).1; have := ZZ8.out; have := ZZ10.out; have := ZZ12.out; have := ZZ14.out; have := ZZ16.out; have := ZZ19.out; have := ZZ22.out; have := ZZ24.out; have := ZZ26.out; have := ZZ29.out; have := ZZ31.out; have := ZZ33.out; have := ZZ35.out; have := ZZ37.out; have := ZZ39.out; have := ZZ42.out; have := ZZ43.out; have := ZZ46.out; omega)))
  have HBW49 := Lib.hid (HBW46.out.trans (hw.below (fun p hp => by have := (hs p hp).1; have := ZZ8.out; have := ZZ10.out; have := ZZ12.out; have := ZZ14.out; have := ZZ16.out; have := ZZ19.out; have := ZZ22.out; have := ZZ24.out; have := ZZ26.out; have := ZZ29.out; have := ZZ31.out; have := ZZ33.out; have := ZZ35.out; have := ZZ37.out; have := ZZ39.out; have := ZZ42.out; have := ZZ43.out; have := ZZ46.out; omega)))
  have OWG49 := Lib.hid (OWG46.out.wrote hw (fun p hp => by have := hs p hp; have := ZZ8.out; have := ZZ10.out; have := ZZ12.out; have := ZZ14.out; have := ZZ16.out; have := ZZ19.out; have := ZZ22.out; have := ZZ24.out; have := ZZ26.out; have := ZZ29.out; have := ZZ31.out; have := ZZ33.out; have := ZZ35.out; have := ZZ37.out; have := ZZ39.out; have := ZZ42.out; have := ZZ43.out; have := ZZ46.out; omega))
  have KBp049 := Lib.hid (KBp046.out.wrote hw (fun p hp e => by have := hs p hp; have := ZZ8.out; have := ZZ10.out; have := ZZ12.out; have := ZZ14.out; have := ZZ16.out; have := ZZ19.out; have := ZZ22.out; have := ZZ24.out; have := ZZ26.out; have := ZZ29.out; have := ZZ31.out; have := ZZ33.out; have := ZZ35.out; have := ZZ37.out; have := ZZ39.out; have := ZZ42.out; have := ZZ43.out; have := ZZ46.out; omega))
  have KBbW49 := Lib.hid (KBbW46.out.wrote hw (fun p hp e => by have := hs p hp; have := ZZ8.out; have := ZZ10.out; have := ZZ12.out; have := ZZ14.out; have := ZZ16.out; have := ZZ19.out; have := ZZ22.out; have := ZZ24.out; have := ZZ26.out; have := ZZ29.out; have := ZZ31.out; have := ZZ33.out; have := ZZ35.out; have := ZZ37.out; have := ZZ39.out; have := ZZ42.out; have := ZZ43.out; have := ZZ46.out; omega))
  have KBbx049 := Lib.hid (KBbx046.out.wrote hw (fun p hp e => by have := hs p hp; have := ZZ8.out; have := ZZ10.out; have := ZZ12.out; have := ZZ14.out; have := ZZ16.out; have := ZZ19.out; have := ZZ22.out; have := ZZ24.out; have := ZZ26.out; have := ZZ29.out; have := ZZ31.out; have := ZZ33.out; have := ZZ35.out; have := ZZ37.out; have := ZZ39.out; have := ZZ42.out; have := ZZ43.out; have := ZZ46.out; omega))
  have KBbG49 := Lib.hid (KBbG46.out.wrote hw (fun p hp e => by have := hs p hp; have := ZZ8.out; have := ZZ10.out; have := ZZ12.out; have := ZZ14.out; have := ZZ16.out; have := ZZ19.out; have := ZZ22.out; have := ZZ24.out; have := ZZ26.out; have := ZZ29.out; have := ZZ31.out; have := ZZ33.out; have := ZZ35.out; have := ZZ37.out; have := ZZ39.out; have := ZZ42.out; have := ZZ43.out; have := ZZ46.out; omega))
  have ZZ49 : Hid (wm44.heap.size ≤ wm47.heap.size) := Lib.hid (by have := hw.size; omega)
  clear BE46 HBW46 OWG46 KBp046 KBbW46 KBbx046 KBbG46
  obtain ⟨p0c0, p0c1, p0c2, p0c3, p0c4⟩ := four_cells KBp049.out
  obtain ⟨bWc0, bWc1, bWc2, bWc3, bWc4⟩ := four_cells KBbW49.out
  obtain ⟨bx0c0, bx0c1, bx0c2, bx0c3, bx0c4⟩ := four_cells KBbx049.out
  obtain ⟨bGc0, bGc1, bGc2, bGc3, bGc4⟩ := four_cells KBbG49.out
  clear hw hs
  clear hi
  have dk : decide (1 + (ws0.length : Int) + (rws.before xss0 xss0.length : Int) + (xs1.length : Int) + (xs2.length : Int) < 0) = false := by simp; omega
  have dk' : ¬ (1 + (ws0.length : Int) + (rws.before xss0 xss0.length : Int) + (xs1.length : Int) + (xs2.length : Int) < 0) := by omega
  go_wp2_with fail
  refine (game.eq_same ((gask.res x0 y0 ws0 xss0 xs1 xs2).x) ((gask.res x0 y0 ws0 xss0 xs1 xs2).y) _ _ ((gask.res x0 y0 ws0 xss0 xs1 xs2).ws) _ _ ((gask.res x0 y0 ws0 xss0 xs1 xs2).rows) _ OWG49.out.view (VWW.out.below HBW49.out) (gask.len_ws x0 y0 ws0 xss0 xs1 xs2) (gask.tot x0 y0 ws0 xss0 xs1 xs2)).mono ?_
  rintro e we50 ⟨rfl, hb⟩
  clear p0c0 p0c1 p0c2 p0c3 p0c4 bWc0 bWc1 bWc2 bWc3 bWc4 bx0c0 bx0c1 bx0c2 bx0c3 bx0c4 bGc0 bGc1 bGc2 bGc3 bGc4
  have BE51 := Lib.hid (below_tr BE49.out hb)
  have HBW51 := Lib.hid (below_tr HBW49.out hb)
  have OWG51 := Lib.hid (OWG49.out.keep hb)
  have KBp051 := Lib.hid (KBp049.out.below hb)
  have KBbW51 := Lib.hid (KBbW49.out.below hb)
  have KBbx051 := Lib.hid (KBbx049.out.below hb)
  have KBbG51 := Lib.hid (KBbG49.out.below hb)
  have ZZ51 : Hid (wm47.heap.size ≤ we50.heap.size) := Lib.hid (by have := (hb).size; simpa using this)
  clear BE49 HBW49 OWG49 KBp049 KBbW49 KBbx049 KBbG49
  obtain ⟨p0c0, p0c1, p0c2, p0c3, p0c4⟩ := four_cells KBp051.out
  obtain ⟨bWc0, bWc1, bWc2, bWc3, bWc4⟩ := four_cells KBbW51.out
  obtain ⟨bx0c0, bx0c1, bx0c2, bx0c3, bx0c4⟩ := four_cells KBbx051.out
  obtain ⟨bGc0, bGc1, bGc2, bGc3, bGc4⟩ := four_cells KBbG51.out
  clear hb
  have blr := Nat.le_trans (rws.before_le ((gask.res x0 y0 ws0 xss0 xs1 xs2).rows) ((gask.res x0 y0 ws0 xss0 xs1 xs2).rows).length) (gask.tot x0 y0 ws0 xss0 xs1 xs2)
  have blw := (gask.len_ws x0 y0 ws0 xss0 xs1 xs2)
  have dq : ¬ (1 + (((gask.res x0 y0 ws0 xss0 xs1 xs2).ws).length : Int) + (rws.before ((gask.res x0 y0 ws0 xss0 xs1 xs2).rows) ((gask.res x0 y0 ws0 xss0 xs1 xs2).rows).length : Int) < 0) := by omega
  have tq : ((1 + (((gask.res x0 y0 ws0 xss0 xs1 xs2).ws).length : Int) + (rws.before ((gask.res x0 y0 ws0 xss0 xs1 xs2).rows) ((gask.res x0 y0 ws0 xss0 xs1 xs2).rows).length : Int)) != (1 + (((gask.res x0 y0 ws0 xss0 xs1 xs2).ws).length : Int) + (rws.before ((gask.res x0 y0 ws0 xss0 xs1 xs2).rows) ((gask.res x0 y0 ws0 xss0 xs1 xs2).rows).length : Int))) = false := bne_self_eq_false _
  go_wp2_with fail
  refine (game.mark_any ((gask.res x0 y0 ws0 xss0 xs1 xs2).x) ((gask.res x0 y0 ws0 xss0 xs1 xs2).y) _ ((gask.res x0 y0 ws0 xss0 xs1 xs2).ws) _ ((gask.res x0 y0 ws0 xss0 xs1 xs2).rows) (1) (wc23.heap.size) (wf25.heap.size) _ OWG51.out (gask.len_ws x0 y0 ws0 xss0 xs1 xs2) (gask.tot x0 y0 ws0 xss0 xs1 xs2) (by omega) (by omega)).mono ?_
  rintro e wm52 ⟨rfl, hi, S, wl53, hb, hw, hs⟩
  clear OWG51
  clear p0c0 p0c1 p0c2 p0c3 p0c4 bWc0 bWc1 bWc2 bWc3 bWc4 bx0c0 bx0c1 bx0c2 bx0c3 bx0c4 bGc0 bGc1 bGc2 bGc3 bGc4
  have BE54 := Lib.hid (below_tr BE51.out hb)
  have HBW54 := Lib.hid (below_tr HBW51.out hb)
  have KBp054 := Lib.hid (KBp051.out.below hb)
  have KBbW54 := Lib.hid (KBbW51.out.below hb)
  have KBbx054 := Lib.hid (KBbx051.out.below hb)
  have KBbG54 := Lib.hid (KBbG51.out.below hb)
  have ZZ54 : Hid (we50.heap.size ≤ wl53.heap.size) := Lib.hid (by have := (hb).size; simpa using this)
  clear BE51 HBW51 KBp051 KBbW51 KBbx051 KBbG51
  obtain ⟨p0c0, p0c1, p0c2, p0c3, p0c4⟩ := four_cells KBp054.out
  obtain ⟨bWc0, bWc1, bWc2, bWc3, bWc4⟩ := four_cells KBbW54.out
  obtain ⟨bx0c0, bx0c1, bx0c2, bx0c3, bx0c4⟩ := four_cells KBbx054.out
  obtain ⟨bGc0, bGc1, bGc2, bGc3, bGc4⟩ := four_cells KBbG54.out
  clear p0c0 p0c1 p0c2 p0c3 p0c4 bWc0 bWc1 bWc2 bWc3 bWc4 bx0c0 bx0c1 bx0c2 bx0c3 bx0c4 bGc0 bGc1 bGc2 bGc3 bGc4
  have BE55 := Lib.hid (BE54.out.trans (hw.below (fun p hp => by have := (hs p hp).1; have := ZZ8.out; have := ZZ10.out; have := ZZ12.out; have := ZZ14.out; have := ZZ16.out; have := ZZ19.out; have := ZZ22.out; have := ZZ24.out; have := ZZ26.out; have := ZZ29.out; have := ZZ31.out; have := ZZ33.out; have := ZZ35.out; have := ZZ37.out; have := ZZ39.out; have := ZZ42.out; have := ZZ43.out; have := ZZ46.out; have := ZZ49.out; have := ZZ51.out; have := ZZ54.out; omega)))
  have HBW55 := Lib.hid (HBW54.out.trans (hw.below (fun p hp => by have := (hs p hp).1; have := ZZ8.out; have := ZZ10.out; have := ZZ12.out; have := ZZ14.out; have := ZZ16.out; have := ZZ19.out; have := ZZ22.out; have := ZZ24.out; have := ZZ26.out; have := ZZ29.out; have := ZZ31.out; have := ZZ33.out; have := ZZ35.out; have := ZZ37.out; have := ZZ39.out; have := ZZ42.out; have := ZZ43.out; have := ZZ46.out; have := ZZ49.out; have := ZZ51.out; have := ZZ54.out; omega)))
  have KBp055 := Lib.hid (KBp054.out.wrote hw (fun p hp e => by have := hs p hp; have := ZZ8.out; have := ZZ10.out; have := ZZ12.out; have := ZZ14.out; have := ZZ16.out; have := ZZ19.out; have := ZZ22.out; have := ZZ24.out; have := ZZ26.out; have := ZZ29.out; have := ZZ31.out; have := ZZ33.out; have := ZZ35.out; have := ZZ37.out; have := ZZ39.out; have := ZZ42.out; have := ZZ43.out; have := ZZ46.out; have := ZZ49.out; have := ZZ51.out; have := ZZ54.out; omega))
  have KBbW55 := Lib.hid (KBbW54.out.wrote hw (fun p hp e => by have := hs p hp; have := ZZ8.out; have := ZZ10.out; have := ZZ12.out; have := ZZ14.out; have := ZZ16.out; have := ZZ19.out; have := ZZ22.out; have := ZZ24.out; have := ZZ26.out; have := ZZ29.out; have := ZZ31.out; have := ZZ33.out; have := ZZ35.out; have := ZZ37.out; have := ZZ39.out; have := ZZ42.out; have := ZZ43.out; have := ZZ46.out; have := ZZ49.out; have := ZZ51.out; have := ZZ54.out; omega))
  have KBbx055 := Lib.hid (KBbx054.out.wrote hw (fun p hp e => by have := hs p hp; have := ZZ8.out; have := ZZ10.out; have := ZZ12.out; have := ZZ14.out; have := ZZ16.out; have := ZZ19.out; have := ZZ22.out; have := ZZ24.out; have := ZZ26.out; have := ZZ29.out; have := ZZ31.out; have := ZZ33.out; have := ZZ35.out; have := ZZ37.out; have := ZZ39.out; have := ZZ42.out; have := ZZ43.out; have := ZZ46.out; have := ZZ49.out; have := ZZ51.out; have := ZZ54.out; omega))
  have KBbG55 := Lib.hid (KBbG54.out.wrote hw (fun p hp e => by have := hs p hp; have := ZZ8.out; have := ZZ10.out; have := ZZ12.out; have := ZZ14.out; have := ZZ16.out; have := ZZ19.out; have := ZZ22.out; have := ZZ24.out; have := ZZ26.out; have := ZZ29.out; have := ZZ31.out; have := ZZ33.out; have := ZZ35.out; have := ZZ37.out; have := ZZ39.out; have := ZZ42.out; have := ZZ43.out; have := ZZ46.out; have := ZZ49.out; have := ZZ51.out; have := ZZ54.out; omega))
  have ZZ55 : Hid (wl53.heap.size ≤ wm52.heap.size) := Lib.hid (by have := hw.size; omega)
  clear BE54 HBW54 KBp054 KBbW54 KBbx054 KBbG54
  obtain ⟨p0c0, p0c1, p0c2, p0c3, p0c4⟩ := four_cells KBp055.out
  obtain ⟨bWc0, bWc1, bWc2, bWc3, bWc4⟩ := four_cells KBbW55.out
  obtain ⟨bx0c0, bx0c1, bx0c2, bx0c3, bx0c4⟩ := four_cells KBbx055.out
  obtain ⟨bGc0, bGc1, bGc2, bGc3, bGc4⟩ := four_cells KBbG55.out
  clear hb
  clear hw hs
  have VWM := Lib.hid hi
  have HBM := Lib.hid (Below.refl wm52.heap.size wm52)
  clear hi
  go_wp2_with fail
  refine (game.held_any ((gask.res x0 y0 ws0 xss0 xs1 xs2).x) ((gask.res x0 y0 ws0 xss0 xs1 xs2).y) _ ((gask.res x0 y0 ws0 xss0 xs1 xs2).ws).length _ ((gask.res x0 y0 ws0 xss0 xs1 xs2).rows) 1 _ (VWM.out.below HBM.out) (gask.len_ws x0 y0 ws0 xss0 xs1 xs2) (gask.tot x0 y0 ws0 xss0 xs1 xs2) (by omega) (by omega)).mono ?_
  rintro e wh56 ⟨rfl, hb⟩
  clear p0c0 p0c1 p0c2 p0c3 p0c4 bWc0 bWc1 bWc2 bWc3 bWc4 bx0c0 bx0c1 bx0c2 bx0c3 bx0c4 bGc0 bGc1 bGc2 bGc3 bGc4
  have BE57 := Lib.hid (below_tr BE55.out hb)
  have HBW57 := Lib.hid (below_tr HBW55.out hb)
  have HBM57 := Lib.hid (below_tr HBM.out hb)
  have KBp057 := Lib.hid (KBp055.out.below hb)
  have KBbW57 := Lib.hid (KBbW55.out.below hb)
  have KBbx057 := Lib.hid (KBbx055.out.below hb)
  have KBbG57 := Lib.hid (KBbG55.out.below hb)
  have ZZ57 : Hid (wm52.heap.size ≤ wh56.heap.size) := Lib.hid (by have := (hb).size; simpa using this)
  clear BE55 HBW55 HBM KBp055 KBbW55 KBbx055 KBbG55
  obtain ⟨p0c0, p0c1, p0c2, p0c3, p0c4⟩ := four_cells KBp057.out
  obtain ⟨bWc0, bWc1, bWc2, bWc3, bWc4⟩ := four_cells KBbW57.out
  obtain ⟨bx0c0, bx0c1, bx0c2, bx0c3, bx0c4⟩ := four_cells KBbx057.out
  obtain ⟨bGc0, bGc1, bGc2, bGc3, bGc4⟩ := four_cells KBbG57.out
  clear hb
  go_wp2_with fail
  refine (game.to_any x0 y0 _ ws0 _ xss0 _ (H0.out.below BE57.out) hn0 hm0).mono ?_
  rintro e wc58 ⟨vz0, uz0, rfl, hu, hb⟩
  obtain ⟨z0a, z0n, z0c, z0d, z0m, z0e, rfl, rfl⟩ := hu.view.shape
  clear p0c0 p0c1 p0c2 p0c3 p0c4 bWc0 bWc1 bWc2 bWc3 bWc4 bx0c0 bx0c1 bx0c2 bx0c3 bx0c4 bGc0 bGc1 bGc2 bGc3 bGc4
  have BE59 := Lib.hid (below_tr BE57.out hb)
  have HBW59 := Lib.hid (below_tr HBW57.out hb)
  have HBM59 := Lib.hid (below_tr HBM57.out hb)
  have KBp059 := Lib.hid (KBp057.out.below hb)
  have KBbW59 := Lib.hid (KBbW57.out.below hb)
  have KBbx059 := Lib.hid (KBbx057.out.below hb)
  have KBbG59 := Lib.hid (KBbG57.out.below hb)
  have ZZ59 : Hid (wh56.heap.size ≤ wc58.heap.size) := Lib.hid (by have := (hb).size; simpa using this)
  clear BE57 HBW57 HBM57 KBp057 KBbW57 KBbx057 KBbG57
  obtain ⟨p0c0, p0c1, p0c2, p0c3, p0c4⟩ := four_cells KBp059.out
  obtain ⟨bWc0, bWc1, bWc2, bWc3, bWc4⟩ := four_cells KBbW59.out
  obtain ⟨bx0c0, bx0c1, bx0c2, bx0c3, bx0c4⟩ := four_cells KBbx059.out
  obtain ⟨bGc0, bGc1, bGc2, bGc3, bGc4⟩ := four_cells KBbG59.out
  have OWz0 := Lib.hid (hu.mono (B' := wh56.heap.size) (by simp) (Nat.le_refl _))
  clear hu hb
  go_wp2_with fail
  refine (ints.to_any _ xs1 _ (H1.out.below BE59.out) hn1).mono ?_
  rintro e wc60 ⟨uz1, rfl, hu, hb⟩
  obtain ⟨z1a, z1n, z1c, rfl⟩ := hu.ints.shape
  clear p0c0 p0c1 p0c2 p0c3 p0c4 bWc0 bWc1 bWc2 bWc3 bWc4 bx0c0 bx0c1 bx0c2 bx0c3 bx0c4 bGc0 bGc1 bGc2 bGc3 bGc4
  have BE61 := Lib.hid (below_tr BE59.out hb)
  have HBW61 := Lib.hid (below_tr HBW59.out hb)
  have HBM61 := Lib.hid (below_tr HBM59.out hb)
  have OWz061 := Lib.hid (OWz0.out.keep hb)
  have KBp061 := Lib.hid (KBp059.out.below hb)
  have KBbW61 := Lib.hid (KBbW59.out.below hb)
  have KBbx061 := Lib.hid (KBbx059.out.below hb)
  have KBbG61 := Lib.hid (KBbG59.out.below hb)
  have ZZ61 : Hid (wc58.heap.size ≤ wc60.heap.size) := Lib.hid (by have := (hb).size; simpa using this)
  clear BE59 HBW59 HBM59 OWz0 KBp059 KBbW59 KBbx059 KBbG59
  obtain ⟨p0c0, p0c1, p0c2, p0c3, p0c4⟩ := four_cells KBp061.out
  obtain ⟨bWc0, bWc1, bWc2, bWc3, bWc4⟩ := four_cells KBbW61.out
  obtain ⟨bx0c0, bx0c1, bx0c2, bx0c3, bx0c4⟩ := four_cells KBbx061.out
  obtain ⟨bGc0, bGc1, bGc2, bGc3, bGc4⟩ := four_cells KBbG61.out
  have OWz1 := Lib.hid (hu.mono (B' := wc58.heap.size) (by simp) (Nat.le_refl _))
  clear hu hb
  go_wp2_with fail
  refine (ints.to_any _ xs2 _ (H2.out.below BE61.out) hn2).mono ?_
  rintro e wc62 ⟨uz2, rfl, hu, hb⟩
  obtain ⟨z2a, z2n, z2c, rfl⟩ := hu.ints.shape
  clear p0c0 p0c1 p0c2 p0c3 p0c4 bWc0 bWc1 bWc2 bWc3 bWc4 bx0c0 bx0c1 bx0c2 bx0c3 bx0c4 bGc0 bGc1 bGc2 bGc3 bGc4
  have BE63 := Lib.hid (below_tr BE61.out hb)
  have HBW63 := Lib.hid (below_tr HBW61.out hb)
  have HBM63 := Lib.hid (below_tr HBM61.out hb)
  have OWz063 := Lib.hid (OWz061.out.keep hb)
  have OWz163 := Lib.hid (OWz1.out.keep hb)
  have KBp063 := Lib.hid (KBp061.out.below hb)
  have KBbW63 := Lib.hid (KBbW61.out.below hb)
  have KBbx063 := Lib.hid (KBbx061.out.below hb)
  have KBbG63 := Lib.hid (KBbG61.out.below hb)
  have ZZ63 : Hid (wc60.heap.size ≤ wc62.heap.size) := Lib.hid (by have := (hb).size; simpa using this)
  clear BE61 HBW61 HBM61 OWz061 OWz1 KBp061 KBbW61 KBbx061 KBbG61
  obtain ⟨p0c0, p0c1, p0c2, p0c3, p0c4⟩ := four_cells KBp063.out
  obtain ⟨bWc0, bWc1, bWc2, bWc3, bWc4⟩ := four_cells KBbW63.out
  obtain ⟨bx0c0, bx0c1, bx0c2, bx0c3, bx0c4⟩ := four_cells KBbx063.out
  obtain ⟨bGc0, bGc1, bGc2, bGc3, bGc4⟩ := four_cells KBbG63.out
  have OWz2 := Lib.hid (hu.mono (B' := wc60.heap.size) (by simp) (Nat.le_refl _))
  clear hu hb
  go_wp2_with fail
  refine (gask.impl_any x0 y0 (.slice z0a z0n z0c) ws0 (.slice z0d z0m z0e) xss0 (.slice z1a z1n z1c) (.slice z2a z2n z2c) xs1 xs2 _ OWz063.out.view OWz163.out.ints OWz2.out.ints hn0 hm0).mono ?_
  rintro e wf64 ⟨vHh, uHh, rfl, hu, hb⟩
  obtain ⟨Hha, Hhn, Hhc, Hhd, Hhm, Hhe, rfl, rfl⟩ := hu.view.shape
  clear p0c0 p0c1 p0c2 p0c3 p0c4 bWc0 bWc1 bWc2 bWc3 bWc4 bx0c0 bx0c1 bx0c2 bx0c3 bx0c4 bGc0 bGc1 bGc2 bGc3 bGc4
  have BE65 := Lib.hid (below_tr BE63.out hb)
  have HBW65 := Lib.hid (below_tr HBW63.out hb)
  have HBM65 := Lib.hid (below_tr HBM63.out hb)
  have OWz065 := Lib.hid (OWz063.out.keep hb)
  have OWz165 := Lib.hid (OWz163.out.keep hb)
  have OWz265 := Lib.hid (OWz2.out.keep hb)
  have KBp065 := Lib.hid (KBp063.out.below hb)
  have KBbW65 := Lib.hid (KBbW63.out.below hb)
  have KBbx065 := Lib.hid (KBbx063.out.below hb)
  have KBbG65 := Lib.hid (KBbG63.out.below hb)
  have ZZ65 : Hid (wc62.heap.size ≤ wf64.heap.size) := Lib.hid (by have := (hb).size; simpa using this)
  clear BE63 HBW63 HBM63 OWz063 OWz163 OWz2 KBp063 KBbW63 KBbx063 KBbG63
  obtain ⟨p0c0, p0c1, p0c2, p0c3, p0c4⟩ := four_cells KBp065.out
  obtain ⟨bWc0, bWc1, bWc2, bWc3, bWc4⟩ := four_cells KBbW65.out
  obtain ⟨bx0c0, bx0c1, bx0c2, bx0c3, bx0c4⟩ := four_cells KBbx065.out
  obtain ⟨bGc0, bGc1, bGc2, bGc3, bGc4⟩ := four_cells KBbG65.out
  have OWHh := Lib.hid (hu.mono (B' := wc62.heap.size) (by simp) (Nat.le_refl _))
  clear hu hb
  go_wp2_with fail
  have BE66 := Lib.hid (below_al BE65.out (.cells #[.int .i64 ((gask.res x0 y0 ws0 xss0 xs1 xs2).x), .int .i64 ((gask.res x0 y0 ws0 xss0 xs1 xs2).y), .slice Hha Hhn Hhc, .slice Hhd Hhm Hhe] 25))
  have HBW66 := Lib.hid (below_al HBW65.out (.cells #[.int .i64 ((gask.res x0 y0 ws0 xss0 xs1 xs2).x), .int .i64 ((gask.res x0 y0 ws0 xss0 xs1 xs2).y), .slice Hha Hhn Hhc, .slice Hhd Hhm Hhe] 25))
  have HBM66 := Lib.hid (below_al HBM65.out (.cells #[.int .i64 ((gask.res x0 y0 ws0 xss0 xs1 xs2).x), .int .i64 ((gask.res x0 y0 ws0 xss0 xs1 xs2).y), .slice Hha Hhn Hhc, .slice Hhd Hhm Hhe] 25))
  have OWz066 := Lib.hid (OWz065.out.keep (below_al (Below.refl _ _) (.cells #[.int .i64 ((gask.res x0 y0 ws0 xss0 xs1 xs2).x), .int .i64 ((gask.res x0 y0 ws0 xss0 xs1 xs2).y), .slice Hha Hhn Hhc, .slice Hhd Hhm Hhe] 25)))
  have OWz166 := Lib.hid (OWz165.out.keep (below_al (Below.refl _ _) (.cells #[.int .i64 ((gask.res x0 y0 ws0 xss0 xs1 xs2).x), .int .i64 ((gask.res x0 y0 ws0 xss0 xs1 xs2).y), .slice Hha Hhn Hhc, .slice Hhd Hhm Hhe] 25)))
  have OWz266 := Lib.hid (OWz265.out.keep (below_al (Below.refl _ _) (.cells #[.int .i64 ((gask.res x0 y0 ws0 xss0 xs1 xs2).x), .int .i64 ((gask.res x0 y0 ws0 xss0 xs1 xs2).y), .slice Hha Hhn Hhc, .slice Hhd Hhm Hhe] 25)))
  have OWHh66 := Lib.hid (OWHh.out.keep (below_al (Below.refl _ _) (.cells #[.int .i64 ((gask.res x0 y0 ws0 xss0 xs1 xs2).x), .int .i64 ((gask.res x0 y0 ws0 xss0 xs1 xs2).y), .slice Hha Hhn Hhc, .slice Hhd Hhm Hhe] 25)))
  have KBp066 := Lib.hid (KBp065.out.alloc (.cells #[.int .i64 ((gask.res x0 y0 ws0 xss0 xs1 xs2).x), .int .i64 ((gask.res x0 y0 ws0 xss0 xs1 xs2).y), .slice Hha Hhn Hhc, .slice Hhd Hhm Hhe] 25))
  have KBbW66 := Lib.hid (KBbW65.out.alloc (.cells #[.int .i64 ((gask.res x0 y0 ws0 xss0 xs1 xs2).x), .int .i64 ((gask.res x0 y0 ws0 xss0 xs1 xs2).y), .slice Hha Hhn Hhc, .slice Hhd Hhm Hhe] 25))
  have KBbx066 := Lib.hid (KBbx065.out.alloc (.cells #[.int .i64 ((gask.res x0 y0 ws0 xss0 xs1 xs2).x), .int .i64 ((gask.res x0 y0 ws0 xss0 xs1 xs2).y), .slice Hha Hhn Hhc, .slice Hhd Hhm Hhe] 25))
  have KBbG66 := Lib.hid (KBbG65.out.alloc (.cells #[.int .i64 ((gask.res x0 y0 ws0 xss0 xs1 xs2).x), .int .i64 ((gask.res x0 y0 ws0 xss0 xs1 xs2).y), .slice Hha Hhn Hhc, .slice Hhd Hhm Hhe] 25))
  have KBbHh66 := Lib.hid (Blk.new wf64 25 #[.int .i64 ((gask.res x0 y0 ws0 xss0 xs1 xs2).x), .int .i64 ((gask.res x0 y0 ws0 xss0 xs1 xs2).y), .slice Hha Hhn Hhc, .slice Hhd Hhm Hhe])
  clear BE65 HBW65 HBM65 OWz065 OWz165 OWz265 OWHh KBp065 KBbW65 KBbx065 KBbG65
  clear OWz066
  clear OWz166
  clear OWz266
  go_wp2_with fail
  refine (game.eq_same ((gask.res x0 y0 ws0 xss0 xs1 xs2).x) ((gask.res x0 y0 ws0 xss0 xs1 xs2).y) _ _ ((gask.res x0 y0 ws0 xss0 xs1 xs2).ws) _ _ ((gask.res x0 y0 ws0 xss0 xs1 xs2).rows) _ OWHh66.out.view (VWW.out.below HBW66.out) (gask.len_ws x0 y0 ws0 xss0 xs1 xs2) (gask.tot x0 y0 ws0 xss0 xs1 xs2)).mono ?_
  rintro e we67 ⟨rfl, hb⟩
  clear p0c0 p0c1 p0c2 p0c3 p0c4 bWc0 bWc1 bWc2 bWc3 bWc4 bx0c0 bx0c1 bx0c2 bx0c3 bx0c4 bGc0 bGc1 bGc2 bGc3 bGc4
  have BE68 := Lib.hid (below_tr BE66.out hb)
  have HBW68 := Lib.hid (below_tr HBW66.out hb)
  have HBM68 := Lib.hid (below_tr HBM66.out hb)
  have OWHh68 := Lib.hid (OWHh66.out.keep hb)
  have KBp068 := Lib.hid (KBp066.out.below hb)
  have KBbW68 := Lib.hid (KBbW66.out.below hb)
  have KBbx068 := Lib.hid (KBbx066.out.below hb)
  have KBbG68 := Lib.hid (KBbG66.out.below hb)
  have KBbHh68 := Lib.hid (KBbHh66.out.below hb)
  have ZZ68 : Hid (wf64.heap.size + 1 ≤ we67.heap.size) := Lib.hid (by have := (hb).size; simpa using this)
  clear BE66 HBW66 HBM66 OWHh66 KBp066 KBbW66 KBbx066 KBbG66 KBbHh66
  obtain ⟨p0c0, p0c1, p0c2, p0c3, p0c4⟩ := four_cells KBp068.out
  obtain ⟨bWc0, bWc1, bWc2, bWc3, bWc4⟩ := four_cells KBbW68.out
  obtain ⟨bx0c0, bx0c1, bx0c2, bx0c3, bx0c4⟩ := four_cells KBbx068.out
  obtain ⟨bGc0, bGc1, bGc2, bGc3, bGc4⟩ := four_cells KBbG68.out
  obtain ⟨bHhc0, bHhc1, bHhc2, bHhc3, bHhc4⟩ := four_cells KBbHh68.out
  clear hb
  go_wp2_with fail
  refine (game.held_any ((gask.res x0 y0 ws0 xss0 xs1 xs2).x) ((gask.res x0 y0 ws0 xss0 xs1 xs2).y) _ ((gask.res x0 y0 ws0 xss0 xs1 xs2).ws).length _ ((gask.res x0 y0 ws0 xss0 xs1 xs2).rows) 1 _ (VWM.out.below HBM68.out) (gask.len_ws x0 y0 ws0 xss0 xs1 xs2) (gask.tot x0 y0 ws0 xss0 xs1 xs2) (by omega) (by omega)).mono ?_
  rintro e wh69 ⟨rfl, hb⟩
  clear p0c0 p0c1 p0c2 p0c3 p0c4 bWc0 bWc1 bWc2 bWc3 bWc4 bx0c0 bx0c1 bx0c2 bx0c3 bx0c4 bGc0 bGc1 bGc2 bGc3 bGc4 bHhc0 bHhc1 bHhc2 bHhc3 bHhc4
  have BE70 := Lib.hid (below_tr BE68.out hb)
  have HBW70 := Lib.hid (below_tr HBW68.out hb)
  have HBM70 := Lib.hid (below_tr HBM68.out hb)
  have OWHh70 := Lib.hid (OWHh68.out.keep hb)
  have KBp070 := Lib.hid (KBp068.out.below hb)
  have KBbW70 := Lib.hid (KBbW68.out.below hb)
  have KBbx070 := Lib.hid (KBbx068.out.below hb)
  have KBbG70 := Lib.hid (KBbG68.out.below hb)
  have KBbHh70 := Lib.hid (KBbHh68.out.below hb)
  have ZZ70 : Hid (we67.heap.size ≤ wh69.heap.size) := Lib.hid (by have := (hb).size; simpa using this)
  clear BE68 HBW68 HBM68 OWHh68 KBp068 KBbW68 KBbx068 KBbG68 KBbHh68
  obtain ⟨p0c0, p0c1, p0c2, p0c3, p0c4⟩ := four_cells KBp070.out
  obtain ⟨bWc0, bWc1, bWc2, bWc3, bWc4⟩ := four_cells KBbW70.out
  obtain ⟨bx0c0, bx0c1, bx0c2, bx0c3, bx0c4⟩ := four_cells KBbx070.out
  obtain ⟨bGc0, bGc1, bGc2, bGc3, bGc4⟩ := four_cells KBbG70.out
  obtain ⟨bHhc0, bHhc1, bHhc2, bHhc3, bHhc4⟩ := four_cells KBbHh70.out
  clear hb
  go_wp2_with fail
  go_ret
  exact ⟨rfl, BE70.out⟩

/-! ### the frame of the row -/
theorem own : ownKnob Try.prog.godebug = none := by kernel_rfl
theorem laidOut : laidOutB Try.prog = true := by kernel_rfl
set_option maxRecDepth 100000 in
theorem lifted (os : Os) (started : os.Started) (H : Type) (enc : TypeId × Value → H) :
    ReturnsInHanded {} Try.checked os 5 .any (Rows.fnExactAskGameSpec.pre6 enc Try.prog Try.f5 Rows.fnExactAskGameRow.domain false) (Rows.fnExactAskGameSpec.post enc Try.prog Try.f5 false true false false) := by
  refine returnsInHanded_of_change (C := Try.checked) own started (by kernel_rfl) Try.func5
    (ChangeSpec.witness6 (enc := enc) (C := Try.checked) false ⟨#[], #[.agg #[.int .i64 0, .int .i64 0, .slice none 0 0, .slice none 0 0], .slice none 0 0, .slice none 0 0], []⟩ 8 (by kernel_rfl) (by kernel_rfl) (by kernel_rfl) (by kernel_rfl)) ?_
  intro W base args ds gs before hval0 hW _ _
  have hval : ∀ (j : Nat) t v, Try.f5.params[j]? = some t → args[j]? = some v → Value.okWide Try.prog W .any base t v := hval0
  have hW' := hW
  obtain ⟨p, q, hA0, hV, rfl, hfz, hnd⟩ := hW
  have hA : DataW.TrodAll enc Try.prog W 0 (fun _ => true) true Try.f5.params.toList args.toList ds p := hA0
  rw [Try.params5] at hA hval
  obtain ⟨v0, vs0, d0, ds0, p0, q0, hargs, rfl, rfl, h0, r0⟩ := trodAll_cons hA
  obtain ⟨v1, vs1, d1, ds1, p1, q1, rfl, rfl, rfl, h1, r1⟩ := trodAll_cons r0
  obtain ⟨v2, vs2, d2, ds2, p2, q2, rfl, rfl, rfl, h2, r2⟩ := trodAll_cons r1
  obtain ⟨rfl, rfl, rfl⟩ := trodAll_nil r2
  obtain rfl : args = #[v0, v1, v2] := by cases args; simp_all
  obtain ⟨rfl, rfl⟩ := trodVars_none hV
  have lt0 : ∀ x ∈ p0, x.block < W.heap.size := by obtain ⟨m, hm⟩ := h0; exact DataW.trod_lt m _ _ _ hm
  obtain ⟨x0, y0, wv0, ws0, u0, xss0, rfl, g10, g20⟩ := opng.game_of_trod Try.underlying34 (by kernel_rfl) (by kernel_rfl) Try.underlying3 Try.underlying3 Try.underlying22 Try.underlying23 Try.underlying22 Try.underlying3 (by kernel_rfl) (by kernel_rfl) (hval 0 34 v0 rfl rfl) h0
  have g0 : game.GV W wv0 ws0 u0 xss0 := ⟨g10, g20⟩
  have lt1 : ∀ x ∈ p1, x.block < W.heap.size := by obtain ⟨m, hm⟩ := h1; exact DataW.trod_lt m _ _ _ hm
  obtain ⟨xs1, g1⟩ := opn.ints_of_trod Try.underlying22 Try.underlying3 (by kernel_rfl) (hval 1 22 v1 rfl rfl) h1
  have lt2 : ∀ x ∈ p2, x.block < W.heap.size := by obtain ⟨m, hm⟩ := h2; exact DataW.trod_lt m _ _ _ hm
  obtain ⟨xs2, g2⟩ := opn.ints_of_trod Try.underlying22 Try.underlying3 (by kernel_rfl) (hval 2 22 v2 rfl rfl) h2
  clear hA0 hval0
  refine (walk x0 y0 wv0 ws0 u0 xss0 v1 xs1 v2 xs2 W g0 g1 g2).mono fun e W' ⟨he, bel⟩ => ?_
  subst he
  exact ⟨_, rfl, _, _, _, [], _, [], hW', trodAll_mk1 (shut_bool Try.underlying4 _), (trodAll_cons_mk (Below.trod laidOut (by kernel_rfl) (of_decide_eq_true (by kernel_rfl)) h0 bel lt0) (trodAll_cons_mk (Below.trod laidOut (by kernel_rfl) (of_decide_eq_true (by kernel_rfl)) h1 bel lt1) (trodAll_cons_mk (Below.trod laidOut (by kernel_rfl) (of_decide_eq_true (by kernel_rfl)) h2 bel lt2) trodAll_mk0))), rfl, bel.frame _, fun h => by cases h⟩

theorem over : Rows.fnExactAskGameRow.holds Try.pinned (OpenSpec.ofChange Rows.fnExactAskGameSpec) :=
  OpenClaim.holds_of_wide 5 Try.f5 rfl rfl rfl rfl rfl rfl rfl ⟨rfl, rfl, rfl, rfl, rfl⟩ rfl rfl rfl rfl rfl (by kernel_rfl) Try.func5 (by kernel_rfl)
    (of_decide_eq_true (by kernel_rfl)) (by unfold Func.isWrapper; first | (rw [if_pos (by decide +kernel)]; kernel_rfl) | (rw [if_neg (by decide +kernel)]; exact ⟨rfl, rfl⟩))
    (fun os started H enc _ => lifted os started H enc)

theorem proved : Rows.FnExactAskGameSaid := over
#print axioms proved
end Go.Proofs.Ytfkdhdiacelcjaa.lawAskGame
