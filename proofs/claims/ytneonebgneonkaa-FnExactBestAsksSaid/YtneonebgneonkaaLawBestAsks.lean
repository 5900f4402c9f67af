/- Proved here: for all arguments, the law FnExactBestAsks returns true: the program's function answers as its model in every field, leaves its arguments as they were, and its answer owns its memory. Conditions: none beyond the row. -/
import Derived.Test.YtneonebgneonkaaBox
import Derived.Test.YtneonebgneonkaaPai
import Derived.Test.YtneonebgneonkaaOpen
import Derived.Test.YtneonebgneonkaaRows
import Derived.Deep.RegionHeld3
namespace Go.Proofs.Ytneonebgneonkaa.lawBestAsks
open Go.ChangeShapes Go.WideShapes Go.ChangeAt Go.RowKit Go.Deep Go.Proofs.Ytneonebgneonkaa.base
open Go.ChangeMaps (open_string shut_string)

set_option maxRecDepth 100000 in
set_option maxHeartbeats 4000000 in
theorem walk (x0 y0 wh0 : Int) (u0 : Value) (xss0 : List (List Int)) (x1 y1 wh1 : Int) (u1 : Value) (xss1 : List (List Int)) (a2 : Int) (w : World) (h0 : IRows w u0 xss0) (h1 : IRows w u1 xss1) (_f2 : (Lit.int .i64 a2).wf = true) :
    Calls Try.prog 11 #[.agg #[.int .i64 x0, .int .i64 y0, .int .i64 wh0, u0], .agg #[.int .i64 x1, .int .i64 y1, .int .i64 wh1, u1], .int .i64 a2] w fun e w' => e = .returned (.bool true) ∧ Below w.heap.size w w' := by
  obtain ⟨va0, vn0, vc0, rfl⟩ := h0.shape
  obtain ⟨va1, vn1, vc1, rfl⟩ := h1.shape
  have H0 := Lib.hid h0
  have H1 := Lib.hid h1
  clear h0 h1
  by_cases hs0 : rws.sz xss0 (1048576) < 0
  · skip
    go_enter Try.func11, Try.ntmps11
    have BE0 := Lib.hid (Below.refl w.heap.size w)
    have BE1 := Lib.hid (below_al BE0.out (.cells #[.int .i64 x0, .int .i64 y0, .int .i64 wh0, .slice va0 vn0 vc0] 46))
    have KBp01 := Lib.hid (Blk.new w 46 #[.int .i64 x0, .int .i64 y0, .int .i64 wh0, .slice va0 vn0 vc0])
    clear BE0
    have BE2 := Lib.hid (below_al BE1.out (.cells #[.int .i64 x1, .int .i64 y1, .int .i64 wh1, .slice va1 vn1 vc1] 46))
    have KBp02 := Lib.hid (KBp01.out.alloc (.cells #[.int .i64 x1, .int .i64 y1, .int .i64 wh1, .slice va1 vn1 vc1] 46))
    have KBp12 : Hid (Blk ((w.alloc (.cells #[.int .i64 x0, .int .i64 y0, .int .i64 wh0, .slice va0 vn0 vc0] 46)).alloc (.cells #[.int .i64 x1, .int .i64 y1, .int .i64 wh1, .slice va1 vn1 vc1] 46)) (w.heap.size + 1) 46 #[.int .i64 x1, .int .i64 y1, .int .i64 wh1, .slice va1 vn1 vc1]) := Lib.hid (by have := Blk.new (w.alloc (.cells #[.int .i64 x0, .int .i64 y0, .int .i64 wh0, .slice va0 vn0 vc0] 46)) 46 #[.int .i64 x1, .int .i64 y1, .int .i64 wh1, .slice va1 vn1 vc1]; simpa using this)
    clear BE1 KBp01
    go_wp2_with fail
    refine (box.sz_any x0 y0 wh0 _ xss0 (1048576) _ (H0.out.below BE2.out) (by omega) (by omega)).mono ?_
    rintro e wz3 ⟨rfl, hb⟩
    have BE4 := Lib.hid (below_tr BE2.out hb)
    have KBp04 := Lib.hid (KBp02.out.below hb)
    have KBp14 := Lib.hid (KBp12.out.below hb)
    have ZZ4 : Hid (w.heap.size + 1 + 1 ≤ wz3.heap.size) := Lib.hid (by have := (hb).size; simpa using this)
    clear BE2 KBp02 KBp12
    obtain ⟨p0c0, p0c1, p0c2, p0c3, p0c4⟩ := four_cells KBp04.out
    obtain ⟨p1c0, p1c1, p1c2, p1c3, p1c4⟩ := four_cells KBp14.out
    clear hb
    go_wp2_with fail
    go_ret
    exact ⟨rfl, BE4.out⟩
  have hq0 := rws.sz_bound hs0
  have hn0 : rws.total xss0 ≤ 1048576 := by omega
  by_cases hs1 : rws.sz xss1 (rws.sz xss0 (1048576)) < 0
  · skip
    go_enter Try.func11, Try.ntmps11
    have BE0 := Lib.hid (Below.refl w.heap.size w)
    have BE5 := Lib.hid (below_al BE0.out (.cells #[.int .i64 x0, .int .i64 y0, .int .i64 wh0, .slice va0 vn0 vc0] 46))
    have KBp05 := Lib.hid (Blk.new w 46 #[.int .i64 x0, .int .i64 y0, .int .i64 wh0, .slice va0 vn0 vc0])
    clear BE0
    have BE6 := Lib.hid (below_al BE5.out (.cells #[.int .i64 x1, .int .i64 y1, .int .i64 wh1, .slice va1 vn1 vc1] 46))
    have KBp06 := Lib.hid (KBp05.out.alloc (.cells #[.int .i64 x1, .int .i64 y1, .int .i64 wh1, .slice va1 vn1 vc1] 46))
    have KBp16 : Hid (Blk ((w.alloc (.cells #[.int .i64 x0, .int .i64 y0, .int .i64 wh0, .slice va0 vn0 vc0] 46)).alloc (.cells #[.int .i64 x1, .int .i64 y1, .int .i64 wh1, .slice va1 vn1 vc1] 46)) (w.heap.size + 1) 46 #[.int .i64 x1, .int .i64 y1, .int .i64 wh1, .slice va1 vn1 vc1]) := Lib.hid (by have := Blk.new (w.alloc (.cells #[.int .i64 x0, .int .i64 y0, .int .i64 wh0, .slice va0 vn0 vc0] 46)) 46 #[.int .i64 x1, .int .i64 y1, .int .i64 wh1, .slice va1 vn1 vc1]; simpa using this)
    clear BE5 KBp05
    go_wp2_with fail
    refine (box.sz_any x0 y0 wh0 _ xss0 (1048576) _ (H0.out.below BE6.out) (by omega) (by omega)).mono ?_
    rintro e wz7 ⟨rfl, hb⟩
    have BE8 := Lib.hid (below_tr BE6.out hb)
    have KBp08 := Lib.hid (KBp06.out.below hb)
    have KBp18 := Lib.hid (KBp16.out.below hb)
    have ZZ8 : Hid (w.heap.size + 1 + 1 ≤ wz7.heap.size) := Lib.hid (by have := (hb).size; simpa using this)
    clear BE6 KBp06 KBp16
    obtain ⟨p0c0, p0c1, p0c2, p0c3, p0c4⟩ := four_cells KBp08.out
    obtain ⟨p1c0, p1c1, p1c2, p1c3, p1c4⟩ := four_cells KBp18.out
    clear hb
    go_wp2_with fail
    refine (box.sz_any x1 y1 wh1 _ xss1 (rws.sz xss0 (1048576)) _ (H1.out.below BE8.out) (by omega) (by omega)).mono ?_
    rintro e wz9 ⟨rfl, hb⟩
    clear p0c0 p0c1 p0c2 p0c3 p0c4 p1c0 p1c1 p1c2 p1c3 p1c4
    have BE10 := Lib.hid (below_tr BE8.out hb)
    have KBp010 := Lib.hid (KBp08.out.below hb)
    have KBp110 := Lib.hid (KBp18.out.below hb)
    have ZZ10 : Hid (wz7.heap.size ≤ wz9.heap.size) := Lib.hid (by have := (hb).size; simpa using this)
    clear BE8 KBp08 KBp18
    obtain ⟨p0c0, p0c1, p0c2, p0c3, p0c4⟩ := four_cells KBp010.out
    obtain ⟨p1c0, p1c1, p1c2, p1c3, p1c4⟩ := four_cells KBp110.out
    clear hb
    go_wp2_with fail
    go_ret
    exact ⟨rfl, BE10.out⟩
  have hq1 := rws.sz_bound hs1
  have hn1 : rws.total xss1 ≤ 1048576 := by omega
  go_enter Try.func11, Try.ntmps11
  have BE0 := Lib.hid (Below.refl w.heap.size w)
  have BE11 := Lib.hid (below_al BE0.out (.cells #[.int .i64 x0, .int .i64 y0, .int .i64 wh0, .slice va0 vn0 vc0] 46))
  have KBp011 := Lib.hid (Blk.new w 46 #[.int .i64 x0, .int .i64 y0, .int .i64 wh0, .slice va0 vn0 vc0])
  clear BE0
  have BE12 := Lib.hid (below_al BE11.out (.cells #[.int .i64 x1, .int .i64 y1, .int .i64 wh1, .slice va1 vn1 vc1] 46))
  have KBp012 := Lib.hid (KBp011.out.alloc (.cells #[.int .i64 x1, .int .i64 y1, .int .i64 wh1, .slice va1 vn1 vc1] 46))
  have KBp112 : Hid (Blk ((w.alloc (.cells #[.int .i64 x0, .int .i64 y0, .int .i64 wh0, .slice va0 vn0 vc0] 46)).alloc (.cells #[.int .i64 x1, .int .i64 y1, .int .i64 wh1, .slice va1 vn1 vc1] 46)) (w.heap.size + 1) 46 #[.int .i64 x1, .int .i64 y1, .int .i64 wh1, .slice va1 vn1 vc1]) := Lib.hid (by have := Blk.new (w.alloc (.cells #[.int .i64 x0, .int .i64 y0, .int .i64 wh0, .slice va0 vn0 vc0] 46)) 46 #[.int .i64 x1, .int .i64 y1, .int .i64 wh1, .slice va1 vn1 vc1]; simpa using this)
  clear BE11 KBp011
  go_wp2_with fail
  refine (box.sz_any x0 y0 wh0 _ xss0 (1048576) _ (H0.out.below BE12.out) (by omega) (by omega)).mono ?_
  rintro e wz13 ⟨rfl, hb⟩
  have BE14 := Lib.hid (below_tr BE12.out hb)
  have KBp014 := Lib.hid (KBp012.out.below hb)
  have KBp114 := Lib.hid (KBp112.out.below hb)
  have ZZ14 : Hid (w.heap.size + 1 + 1 ≤ wz13.heap.size) := Lib.hid (by have := (hb).size; simpa using this)
  clear BE12 KBp012 KBp112
  obtain ⟨p0c0, p0c1, p0c2, p0c3, p0c4⟩ := four_cells KBp014.out
  obtain ⟨p1c0, p1c1, p1c2, p1c3, p1c4⟩ := four_cells KBp114.out
  clear hb
  go_wp2_with fail
  refine (box.sz_any x1 y1 wh1 _ xss1 (rws.sz xss0 (1048576)) _ (H1.out.below BE14.out) (by omega) (by omega)).mono ?_
  rintro e wz15 ⟨rfl, hb⟩
  clear p0c0 p0c1 p0c2 p0c3 p0c4 p1c0 p1c1 p1c2 p1c3 p1c4
  have BE16 := Lib.hid (below_tr BE14.out hb)
  have KBp016 := Lib.hid (KBp014.out.below hb)
  have KBp116 := Lib.hid (KBp114.out.below hb)
  have ZZ16 : Hid (wz13.heap.size ≤ wz15.heap.size) := Lib.hid (by have := (hb).size; simpa using this)
  clear BE14 KBp014 KBp114
  obtain ⟨p0c0, p0c1, p0c2, p0c3, p0c4⟩ := four_cells KBp016.out
  obtain ⟨p1c0, p1c1, p1c2, p1c3, p1c4⟩ := four_cells KBp116.out
  clear hb
  have HA0 := Lib.hid (H0.out.below BE16.out)
  have HA1 := Lib.hid (H1.out.below BE16.out)
  go_wp2_with fail
  go_region_held3 (fun w' => w'.cell? ⟨w.heap.size, 0, none⟩ = some (.int .i64 x0) ∧ w'.cell? ⟨w.heap.size, 1, none⟩ = some (.int .i64 y0) ∧ w'.cell? ⟨w.heap.size, 2, none⟩ = some (.int .i64 wh0) ∧ w'.cell? ⟨w.heap.size, 3, none⟩ = some (.slice va0 vn0 vc0) ∧ w'.cell? ⟨w.heap.size + 1, 0, none⟩ = some (.int .i64 x1) ∧ w'.cell? ⟨w.heap.size + 1, 1, none⟩ = some (.int .i64 y1) ∧ w'.cell? ⟨w.heap.size + 1, 2, none⟩ = some (.int .i64 wh1) ∧ w'.cell? ⟨w.heap.size + 1, 3, none⟩ = some (.slice va1 vn1 vc1) ∧ Below wz15.heap.size wz15 w')
    ((refine held8 p0c0 p0c1 p0c2 p0c3 p1c0 p1c1 p1c2 p1c3 ?_; repeat (first | exact Below.refl _ _ | assumption | refine below_dr ?_ | refine below_tr ?_ (by assumption))))
    (first
      | (go_at_call 36; (with_reducible refine (box.to_any x0 y0 wh0 _ xss0 _ (HA0.out.below ?_) hn0).mono ?_); (exact (below_dr (Below.refl _ _))); rintro e wq0 ⟨uq0, rfl, huq0, hbq0⟩)
      | (go_at_call 36; (with_reducible refine (box.to_any x1 y1 wh1 _ xss1 _ (HA1.out.below ?_) hn1).mono ?_); (exact (below_tr (below_dr (Below.refl _ _)) hbq0)); rintro e wq1 ⟨uq1, rfl, huq1, hbq1⟩)
      | (go_at_call 45; (with_reducible refine (pai.spec_pv x0 y0 wh0 _ xss0 x1 y1 wh1 _ xss1 a2 _ (huq0.rows.below hbq1) huq1.rows hn0 hn1).mono ?_); rintro e wf17 ⟨vW, uW, rfl, huW, hbF⟩))
  have hbt := below_tr (below_tr (below_tr (below_dr (Below.refl _ _)) hbq0) hbq1) hbF
  clear HA0 huq0 hbq0 HA1 huq1 hbq1 hbF
  obtain ⟨Wa, Wn, Wc, Wd, Wm, We, rfl, rfl⟩ := huW.shape
  clear p0c0 p0c1 p0c2 p0c3 p0c4 p1c0 p1c1 p1c2 p1c3 p1c4
  have BE18 := Lib.hid (below_tr BE16.out hbt)
  have KBp018 := Lib.hid (KBp016.out.below hbt)
  have KBp118 := Lib.hid (KBp116.out.below hbt)
  have ZZ18 : Hid (wz15.heap.size ≤ wf17.heap.size) := Lib.hid (by have := (hbt).size; simpa using this)
  clear BE16 KBp016 KBp116
  obtain ⟨p0c0, p0c1, p0c2, p0c3, p0c4⟩ := four_cells KBp018.out
  obtain ⟨p1c0, p1c1, p1c2, p1c3, p1c4⟩ := four_cells KBp118.out
  clear hbt
  have VWW := Lib.hid huW
  have HBW := Lib.hid (Below.refl wf17.heap.size wf17)
  clear huW
  go_wp2_with fail
  refine (box.to_any x0 y0 wh0 _ xss0 _ (H0.out.below BE18.out) hn0).mono ?_
  rintro e wc19 ⟨ux0, rfl, hu, hb⟩
  obtain ⟨x0a, x0n, x0c, rfl⟩ := hu.rows.shape
  clear p0c0 p0c1 p0c2 p0c3 p0c4 p1c0 p1c1 p1c2 p1c3 p1c4
  have BE20 := Lib.hid (below_tr BE18.out hb)
  have HBW20 := Lib.hid (below_tr HBW.out hb)
  have KBp020 := Lib.hid (KBp018.out.below hb)
  have KBp120 := Lib.hid (KBp118.out.below hb)
  have ZZ20 : Hid (wf17.heap.size ≤ wc19.heap.size) := Lib.hid (by have := (hb).size; simpa using this)
  clear BE18 HBW KBp018 KBp118
  obtain ⟨p0c0, p0c1, p0c2, p0c3, p0c4⟩ := four_cells KBp020.out
  obtain ⟨p1c0, p1c1, p1c2, p1c3, p1c4⟩ := four_cells KBp120.out
  have OWx0 := Lib.hid (hu.mono (B' := wf17.heap.size) (by simp) (Nat.le_refl _))
  clear hu hb
  go_wp2_with fail
  have BE21 := Lib.hid (below_al BE20.out (.cells #[.int .i64 x0, .int .i64 y0, .int .i64 wh0, .slice x0a x0n x0c] 48))
  have HBW21 := Lib.hid (below_al HBW20.out (.cells #[.int .i64 x0, .int .i64 y0, .int .i64 wh0, .slice x0a x0n x0c] 48))
  have OWx021 := Lib.hid (OWx0.out.keep (below_al (Below.refl _ _) (.cells #[.int .i64 x0, .int .i64 y0, .int .i64 wh0, .slice x0a x0n x0c] 48)))
  have KBp021 := Lib.hid (KBp020.out.alloc (.cells #[.int .i64 x0, .int .i64 y0, .int .i64 wh0, .slice x0a x0n x0c] 48))
  have KBp121 := Lib.hid (KBp120.out.alloc (.cells #[.int .i64 x0, .int .i64 y0, .int .i64 wh0, .slice x0a x0n x0c] 48))
  have KBbx021 := Lib.hid (Blk.new wc19 48 #[.int .i64 x0, .int .i64 y0, .int .i64 wh0, .slice x0a x0n x0c])
  clear BE20 HBW20 OWx0 KBp020 KBp120
  go_wp2_with fail
  refine (box.to_any x1 y1 wh1 _ xss1 _ (H1.out.below BE21.out) hn1).mono ?_
  rintro e wc22 ⟨ux1, rfl, hu, hb⟩
  obtain ⟨x1a, x1n, x1c, rfl⟩ := hu.rows.shape
  clear p0c0 p0c1 p0c2 p0c3 p0c4 p1c0 p1c1 p1c2 p1c3 p1c4
  have BE23 := Lib.hid (below_tr BE21.out hb)
  have HBW23 := Lib.hid (below_tr HBW21.out hb)
  have OWx023 := Lib.hid (OWx021.out.keep hb)
  have KBp023 := Lib.hid (KBp021.out.below hb)
  have KBp123 := Lib.hid (KBp121.out.below hb)
  have KBbx023 := Lib.hid (KBbx021.out.below hb)
  have ZZ23 : Hid (wc19.heap.size + 1 ≤ wc22.heap.size) := Lib.hid (by have := (hb).size; simpa using this)
  clear BE21 HBW21 OWx021 KBp021 KBp121 KBbx021
  obtain ⟨p0c0, p0c1, p0c2, p0c3, p0c4⟩ := four_cells KBp023.out
  obtain ⟨p1c0, p1c1, p1c2, p1c3, p1c4⟩ := four_cells KBp123.out
  obtain ⟨bx0c0, bx0c1, bx0c2, bx0c3, bx0c4⟩ := four_cells KBbx023.out
  have OWx1 := Lib.hid (hu.mono (B' := wc19.heap.size + 1) (by simp) (Nat.le_refl _))
  clear hu hb
  go_wp2_with fail
  have BE24 := Lib.hid (below_al BE23.out (.cells #[.int .i64 x1, .int .i64 y1, .int .i64 wh1, .slice x1a x1n x1c] 48))
  have HBW24 := Lib.hid (below_al HBW23.out (.cells #[.int .i64 x1, .int .i64 y1, .int .i64 wh1, .slice x1a x1n x1c] 48))
  have OWx024 := Lib.hid (OWx023.out.keep (below_al (Below.refl _ _) (.cells #[.int .i64 x1, .int .i64 y1, .int .i64 wh1, .slice x1a x1n x1c] 48)))
  have OWx124 := Lib.hid (OWx1.out.keep (below_al (Below.refl _ _) (.cells #[.int .i64 x1, .int .i64 y1, .int .i64 wh1, .slice x1a x1n x1c] 48)))
  have KBp024 := Lib.hid (KBp023.out.alloc (.cells #[.int .i64 x1, .int .i64 y1, .int .i64 wh1, .slice x1a x1n x1c] 48))
  have KBp124 := Lib.hid (KBp123.out.alloc (.cells #[.int .i64 x1, .int .i64 y1, .int .i64 wh1, .slice x1a x1n x1c] 48))
  have KBbx024 := Lib.hid (KBbx023.out.alloc (.cells #[.int .i64 x1, .int .i64 y1, .int .i64 wh1, .slice x1a x1n x1c] 48))
  have KBbx124 := Lib.hid (Blk.new wc22 48 #[.int .i64 x1, .int .i64 y1, .int .i64 wh1, .slice x1a x1n x1c])
  clear BE23 HBW23 OWx023 OWx1 KBp023 KBp123 KBbx023
  go_wp2_with fail
  refine (bam.impl_any x0 y0 wh0 (.slice x0a x0n x0c) xss0 x1 y1 wh1 (.slice x1a x1n x1c) xss1 a2 _ OWx024.out.rows OWx124.out.rows hn0 hn1).mono ?_
  rintro e wf25 ⟨vG, uG, rfl, hu, hb⟩
  obtain ⟨Ga, Gn, Gc, Gd, Gm, Ge, rfl, rfl⟩ := hu.view.shape
  clear p0c0 p0c1 p0c2 p0c3 p0c4 p1c0 p1c1 p1c2 p1c3 p1c4 bx0c0 bx0c1 bx0c2 bx0c3 bx0c4
  have BE26 := Lib.hid (below_tr BE24.out hb)
  have HBW26 := Lib.hid (below_tr HBW24.out hb)
  have OWx026 := Lib.hid (OWx024.out.keep hb)
  have OWx126 := Lib.hid (OWx124.out.keep hb)
  have KBp026 := Lib.hid (KBp024.out.below hb)
  have KBp126 := Lib.hid (KBp124.out.below hb)
  have KBbx026 := Lib.hid (KBbx024.out.below hb)
  have KBbx126 := Lib.hid (KBbx124.out.below hb)
  have ZZ26 : Hid (wc22.heap.size + 1 ≤ wf25.heap.size) := Lib.hid (by have := (hb).size; simpa using this)
  clear BE24 HBW24 OWx024 OWx124 KBp024 KBp124 KBbx024 KBbx124
  obtain ⟨p0c0, p0c1, p0c2, p0c3, p0c4⟩ := four_cells KBp026.out
  obtain ⟨p1c0, p1c1, p1c2, p1c3, p1c4⟩ := four_cells KBp126.out
  obtain ⟨bx0c0, bx0c1, bx0c2, bx0c3, bx0c4⟩ := four_cells KBbx026.out
  obtain ⟨bx1c0, bx1c1, bx1c2, bx1c3, bx1c4⟩ := four_cells KBbx126.out
  have OWG := Lib.hid (hu.mono (B' := wc22.heap.size + 1) (by simp) (Nat.le_refl _))
  clear hu hb
  have tk0 : (((bam.res x0 y0 wh0 xss0 x1 y1 wh1 xss1 a2).v) != ((bam.res x0 y0 wh0 xss0 x1 y1 wh1 xss1 a2).v)) = false := bne_self_eq_false _
  have tk1 : (((bam.res x0 y0 wh0 xss0 x1 y1 wh1 xss1 a2).ok) != ((bam.res x0 y0 wh0 xss0 x1 y1 wh1 xss1 a2).ok)) = false := bne_self_eq_false _
  go_wp2_with fail
  refine (ints.eq_same _ _ ((bam.res x0 y0 wh0 xss0 x1 y1 wh1 xss1 a2).f) _ OWG.out.view.one (VWW.out.below HBW26.out).one (pai.len_res x0 y0 wh0 xss0 x1 y1 wh1 xss1 a2).1).mono ?_
  rintro e we27 ⟨rfl, hb⟩
  clear p0c0 p0c1 p0c2 p0c3 p0c4 p1c0 p1c1 p1c2 p1c3 p1c4 bx0c0 bx0c1 bx0c2 bx0c3 bx0c4 bx1c0 bx1c1 bx1c2 bx1c3 bx1c4
  have BE28 := Lib.hid (below_tr BE26.out hb)
  have HBW28 := Lib.hid (below_tr HBW26.out hb)
  have OWx028 := Lib.hid (OWx026.out.keep hb)
  have OWx128 := Lib.hid (OWx126.out.keep hb)
  have OWG28 := Lib.hid (OWG.out.keep hb)
  have KBp028 := Lib.hid (KBp026.out.below hb)
  have KBp128 := Lib.hid (KBp126.out.below hb)
  have KBbx028 := Lib.hid (KBbx026.out.below hb)
  have KBbx128 := Lib.hid (KBbx126.out.below hb)
  have ZZ28 : Hid (wf25.heap.size ≤ we27.heap.size) := Lib.hid (by have := (hb).size; simpa using this)
  clear BE26 HBW26 OWx026 OWx126 OWG KBp026 KBp126 KBbx026 KBbx126
  obtain ⟨p0c0, p0c1, p0c2, p0c3, p0c4⟩ := four_cells KBp028.out
  obtain ⟨p1c0, p1c1, p1c2, p1c3, p1c4⟩ := four_cells KBp128.out
  obtain ⟨bx0c0, bx0c1, bx0c2, bx0c3, bx0c4⟩ := four_cells KBbx028.out
  obtain ⟨bx1c0, bx1c1, bx1c2, bx1c3, bx1c4⟩ := four_cells KBbx128.out
  clear hb
  go_wp2_with fail
  refine (ints.eq_same _ _ ((bam.res x0 y0 wh0 xss0 x1 y1 wh1 xss1 a2).s) _ OWG28.out.view.two (VWW.out.below HBW28.out).two (pai.len_res x0 y0 wh0 xss0 x1 y1 wh1 xss1 a2).2).mono ?_
  rintro e we29 ⟨rfl, hb⟩
  clear p0c0 p0c1 p0c2 p0c3 p0c4 p1c0 p1c1 p1c2 p1c3 p1c4 bx0c0 bx0c1 bx0c2 bx0c3 bx0c4 bx1c0 bx1c1 bx1c2 bx1c3 bx1c4
  have BE30 := Lib.hid (below_tr BE28.out hb)
  have HBW30 := Lib.hid (below_tr HBW28.out hb)
  have OWx030 := Lib.hid (OWx028.out.keep hb)
  have OWx130 := Lib.hid (OWx128.out.keep hb)
  have OWG30 := Lib.hid (OWG28.out.keep hb)
  have KBp030 := Lib.hid (KBp028.out.below hb)
  have KBp130 := Lib.hid (KBp128.out.below hb)
  have KBbx030 := Lib.hid (KBbx028.out.below hb)
  have KBbx130 := Lib.hid (KBbx128.out.below hb)
  have ZZ30 : Hid (we27.heap.size ≤ we29.heap.size) := Lib.hid (by have := (hb).size; simpa using this)
  clear BE28 HBW28 OWx028 OWx128 OWG28 KBp028 KBp128 KBbx028 KBbx128
  obtain ⟨p0c0, p0c1, p0c2, p0c3, p0c4⟩ := four_cells KBp030.out
  obtain ⟨p1c0, p1c1, p1c2, p1c3, p1c4⟩ := four_cells KBp130.out
  obtain ⟨bx0c0, bx0c1, bx0c2, bx0c3, bx0c4⟩ := four_cells KBbx030.out
  obtain ⟨bx1c0, bx1c1, bx1c2, bx1c3, bx1c4⟩ := four_cells KBbx130.out
  clear hb
  go_wp2_with fail
  have HA := Lib.hid (H0.out.below BE30.out)
  have HX := Lib.hid (OWx030.out.rows)
  go_region_held3 (fun w' => w'.cell? ⟨w.heap.size, 0, none⟩ = some (.int .i64 x0) ∧ w'.cell? ⟨w.heap.size, 1, none⟩ = some (.int .i64 y0) ∧ w'.cell? ⟨w.heap.size, 2, none⟩ = some (.int .i64 wh0) ∧ w'.cell? ⟨w.heap.size, 3, none⟩ = some (.slice va0 vn0 vc0) ∧ w'.cell? ⟨wc19.heap.size, 0, none⟩ = some (.int .i64 x0) ∧ w'.cell? ⟨wc19.heap.size, 1, none⟩ = some (.int .i64 y0) ∧ w'.cell? ⟨wc19.heap.size, 2, none⟩ = some (.int .i64 wh0) ∧ w'.cell? ⟨wc19.heap.size, 3, none⟩ = some (.slice x0a x0n x0c) ∧ Below we29.heap.size we29 w')
    ((refine held8 p0c0 p0c1 p0c2 p0c3 bx0c0 bx0c1 bx0c2 bx0c3 ?_; repeat (first | exact Below.refl _ _ | assumption | refine below_dr ?_ | refine below_tr ?_ (by assumption))))
    (first | (go_at_call 36; refine (box.to_any x0 y0 wh0 _ xss0 _ (HA.out.below ?_) hn0).mono ?_; (simp [*]); rintro e wq ⟨uqq0, rfl, huq, hbq⟩) | (go_at_call 38; refine (box.eq_same x0 y0 wh0 _ _ xss0 _ (HX.out.below (below_tr (below_dr (Below.refl _ _)) hbq)) huq.rows hn0).mono ?_; rintro e wd31 ⟨rfl, hbr⟩))
  have hbt := below_tr (below_tr (below_dr (Below.refl _ _)) hbq) hbr
  clear HA HX huq hbq hbr
  clear p0c0 p0c1 p0c2 p0c3 p0c4 p1c0 p1c1 p1c2 p1c3 p1c4 bx0c0 bx0c1 bx0c2 bx0c3 bx0c4 bx1c0 bx1c1 bx1c2 bx1c3 bx1c4
  have BE32 := Lib.hid (below_tr BE30.out hbt)
  have HBW32 := Lib.hid (below_tr HBW30.out hbt)
  have OWx032 := Lib.hid (OWx030.out.keep hbt)
  have OWx132 := Lib.hid (OWx130.out.keep hbt)
  have OWG32 := Lib.hid (OWG30.out.keep hbt)
  have KBp032 := Lib.hid (KBp030.out.below hbt)
  have KBp132 := Lib.hid (KBp130.out.below hbt)
  have KBbx032 := Lib.hid (KBbx030.out.below hbt)
  have KBbx132 := Lib.hid (KBbx130.out.below hbt)
  have ZZ32 : Hid (we29.heap.size ≤ wd31.heap.size) := Lib.hid (by have := (hbt).size; simpa using this)
  clear BE30 HBW30 OWx030 OWx130 OWG30 KBp030 KBp130 KBbx030 KBbx130
  obtain ⟨p0c0, p0c1, p0c2, p0c3, p0c4⟩ := four_cells KBp032.out
  obtain ⟨p1c0, p1c1, p1c2, p1c3, p1c4⟩ := four_cells KBp132.out
  obtain ⟨bx0c0, bx0c1, bx0c2, bx0c3, bx0c4⟩ := four_cells KBbx032.out
  obtain ⟨bx1c0, bx1c1, bx1c2, bx1c3, bx1c4⟩ := four_cells KBbx132.out
  clear hbt
  go_wp2_with fail
  have HA := Lib.hid (H1.out.below BE32.out)
  have HX := Lib.hid (OWx132.out.rows)
  go_region_held3 (fun w' => w'.cell? ⟨w.heap.size + 1, 0, none⟩ = some (.int .i64 x1) ∧ w'.cell? ⟨w.heap.size + 1, 1, none⟩ = some (.int .i64 y1) ∧ w'.cell? ⟨w.heap.size + 1, 2, none⟩ = some (.int .i64 wh1) ∧ w'.cell? ⟨w.heap.size + 1, 3, none⟩ = some (.slice va1 vn1 vc1) ∧ w'.cell? ⟨wc22.heap.size, 0, none⟩ = some (.int .i64 x1) ∧ w'.cell? ⟨wc22.heap.size, 1, none⟩ = some (.int .i64 y1) ∧ w'.cell? ⟨wc22.heap.size, 2, none⟩ = some (.int .i64 wh1) ∧ w'.cell? ⟨wc22.heap.size, 3, none⟩ = some (.slice x1a x1n x1c) ∧ Below wd31.heap.size wd31 w')
    ((refine held8 p1c0 p1c1 p1c2 p1c3 bx1c0 bx1c1 bx1c2 bx1c3 ?_; repeat (first | exact Below.refl _ _ | assumption | refine below_dr ?_ | refine below_tr ?_ (by assumption))))
    (first | (go_at_call 36; refine (box.to_any x1 y1 wh1 _ xss1 _ (HA.out.below ?_) hn1).mono ?_; (simp [*]); rintro e wq ⟨uqq1, rfl, huq, hbq⟩) | (go_at_call 38; refine (box.eq_same x1 y1 wh1 _ _ xss1 _ (HX.out.below (below_tr (below_dr (Below.refl _ _)) hbq)) huq.rows hn1).mono ?_; rintro e wd33 ⟨rfl, hbr⟩))
  have hbt := below_tr (below_tr (below_dr (Below.refl _ _)) hbq) hbr
  clear HA HX huq hbq hbr
  clear p0c0 p0c1 p0c2 p0c3 p0c4 p1c0 p1c1 p1c2 p1c3 p1c4 bx0c0 bx0c1 bx0c2 bx0c3 bx0c4 bx1c0 bx1c1 bx1c2 bx1c3 bx1c4
  have BE34 := Lib.hid (below_tr BE32.out hbt)
  have HBW34 := Lib.hid (below_tr HBW32.out hbt)
  have OWx034 := Lib.hid (OWx032.out.keep hbt)
  have OWx134 := Lib.hid (OWx132.out.keep hbt)
  have OWG34 := Lib.hid (OWG32.out.keep hbt)
  have KBp034 := Lib.hid (KBp032.out.below hbt)
  have KBp134 := Lib.hid (KBp132.out.below hbt)
  have KBbx034 := Lib.hid (KBbx032.out.below hbt)
  have KBbx134 := Lib.hid (KBbx132.out.below hbt)
  have ZZ34 : Hid (wd31.heap.size ≤ wd33.heap.size) := Lib.hid (by have := (hbt).size; simpa using this)
  clear BE32 HBW32 OWx032 OWx132 OWG32 KBp032 KBp132 KBbx032 KBbx132
  obtain ⟨p0c0, p0c1, p0c2, p0c3, p0c4⟩ := four_cells KBp034.out
  obtain ⟨p1c0, p1c1, p1c2, p1c3, p1c4⟩ := four_cells KBp134.out
  obtain ⟨bx0c0, bx0c1, bx0c2, bx0c3, bx0c4⟩ := four_cells KBbx034.out
  obtain ⟨bx1c0, bx1c1, bx1c2, bx1c3, bx1c4⟩ := four_cells KBbx134.out
  clear hbt
  have bl0 := rws.before_le xss0 xss0.length
  go_wp2_with fail
  refine (box.mark_any x0 y0 wh0 _ xss0 (1) (wf17.heap.size) (wc19.heap.size) _ OWx034.out hn0 (by omega) (by omega)).mono ?_
  rintro e wm35 ⟨rfl, hi, S, wl36, hb, hw, hs⟩
  clear OWx034
  clear p0c0 p0c1 p0c2 p0c3 p0c4 p1c0 p1c1 p1c2 p1c3 p1c4 bx0c0 bx0c1 bx0c2 bx0c3 bx0c4 bx1c0 bx1c1 bx1c2 bx1c3 bx1c4
  have BE37 := Lib.hid (below_tr BE34.out hb)
  have HBW37 := Lib.hid (below_tr HBW34.out hb)
  have OWx137 := Lib.hid (OWx134.out.keep hb)
  have OWG37 := Lib.hid (OWG34.out.keep hb)
  have KBp037 := Lib.hid (KBp034.out.below hb)
  have KBp137 := Lib.hid (KBp134.out.below hb)
  have KBbx037 := Lib.hid (KBbx034.out.below hb)
  have KBbx137 := Lib.hid (KBbx134.out.below hb)
  have ZZ37 : Hid (wd33.heap.size ≤ wl36.heap.size) := Lib.hid (by have := (hb).size; simpa using this)
  clear BE34 HBW34 OWx134 OWG34 KBp034 KBp134 KBbx034 KBbx134
  obtain ⟨p0c0, p0c1, p0c2, p0c3, p0c4⟩ := four_cells KBp037.out
  obtain ⟨p1c0, p1c1, p1c2, p1c3, p1c4⟩ := four_cells KBp137.out
  obtain ⟨bx0c0, bx0c1, bx0c2, bx0c3, bx0c4⟩ := four_cells KBbx037.out
  obtain ⟨bx1c0, bx1c1, bx1c2, bx1c3, bx1c4⟩ := four_cells KBbx137.out
  clear p0c0 p0c1 p0c2 p0c3 p0c4 p1c0 p1c1 p1c2 p1c3 p1c4 bx0c0 bx0c1 bx0c2 bx0c3 bx0c4 bx1c0 bx1c1 bx1c2 bx1c3 bx1c4
  have BE38 := Lib.hid (BE37.out.trans (hw.below (fun p hp => by have := (hs p hp).1; have := ZZ14.out; have := ZZ16.out; have := ZZ18.out; have := ZZ20.out; have := ZZ23.out; have := ZZ26.out; have := ZZ28.out; have := ZZ30.out; have := ZZ32.out; have := ZZ34.out; have := ZZ37.out; omega)))
  have HBW38 := Lib.hid (HBW37.out.trans (hw.below (fun p hp => by have := (hs p hp).1; have := ZZ14.out; have := ZZ16.out; have := ZZ18.out; have := ZZ20.out; have := ZZ23.out; have := ZZ26.out; have := ZZ28.out; have := ZZ30.out; have := ZZ32.out; have := ZZ34.out; have := ZZ37.out; omega)))
  have OWx138 := Lib.hid (OWx137.out.wrote hw (fun p hp => by have := hs p hp; have := ZZ14.out; have := ZZ16.out; have := ZZ18.out; have := ZZ20.out; have := ZZ23.out; have := ZZ26.out; have := ZZ28.out; have := ZZ30.out; have := ZZ32.out; have := ZZ34.out; have := ZZ37.out; omega))
  have OWG38 := Lib.hid (OWG37.out.wrote hw (fun p hp => by have := hs p hp; have := ZZ14.out; have := ZZ16.out; have := ZZ18.out; have := ZZ20.out; have := ZZ23.out; have := ZZ26.out; have := ZZ28.out; have := ZZ30.out; have := ZZ32.out; have := ZZ34.out; have := ZZ37.out; omega))
  have KBp038 := Lib.hid (KBp037.out.wrote hw (fun p hp e => by have := hs p hp; have := ZZ14.out; have := ZZ16.out; have := ZZ18.out; have := ZZ20.out; have := ZZ23.out; have := ZZ26.out; have := ZZ28.out; have := ZZ30.out; have := ZZ32.out; have := ZZ34.out; have := ZZ37.out; omega))
  have KBp138 := Lib.hid (KBp137.out.wrote hw (fun p hp e => by have := hs p hp; have := ZZ14.out; have := ZZ16.out; have := ZZ18.out; have := ZZ20.out; have := ZZ23.out; have := ZZ26.out; have := ZZ28.out; have := ZZ30.out; have := ZZ32.out; have := ZZ34.out; have := ZZ37.out; omega))
  have KBbx038 := Lib.hid (KBbx037.out.wrote hw (fun p hp e => by have := hs p hp; have := ZZ14.out; have := ZZ16.out; have := ZZ18.out; have := ZZ20.out; have := ZZ23.out; have := ZZ26.out; have := ZZ28.out; have := ZZ30.out; have := ZZ32.out; have := ZZ34.out; have := ZZ37.out; omega))
  have KBbx138 := Lib.hid (KBbx137.out.wrote hw (fun p hp e => by have := hs p hp; have := ZZ14.out; have := ZZ16.out; have := ZZ18.out; have := ZZ20.out; have := ZZ23.out; have := ZZ26.out; have := ZZ28.out; have := ZZ30.out; have := ZZ32.out; have := ZZ34.out; have := ZZ37.out; omega))
  have ZZ38 : Hid (wl36.heap.size ≤ wm35.heap.size) := Lib.hid (by have := hw.size; omega)
  clear BE37 HBW37 OWx137 OWG37 KBp037 KBp137 KBbx037 KBbx137
  obtain ⟨p0c0, p0c1, p0c2, p0c3, p0c4⟩ := four_cells KBp038.out
  obtain ⟨p1c0, p1c1, p1c2, p1c3, p1c4⟩ := four_cells KBp138.out
  obtain ⟨bx0c0, bx0c1, bx0c2, bx0c3, bx0c4⟩ := four_cells KBbx038.out
  obtain ⟨bx1c0, bx1c1, bx1c2, bx1c3, bx1c4⟩ := four_cells KBbx138.out
  clear hb
  clear hw hs
  clear hi
  have bl1 := rws.before_le xss1 xss1.length
  go_wp2_with fail
  refine (box.mark_any x1 y1 wh1 _ xss1 (1 + (rws.before xss0 xss0.length : Int)) (wc19.heap.size + 1) (wc22.heap.size) _ OWx138.out hn1 (by omega) (by omega)).mono ?_
  rintro e wm39 ⟨rfl, hi, S, wl40, hb, hw, hs⟩
  clear OWx138
  clear p0c0 p0c1 p0c2 p0c3 p0c4 p1c0 p1c1 p1c2 p1c3 p1c4 bx0c0 bx0c1 bx0c2 bx0c3 bx0c4 bx1c0 bx1c1 bx1c2 bx1c3 bx1c4
  have BE41 := Lib.hid (below_tr BE38.out hb)
  have HBW41 := Lib.hid (below_tr HBW38.out hb)
  have OWG41 := Lib.hid (OWG38.out.keep hb)
  have KBp041 := Lib.hid (KBp038.out.below hb)
  have KBp141 := Lib.hid (KBp138.out.below hb)
  have KBbx041 := Lib.hid (KBbx038.out.below hb)
  have KBbx141 := Lib.hid (KBbx138.out.below hb)
  have ZZ41 : Hid (wm35.heap.size ≤ wl40.heap.size) := Lib.hid (by have := (hb).size; simpa using this)
  clear BE38 HBW38 OWG38 KBp038 KBp138 KBbx038 KBbx138
  obtain ⟨p0c0, p0c1, p0c2, p0c3, p0c4⟩ := four_cells KBp041.out
  obtain ⟨p1c0, p1c1, p1c2, p1c3, p1c4⟩ := four_cells KBp141.out
  obtain ⟨bx0c0, bx0c1, bx0c2, bx0c3, bx0c4⟩ := four_cells KBbx041.out
  obtain ⟨bx1c0, bx1c1, bx1c2, bx1c3, bx1c4⟩ := four_cells KBbx141.out
  clear p0c0 p0c1 p0c2 p0c3 p0c4 p1c0 p1c1 p1c2 p1c3 p1c4 bx0c0 bx0c1 bx0c2 bx0c3 bx0c4 bx1c0 bx1c1 bx1c2 bx1c3 bx1c4
  have BE42 := Lib.hid (BE41.out.trans (hw.below (fun p hp => by have := (hs p hp).1; have := ZZ14.out; have := ZZ16.out; have := ZZ18.out; have := ZZ20.out; have := ZZ23.out; have := ZZ26.out; have := ZZ28.out; have := ZZ30.out; have := ZZ32.out; have := ZZ34.out; have := ZZ37.out; have := ZZ38.out; have := ZZ41.out; omega)))
  have HBW42 := Lib.hid (HBW41.out.trans (hw.below (fun p hp => by have := (hs p hp).1; have := ZZ14.out; have := ZZ16.out; have := ZZ18.out; have := ZZ20.out; have := ZZ23.out; have := ZZ26.out; have := ZZ28.out; have := ZZ30.out; have := ZZ32.out; have := ZZ34.out; have := ZZ37.out; have := ZZ38.out; have := ZZ41.out; omega)))
  have OWG42 := Lib.hid (OWG41.out.wrote hw (fun p hp => by have := hs p hp; have := ZZ14.out; have := ZZ16.out; have := ZZ18.out; have := ZZ20.out; have := ZZ23.out; have := ZZ26.out; have := ZZ28.out; have := ZZ30.out; have := ZZ32.out; have := ZZ34.out; have := ZZ37.out; have := ZZ38.out; have := ZZ41.out; omega))
  have KBp042 := Lib.hid (KBp041.out.wrote hw (fun p hp e => by have := hs p hp; have := ZZ14.out; have := ZZ16.out; have := ZZ18.out; have := ZZ20.out; have := ZZ23.out; have := ZZ26.out; have := ZZ28.out; have := ZZ30.out; have := ZZ32.out; have := ZZ34.out; have := ZZ37.out; have := ZZ38.out; have := ZZ41.out; omega))
  have KBp142 := Lib.hid (KBp141.out.wrote hw (fun p hp e => by have := hs p hp; have := ZZ14.out; have := ZZ16.out; have := ZZ18.out; have := ZZ20.out; have := ZZ23.out; have := ZZ26.out; have := ZZ28.out; have := ZZ30.out; have := ZZ32.out; have := ZZ34.out; have := ZZ37.out; have := ZZ38.out; have := ZZ41.out; omega))
  have KBbx042 := Lib.hid (KBbx041.out.wrote hw (fun p hp e => by have := hs p hp; have := ZZ14.out; have := ZZ16.out; have := ZZ18.out; have := ZZ20.out; have := ZZ23.out; have := ZZ26.out; have := ZZ28.out; have := ZZ30.out; have := ZZ32.out; have := ZZ34.out; have := ZZ37.out; have := ZZ38.out; have := ZZ41.out; omega))
  have KBbx142 := Lib.hid (KBbx141.out.wrote hw (fun p hp e => by have := hs p hp; have := ZZ14.out; have := ZZ16.out; have := ZZ18.out; have := ZZ20.out; have := ZZ23.out; have := ZZ26.out; have := ZZ28.out; have := ZZ30.out; have := ZZ32.out; have := ZZ34.out; have := ZZ37.out; have := ZZ38.out; have := ZZ41.out; omega))
  have ZZ42 : Hid (wl40.heap.size ≤ wm39.heap.size) := Lib.hid (by have := hw.size; omega)
  clear BE41 HBW41 OWG41 KBp041 KBp141 KBbx041 KBbx141
  obtain ⟨p0c0, p0c1, p0c2, p0c3, p0c4⟩ := four_cells KBp042.out
  obtain ⟨p1c0, p1c1, p1c2, p1c3, p1c4⟩ := four_cells KBp142.out
  obtain ⟨bx0c0, bx0c1, bx0c2, bx0c3, bx0c4⟩ := four_cells KBbx042.out
  obtain ⟨bx1c0, bx1c1, bx1c2, bx1c3, bx1c4⟩ := four_cells KBbx142.out
  clear hb
  clear hw hs
  clear hi
  have dk : decide (1 + (rws.before xss0 xss0.length : Int) + (rws.before xss1 xss1.length : Int) < 0) = false := by simp; omega
  have dk' : ¬ (1 + (rws.before xss0 xss0.length : Int) + (rws.before xss1 xss1.length : Int) < 0) := by omega
  go_wp2_with fail
  refine (ints.eq_same _ _ ((bam.res x0 y0 wh0 xss0 x1 y1 wh1 xss1 a2).f) _ OWG42.out.view.one (VWW.out.below HBW42.out).one (pai.len_res x0 y0 wh0 xss0 x1 y1 wh1 xss1 a2).1).mono ?_
  rintro e we43 ⟨rfl, hb⟩
  clear p0c0 p0c1 p0c2 p0c3 p0c4 p1c0 p1c1 p1c2 p1c3 p1c4 bx0c0 bx0c1 bx0c2 bx0c3 bx0c4 bx1c0 bx1c1 bx1c2 bx1c3 bx1c4
  have BE44 := Lib.hid (below_tr BE42.out hb)
  have HBW44 := Lib.hid (below_tr HBW42.out hb)
  have OWG44 := Lib.hid (OWG42.out.keep hb)
  have KBp044 := Lib.hid (KBp042.out.below hb)
  have KBp144 := Lib.hid (KBp142.out.below hb)
  have KBbx044 := Lib.hid (KBbx042.out.below hb)
  have KBbx144 := Lib.hid (KBbx142.out.below hb)
  have ZZ44 : Hid (wm39.heap.size ≤ we43.heap.size) := Lib.hid (by have := (hb).size; simpa using this)
  clear BE42 HBW42 OWG42 KBp042 KBp142 KBbx042 KBbx142
  obtain ⟨p0c0, p0c1, p0c2, p0c3, p0c4⟩ := four_cells KBp044.out
  obtain ⟨p1c0, p1c1, p1c2, p1c3, p1c4⟩ := four_cells KBp144.out
  obtain ⟨bx0c0, bx0c1, bx0c2, bx0c3, bx0c4⟩ := four_cells KBbx044.out
  obtain ⟨bx1c0, bx1c1, bx1c2, bx1c3, bx1c4⟩ := four_cells KBbx144.out
  clear hb
  go_wp2_with fail
  refine (ints.eq_same _ _ ((bam.res x0 y0 wh0 xss0 x1 y1 wh1 xss1 a2).s) _ OWG44.out.view.two (VWW.out.below HBW44.out).two (pai.len_res x0 y0 wh0 xss0 x1 y1 wh1 xss1 a2).2).mono ?_
  rintro e we45 ⟨rfl, hb⟩
  clear p0c0 p0c1 p0c2 p0c3 p0c4 p1c0 p1c1 p1c2 p1c3 p1c4 bx0c0 bx0c1 bx0c2 bx0c3 bx0c4 bx1c0 bx1c1 bx1c2 bx1c3 bx1c4
  have BE46 := Lib.hid (below_tr BE44.out hb)
  have HBW46 := Lib.hid (below_tr HBW44.out hb)
  have OWG46 := Lib.hid (OWG44.out.keep hb)
  have KBp046 := Lib.hid (KBp044.out.below hb)
  have KBp146 := Lib.hid (KBp144.out.below hb)
  have KBbx046 := Lib.hid (KBbx044.out.below hb)
  have KBbx146 := Lib.hid (KBbx144.out.below hb)
  have ZZ46 : Hid (we43.heap.size ≤ we45.heap.size) := Lib.hid (by have := (hb).size; simpa using this)
  clear BE44 HBW44 OWG44 KBp044 KBp144 KBbx044 KBbx144
  obtain ⟨p0c0, p0c1, p0c2, p0c3, p0c4⟩ := four_cells KBp046.out
  obtain ⟨p1c0, p1c1, p1c2, p1c3, p1c4⟩ := four_cells KBp146.out
  obtain ⟨bx0c0, bx0c1, bx0c2, bx0c3, bx0c4⟩ := four_cells KBbx046.out
  obtain ⟨bx1c0, bx1c1, bx1c2, bx1c3, bx1c4⟩ := four_cells KBbx146.out
  clear hb
  have blr2 := (pai.len_res x0 y0 wh0 xss0 x1 y1 wh1 xss1 a2).2
  have blr1 := (pai.len_res x0 y0 wh0 xss0 x1 y1 wh1 xss1 a2).1
  have dq1 : ¬ (1 + (((bam.res x0 y0 wh0 xss0 x1 y1 wh1 xss1 a2).f).length : Int) < 0) := by omega
  have blr := (pai.len_res x0 y0 wh0 xss0 x1 y1 wh1 xss1 a2).1
  have dq : ¬ (1 + (((bam.res x0 y0 wh0 xss0 x1 y1 wh1 xss1 a2).f).length : Int) + (((bam.res x0 y0 wh0 xss0 x1 y1 wh1 xss1 a2).s).length : Int) < 0) := by omega
  have tq : ((1 + (((bam.res x0 y0 wh0 xss0 x1 y1 wh1 xss1 a2).f).length : Int) + (((bam.res x0 y0 wh0 xss0 x1 y1 wh1 xss1 a2).s).length : Int)) != (1 + (((bam.res x0 y0 wh0 xss0 x1 y1 wh1 xss1 a2).f).length : Int) + (((bam.res x0 y0 wh0 xss0 x1 y1 wh1 xss1 a2).s).length : Int))) = false := bne_self_eq_false _
  go_wp2_with fail
  refine (pai.mark1 _ _ ((bam.res x0 y0 wh0 xss0 x1 y1 wh1 xss1 a2).f) ((bam.res x0 y0 wh0 xss0 x1 y1 wh1 xss1 a2).s) (1) (wc22.heap.size + 1) (wf25.heap.size) _ OWG46.out (pai.len_res x0 y0 wh0 xss0 x1 y1 wh1 xss1 a2).1 (by omega) (by omega)).mono ?_
  rintro e wm47 ⟨rfl, hi1, S, hw, hs⟩
  clear OWG46
  clear p0c0 p0c1 p0c2 p0c3 p0c4 p1c0 p1c1 p1c2 p1c3 p1c4 bx0c0 bx0c1 bx0c2 bx0c3 bx0c4 bx1c0 bx1c1 bx1c2 bx1c3 bx1c4
  have BE49 := Lib.hid (BE46.out.trans (hw.below (fun p hp => by have := (hs p hp).1; have := ZZ14.out; have := ZZ16.out; have := ZZ18.out; have := ZZ20.out; have := ZZ23.out; have := ZZ26.out; have := ZZ28.out; have := ZZ30.out; have := ZZ32.out; have := ZZ34.out; have := ZZ37.out; have := ZZ38.out; have := ZZ41.out; have := ZZ42.out; have := ZZ44.out; have := ZZ46.out; omega)))
  have HBW49 := Lib.hid (HBW46.out.trans (hw.below (fun p hp => by have := (hs p hp).1; have := ZZ14.out; have := ZZ16.out; have := ZZ18.out; have := ZZ20.out; have := ZZ23.out; have := ZZ26.out; have := ZZ28.out; have := ZZ30.out; have := ZZ32.out; have := ZZ34.out; have := ZZ37.out; have := ZZ38.out; have := ZZ41.out; have := ZZ42.out; have := ZZ44.out; have := ZZ46.out; omega)))
  have KBp049 := Lib.hid (KBp046.out.wrote hw (fun p hp e => by have := hs p hp; have := ZZ14.out; have := ZZ16.out; have := ZZ18.out; have := ZZ20.out; have := ZZ23.out; have := ZZ26.out; have := ZZ28.out; have := ZZ30.out; have := ZZ32.out; have := ZZ34.out; have := ZZ37.out; have := ZZ38.out; have := ZZ41.out; have := ZZ42.out; have := ZZ44.out; have := ZZ46.out; omega))
  have KBp149 := Lib.hid (KBp146.out.wrote hw (fun p hp e => by have := hs p hp; have := ZZ14.out; have := ZZ16.out; have := ZZ18.out; have := ZZ20.out; have := ZZ23.out; have := ZZ26.out; have := ZZ28.out; have := ZZ30.out; have := ZZ32.out; have := ZZ34.out; have := ZZ37.out; have := ZZ38.out; have := ZZ41.out; have := ZZ42.out; have := ZZ44.out; have := ZZ46.out; omega))
  have KBbx049 := Lib.hid (KBbx046.out.wrote hw (fun p hp e => by have := hs p hp; have := ZZ14.out; have := ZZ16.out; have := ZZ18.out; have := ZZ20.out; have := ZZ23.out; have := ZZ26.out; have := ZZ28.out; have := ZZ30.out; have := ZZ32.out; have := ZZ34.out; have := ZZ37.out; have := ZZ38.out; have := ZZ41.out; have := ZZ42.out; have := ZZ44.out; have := ZZ46.out; omega))
  have KBbx149 := Lib.hid (KBbx146.out.wrote hw (fun p hp e => by have := hs p hp; have := ZZ14.out; have := ZZ16.out; have := ZZ18.out; have := ZZ20.out; have := ZZ23.out; have := ZZ26.out; have := ZZ28.out; have := ZZ30.out; have := ZZ32.out; have := ZZ34.out; have := ZZ37.out; have := ZZ38.out; have := ZZ41.out; have := ZZ42.out; have := ZZ44.out; have := ZZ46.out; omega))
  have ZZ49 : Hid (we45.heap.size ≤ wm47.heap.size) := Lib.hid (by have := hw.size; omega)
  clear BE46 HBW46 KBp046 KBp146 KBbx046 KBbx146
  obtain ⟨p0c0, p0c1, p0c2, p0c3, p0c4⟩ := four_cells KBp049.out
  obtain ⟨p1c0, p1c1, p1c2, p1c3, p1c4⟩ := four_cells KBp149.out
  obtain ⟨bx0c0, bx0c1, bx0c2, bx0c3, bx0c4⟩ := four_cells KBbx049.out
  obtain ⟨bx1c0, bx1c1, bx1c2, bx1c3, bx1c4⟩ := four_cells KBbx149.out
  have HH1 := Lib.hid hi1
  clear hw hs hi1
  go_wp2_with fail
  refine (pai.mark2 _ _ _ ((bam.res x0 y0 wh0 xss0 x1 y1 wh1 xss1 a2).s) (1 + ((bam.res x0 y0 wh0 xss0 x1 y1 wh1 xss1 a2).f).length) (wc22.heap.size + 1) (wf25.heap.size) _ HH1.out (pai.len_res x0 y0 wh0 xss0 x1 y1 wh1 xss1 a2).2 (by omega) (by omega)).mono ?_
  rintro e wm50 ⟨rfl, hi, S, hw, hs⟩
  clear HH1
  clear p0c0 p0c1 p0c2 p0c3 p0c4 p1c0 p1c1 p1c2 p1c3 p1c4 bx0c0 bx0c1 bx0c2 bx0c3 bx0c4 bx1c0 bx1c1 bx1c2 bx1c3 bx1c4
  have BE51 := Lib.hid (BE49.out.trans (hw.below (fun p hp => by have := (hs p hp).1; have := ZZ14.out; have := ZZ16.out; have := ZZ18.out; have := ZZ20.out; have := ZZ23.out; have := ZZ26.out; have := ZZ28.out; have := ZZ30.out; have := ZZ32.out; have := ZZ34.out; have := ZZ37.out; have := ZZ38.out; have := ZZ41.out; have := ZZ42.out; have := ZZ44.out; have := ZZ46.out; have := ZZ49.out; omega)))
  have HBW51 := Lib.hid (HBW49.out.trans (hw.below (fun p hp => by have := (hs p hp).1; have := ZZ14.out; have := ZZ16.out; have := ZZ18.out; have := ZZ20.out; have := ZZ23.out; have := ZZ26.out; have := ZZ28.out; have := ZZ30.out; have := ZZ32.out; have := ZZ34.out; have := ZZ37.out; have := ZZ38.out; have := ZZ41.out; have := ZZ42.out; have := ZZ44.out; have := ZZ46.out; have := ZZ49.out; omega)))
  have KBp051 := Lib.hid (KBp049.out.wrote hw (fun p hp e => by have := hs p hp; have := ZZ14.out; have := ZZ16.out; have := ZZ18.out; have := ZZ20.out; have := ZZ23.out; have := ZZ26.out; have := ZZ28.out; have := ZZ30.out; have := ZZ32.out; have := ZZ34.out; have := ZZ37.out; have := ZZ38.out; have := ZZ41.out; have := ZZ42.out; have := ZZ44.out; have := ZZ46.out; have := ZZ49.out; omega))
  have KBp151 := Lib.hid (KBp149.out.wrote hw (fun p hp e => by have := hs p hp; have := ZZ14.out; have := ZZ16.out; have := ZZ18.out; have := ZZ20.out; have := ZZ23.out; have := ZZ26.out; have := ZZ28.out; have := ZZ30.out; have := ZZ32.out; have := ZZ34.out; have := ZZ37.out; have := ZZ38.out; have := ZZ41.out; have := ZZ42.out; have := ZZ44.out; have := ZZ46.out; have := ZZ49.out; omega))
  have KBbx051 := Lib.hid (KBbx049.out.wrote hw (fun p hp e => by have := hs p hp; have := ZZ14.out; have := ZZ16.out; have := ZZ18.out; have := ZZ20.out; have := ZZ23.out; have := ZZ26.out; have := ZZ28.out; have := ZZ30.out; have := ZZ32.out; have := ZZ34.out; have := ZZ37.out; have := ZZ38.out; have := ZZ41.out; have := ZZ42.out; have := ZZ44.out; have := ZZ46.out; have := ZZ49.out; omega))
  have KBbx151 := Lib.hid (KBbx149.out.wrote hw (fun p hp e => by have := hs p hp; have := ZZ14.out; have := ZZ16.out; have := ZZ18.out; have := ZZ20.out; have := ZZ23.out; have := ZZ26.out; have := ZZ28.out; have := ZZ30.out; have := ZZ32.out; have := ZZ34.out; have := ZZ37.out; have := ZZ38.out; have := ZZ41.out; have := ZZ42.out; have := ZZ44.out; have := ZZ46.out; have := ZZ49.out; omega))
  have ZZ51 : Hid (wm47.heap.size ≤ wm50.heap.size) := Lib.hid (by have := hw.size; omega)
  clear BE49 HBW49 KBp049 KBp149 KBbx049 KBbx149
  obtain ⟨p0c0, p0c1, p0c2, p0c3, p0c4⟩ := four_cells KBp051.out
  obtain ⟨p1c0, p1c1, p1c2, p1c3, p1c4⟩ := four_cells KBp151.out
  obtain ⟨bx0c0, bx0c1, bx0c2, bx0c3, bx0c4⟩ := four_cells KBbx051.out
  obtain ⟨bx1c0, bx1c1, bx1c2, bx1c3, bx1c4⟩ := four_cells KBbx151.out
  clear hw hs
  have VWM := Lib.hid hi
  have HBM := Lib.hid (Below.refl wm50.heap.size wm50)
  clear hi
  go_wp2_with fail
  refine (ints.held_below _ ((bam.res x0 y0 wh0 xss0 x1 y1 wh1 xss1 a2).f).length 1 _ (VWM.out.below HBM.out).one (pai.len_res x0 y0 wh0 xss0 x1 y1 wh1 xss1 a2).1 (by omega) (by omega)).mono ?_
  rintro e wh52 ⟨rfl, hb⟩
  clear p0c0 p0c1 p0c2 p0c3 p0c4 p1c0 p1c1 p1c2 p1c3 p1c4 bx0c0 bx0c1 bx0c2 bx0c3 bx0c4 bx1c0 bx1c1 bx1c2 bx1c3 bx1c4
  have BE53 := Lib.hid (below_tr BE51.out hb)
  have HBW53 := Lib.hid (below_tr HBW51.out hb)
  have HBM53 := Lib.hid (below_tr HBM.out hb)
  have KBp053 := Lib.hid (KBp051.out.below hb)
  have KBp153 := Lib.hid (KBp151.out.below hb)
  have KBbx053 := Lib.hid (KBbx051.out.below hb)
  have KBbx153 := Lib.hid (KBbx151.out.below hb)
  have ZZ53 : Hid (wm50.heap.size ≤ wh52.heap.size) := Lib.hid (by have := (hb).size; simpa using this)
  clear BE51 HBW51 HBM KBp051 KBp151 KBbx051 KBbx151
  obtain ⟨p0c0, p0c1, p0c2, p0c3, p0c4⟩ := four_cells KBp053.out
  obtain ⟨p1c0, p1c1, p1c2, p1c3, p1c4⟩ := four_cells KBp153.out
  obtain ⟨bx0c0, bx0c1, bx0c2, bx0c3, bx0c4⟩ := four_cells KBbx053.out
  obtain ⟨bx1c0, bx1c1, bx1c2, bx1c3, bx1c4⟩ := four_cells KBbx153.out
  clear hb
  go_wp2_with fail
  refine (ints.held_below _ ((bam.res x0 y0 wh0 xss0 x1 y1 wh1 xss1 a2).s).length (1 + (((bam.res x0 y0 wh0 xss0 x1 y1 wh1 xss1 a2).f).length : Int)) _ (VWM.out.below HBM53.out).two (pai.len_res x0 y0 wh0 xss0 x1 y1 wh1 xss1 a2).2 (by omega) (by omega)).mono ?_
  rintro e wh54 ⟨rfl, hb⟩
  clear p0c0 p0c1 p0c2 p0c3 p0c4 p1c0 p1c1 p1c2 p1c3 p1c4 bx0c0 bx0c1 bx0c2 bx0c3 bx0c4 bx1c0 bx1c1 bx1c2 bx1c3 bx1c4
  have BE55 := Lib.hid (below_tr BE53.out hb)
  have HBW55 := Lib.hid (below_tr HBW53.out hb)
  have HBM55 := Lib.hid (below_tr HBM53.out hb)
  have KBp055 := Lib.hid (KBp053.out.below hb)
  have KBp155 := Lib.hid (KBp153.out.below hb)
  have KBbx055 := Lib.hid (KBbx053.out.below hb)
  have KBbx155 := Lib.hid (KBbx153.out.below hb)
  have ZZ55 : Hid (wh52.heap.size ≤ wh54.heap.size) := Lib.hid (by have := (hb).size; simpa using this)
  clear BE53 HBW53 HBM53 KBp053 KBp153 KBbx053 KBbx153
  obtain ⟨p0c0, p0c1, p0c2, p0c3, p0c4⟩ := four_cells KBp055.out
  obtain ⟨p1c0, p1c1, p1c2, p1c3, p1c4⟩ := four_cells KBp155.out
  obtain ⟨bx0c0, bx0c1, bx0c2, bx0c3, bx0c4⟩ := four_cells KBbx055.out
  obtain ⟨bx1c0, bx1c1, bx1c2, bx1c3, bx1c4⟩ := four_cells KBbx155.out
  clear hb
  have HA0Hh := Lib.hid (H0.out.below BE55.out)
  have HA1Hh := Lib.hid (H1.out.below BE55.out)
  go_wp2_with fail
  go_region_held3 (fun w' => w'.cell? ⟨w.heap.size, 0, none⟩ = some (.int .i64 x0) ∧ w'.cell? ⟨w.heap.size, 1, none⟩ = some (.int .i64 y0) ∧ w'.cell? ⟨w.heap.size, 2, none⟩ = some (.int .i64 wh0) ∧ w'.cell? ⟨w.heap.size, 3, none⟩ = some (.slice va0 vn0 vc0) ∧ w'.cell? ⟨w.heap.size + 1, 0, none⟩ = some (.int .i64 x1) ∧ w'.cell? ⟨w.heap.size + 1, 1, none⟩ = some (.int .i64 y1) ∧ w'.cell? ⟨w.heap.size + 1, 2, none⟩ = some (.int .i64 wh1) ∧ w'.cell? ⟨w.heap.size + 1, 3, none⟩ = some (.slice va1 vn1 vc1) ∧ Below wh54.heap.size wh54 w')
    ((refine held8 p0c0 p0c1 p0c2 p0c3 p1c0 p1c1 p1c2 p1c3 ?_; repeat (first | exact Below.refl _ _ | assumption | refine below_dr ?_ | refine below_tr ?_ (by assumption))))
    (first
      | (go_at_call 36; (with_reducible refine (box.to_any x0 y0 wh0 _ xss0 _ (HA0Hh.out.below ?_) hn0).mono ?_); (exact (below_dr (Below.refl _ _))); rintro e wq0Hh ⟨uq0Hh, rfl, huq0Hh, hbq0Hh⟩)
      | (go_at_call 36; (with_reducible refine (box.to_any x1 y1 wh1 _ xss1 _ (HA1Hh.out.below ?_) hn1).mono ?_); (exact (below_tr (below_dr (Below.refl _ _)) hbq0Hh)); rintro e wq1Hh ⟨uq1Hh, rfl, huq1Hh, hbq1Hh⟩)
      | (go_at_call 46; (with_reducible refine (bam.impl_any x0 y0 wh0 _ xss0 x1 y1 wh1 _ xss1 a2 _ (huq0Hh.rows.below hbq1Hh) huq1Hh.rows hn0 hn1).mono ?_); rintro e wf56 ⟨vHh, uHh, rfl, huHh, hbF⟩))
  have hbt := below_tr (below_tr (below_tr (below_dr (Below.refl _ _)) hbq0Hh) hbq1Hh) hbF
  clear HA0Hh huq0Hh hbq0Hh HA1Hh huq1Hh hbq1Hh hbF
  obtain ⟨Hha, Hhn, Hhc, Hhd, Hhm, Hhe, rfl, rfl⟩ := huHh.view.shape
  clear p0c0 p0c1 p0c2 p0c3 p0c4 p1c0 p1c1 p1c2 p1c3 p1c4 bx0c0 bx0c1 bx0c2 bx0c3 bx0c4 bx1c0 bx1c1 bx1c2 bx1c3 bx1c4
  have BE57 := Lib.hid (below_tr BE55.out hbt)
  have HBW57 := Lib.hid (below_tr HBW55.out hbt)
  have HBM57 := Lib.hid (below_tr HBM55.out hbt)
  have KBp057 := Lib.hid (KBp055.out.below hbt)
  have KBp157 := Lib.hid (KBp155.out.below hbt)
  have KBbx057 := Lib.hid (KBbx055.out.below hbt)
  have KBbx157 := Lib.hid (KBbx155.out.below hbt)
  have ZZ57 : Hid (wh54.heap.size ≤ wf56.heap.size) := Lib.hid (by have := (hbt).size; simpa using this)
  clear BE55 HBW55 HBM55 KBp055 KBp155 KBbx055 KBbx155
  obtain ⟨p0c0, p0c1, p0c2, p0c3, p0c4⟩ := four_cells KBp057.out
  obtain ⟨p1c0, p1c1, p1c2, p1c3, p1c4⟩ := four_cells KBp157.out
  obtain ⟨bx0c0, bx0c1, bx0c2, bx0c3, bx0c4⟩ := four_cells KBbx057.out
  obtain ⟨bx1c0, bx1c1, bx1c2, bx1c3, bx1c4⟩ := four_cells KBbx157.out
  clear hbt
  have VWHh := Lib.hid huHh.view
  have HBHh := Lib.hid (Below.refl wf56.heap.size wf56)
  clear huHh
  go_wp2_with fail
  refine (ints.eq_same _ _ ((bam.res x0 y0 wh0 xss0 x1 y1 wh1 xss1 a2).f) _ (VWHh.out.below HBHh.out).one (VWW.out.below HBW57.out).one (pai.len_res x0 y0 wh0 xss0 x1 y1 wh1 xss1 a2).1).mono ?_
  rintro e we58 ⟨rfl, hb⟩
  clear p0c0 p0c1 p0c2 p0c3 p0c4 p1c0 p1c1 p1c2 p1c3 p1c4 bx0c0 bx0c1 bx0c2 bx0c3 bx0c4 bx1c0 bx1c1 bx1c2 bx1c3 bx1c4
  have BE59 := Lib.hid (below_tr BE57.out hb)
  have HBW59 := Lib.hid (below_tr HBW57.out hb)
  have HBM59 := Lib.hid (below_tr HBM57.out hb)
  have HBHh59 := Lib.hid (below_tr HBHh.out hb)
  have KBp059 := Lib.hid (KBp057.out.below hb)
  have KBp159 := Lib.hid (KBp157.out.below hb)
  have KBbx059 := Lib.hid (KBbx057.out.below hb)
  have KBbx159 := Lib.hid (KBbx157.out.below hb)
  have ZZ59 : Hid (wf56.heap.size ≤ we58.heap.size) := Lib.hid (by have := (hb).size; simpa using this)
  clear BE57 HBW57 HBM57 HBHh KBp057 KBp157 KBbx057 KBbx157
  obtain ⟨p0c0, p0c1, p0c2, p0c3, p0c4⟩ := four_cells KBp059.out
  obtain ⟨p1c0, p1c1, p1c2, p1c3, p1c4⟩ := four_cells KBp159.out
  obtain ⟨bx0c0, bx0c1, bx0c2, bx0c3, bx0c4⟩ := four_cells KBbx059.out
  obtain ⟨bx1c0, bx1c1, bx1c2, bx1c3, bx1c4⟩ := four_cells KBbx159.out
  clear hb
  go_wp2_with fail
  refine (ints.eq_same _ _ ((bam.res x0 y0 wh0 xss0 x1 y1 wh1 xss1 a2).s) _ (VWHh.out.below HBHh59.out).two (VWW.out.below HBW59.out).two (pai.len_res x0 y0 wh0 xss0 x1 y1 wh1 xss1 a2).2).mono ?_
  rintro e we60 ⟨rfl, hb⟩
  clear p0c0 p0c1 p0c2 p0c3 p0c4 p1c0 p1c1 p1c2 p1c3 p1c4 bx0c0 bx0c1 bx0c2 bx0c3 bx0c4 bx1c0 bx1c1 bx1c2 bx1c3 bx1c4
  have BE61 := Lib.hid (below_tr BE59.out hb)
  have HBW61 := Lib.hid (below_tr HBW59.out hb)
  have HBM61 := Lib.hid (below_tr HBM59.out hb)
  have HBHh61 := Lib.hid (below_tr HBHh59.out hb)
  have KBp061 := Lib.hid (KBp059.out.below hb)
  have KBp161 := Lib.hid (KBp159.out.below hb)
  have KBbx061 := Lib.hid (KBbx059.out.below hb)
  have KBbx161 := Lib.hid (KBbx159.out.below hb)
  have ZZ61 : Hid (we58.heap.size ≤ we60.heap.size) := Lib.hid (by have := (hb).size; simpa using this)
  clear BE59 HBW59 HBM59 HBHh59 KBp059 KBp159 KBbx059 KBbx159
  obtain ⟨p0c0, p0c1, p0c2, p0c3, p0c4⟩ := four_cells KBp061.out
  obtain ⟨p1c0, p1c1, p1c2, p1c3, p1c4⟩ := four_cells KBp161.out
  obtain ⟨bx0c0, bx0c1, bx0c2, bx0c3, bx0c4⟩ := four_cells KBbx061.out
  obtain ⟨bx1c0, bx1c1, bx1c2, bx1c3, bx1c4⟩ := four_cells KBbx161.out
  clear hb
  go_wp2_with fail
  refine (ints.held_below _ ((bam.res x0 y0 wh0 xss0 x1 y1 wh1 xss1 a2).f).length 1 _ (VWM.out.below HBM61.out).one (pai.len_res x0 y0 wh0 xss0 x1 y1 wh1 xss1 a2).1 (by omega) (by omega)).mono ?_
  rintro e wh62 ⟨rfl, hb⟩
  clear p0c0 p0c1 p0c2 p0c3 p0c4 p1c0 p1c1 p1c2 p1c3 p1c4 bx0c0 bx0c1 bx0c2 bx0c3 bx0c4 bx1c0 bx1c1 bx1c2 bx1c3 bx1c4
  have BE63 := Lib.hid (below_tr BE61.out hb)
  have HBW63 := Lib.hid (below_tr HBW61.out hb)
  have HBM63 := Lib.hid (below_tr HBM61.out hb)
  have HBHh63 := Lib.hid (below_tr HBHh61.out hb)
  have KBp063 := Lib.hid (KBp061.out.below hb)
  have KBp163 := Lib.hid (KBp161.out.below hb)
  have KBbx063 := Lib.hid (KBbx061.out.below hb)
  have KBbx163 := Lib.hid (KBbx161.out.below hb)
  have ZZ63 : Hid (we60.heap.size ≤ wh62.heap.size) := Lib.hid (by have := (hb).size; simpa using this)
  clear BE61 HBW61 HBM61 HBHh61 KBp061 KBp161 KBbx061 KBbx161
  obtain ⟨p0c0, p0c1, p0c2, p0c3, p0c4⟩ := four_cells KBp063.out
  obtain ⟨p1c0, p1c1, p1c2, p1c3, p1c4⟩ := four_cells KBp163.out
  obtain ⟨bx0c0, bx0c1, bx0c2, bx0c3, bx0c4⟩ := four_cells KBbx063.out
  obtain ⟨bx1c0, bx1c1, bx1c2, bx1c3, bx1c4⟩ := four_cells KBbx163.out
  clear hb
  go_wp2_with fail
  refine (ints.held_below _ ((bam.res x0 y0 wh0 xss0 x1 y1 wh1 xss1 a2).s).length (1 + (((bam.res x0 y0 wh0 xss0 x1 y1 wh1 xss1 a2).f).length : Int)) _ (VWM.out.below HBM63.out).two (pai.len_res x0 y0 wh0 xss0 x1 y1 wh1 xss1 a2).2 (by omega) (by omega)).mono ?_
  rintro e wh64 ⟨rfl, hb⟩
  clear p0c0 p0c1 p0c2 p0c3 p0c4 p1c0 p1c1 p1c2 p1c3 p1c4 bx0c0 bx0c1 bx0c2 bx0c3 bx0c4 bx1c0 bx1c1 bx1c2 bx1c3 bx1c4
  have BE65 := Lib.hid (below_tr BE63.out hb)
  have HBW65 := Lib.hid (below_tr HBW63.out hb)
  have HBM65 := Lib.hid (below_tr HBM63.out hb)
  have HBHh65 := Lib.hid (below_tr HBHh63.out hb)
  have KBp065 := Lib.hid (KBp063.out.below hb)
  have KBp165 := Lib.hid (KBp163.out.below hb)
  have KBbx065 := Lib.hid (KBbx063.out.below hb)
  have KBbx165 := Lib.hid (KBbx163.out.below hb)
  have ZZ65 : Hid (wh62.heap.size ≤ wh64.heap.size) := Lib.hid (by have := (hb).size; simpa using this)
  clear BE63 HBW63 HBM63 HBHh63 KBp063 KBp163 KBbx063 KBbx163
  obtain ⟨p0c0, p0c1, p0c2, p0c3, p0c4⟩ := four_cells KBp065.out
  obtain ⟨p1c0, p1c1, p1c2, p1c3, p1c4⟩ := four_cells KBp165.out
  obtain ⟨bx0c0, bx0c1, bx0c2, bx0c3, bx0c4⟩ := four_cells KBbx065.out
  obtain ⟨bx1c0, bx1c1, bx1c2, bx1c3, bx1c4⟩ := four_cells KBbx165.out
  clear hb
  go_wp2_with fail
  go_ret
  exact ⟨rfl, BE65.out⟩

/-! ### the frame of the row -/
theorem own : ownKnob Try.prog.godebug = none := by kernel_rfl
theorem laidOut : laidOutB Try.prog = true := by kernel_rfl
set_option maxRecDepth 100000 in
theorem lifted (os : Os) (started : os.Started) (H : Type) (enc : TypeId × Value → H) :
    ReturnsInHanded {} Try.checked os 11 .any (Rows.fnExactBestAsksSpec.pre6 enc Try.prog Try.f11 Rows.fnExactBestAsksRow.domain false) (Rows.fnExactBestAsksSpec.post enc Try.prog Try.f11 false true false false) := by
  refine returnsInHanded_of_change (C := Try.checked) own started (by kernel_rfl) Try.func11
    (ChangeSpec.witness6 (enc := enc) (C := Try.checked) false ⟨#[], #[.agg #[.int .i64 0, .int .i64 0, .int .i64 0, .slice none 0 0], .agg #[.int .i64 0, .int .i64 0, .int .i64 0, .slice none 0 0], .int .i64 0], []⟩ 8 (by kernel_rfl) (by kernel_rfl) (by kernel_rfl) (by kernel_rfl)) ?_
  intro W base args ds gs before hval0 hW _ _
  have hval : ∀ (j : Nat) t v, Try.f11.params[j]? = some t → args[j]? = some v → Value.okWide Try.prog W .any base t v := hval0
  have hW' := hW
  obtain ⟨p, q, hA0, hV, rfl, hfz, hnd⟩ := hW
  have hA : DataW.TrodAll enc Try.prog W 0 (fun _ => true) true Try.f11.params.toList args.toList ds p := hA0
  rw [Try.params11] at hA hval
  obtain ⟨v0, vs0, d0, ds0, p0, q0, hargs, rfl, rfl, h0, r0⟩ := trodAll_cons hA
  obtain ⟨v1, vs1, d1, ds1, p1, q1, rfl, rfl, rfl, h1, r1⟩ := trodAll_cons r0
  obtain ⟨v2, vs2, d2, ds2, p2, q2, rfl, rfl, rfl, h2, r2⟩ := trodAll_cons r1
  obtain ⟨rfl, rfl, rfl⟩ := trodAll_nil r2
  obtain rfl : args = #[v0, v1, v2] := by cases args; simp_all
  obtain ⟨rfl, rfl⟩ := trodVars_none hV
  have lt0 : ∀ x ∈ p0, x.block < W.heap.size := by obtain ⟨m, hm⟩ := h0; exact DataW.trod_lt m _ _ _ hm
  obtain ⟨x0, y0, wh0, u0, xss0, rfl, g0⟩ := opn.box_of_trod Try.underlying46 (by kernel_rfl) (by kernel_rfl) Try.underlying3 Try.underlying3 Try.underlying3 Try.underlying23 Try.underlying22 Try.underlying3 (by kernel_rfl) (by kernel_rfl) (hval 0 46 v0 rfl rfl) h0
  have lt1 : ∀ x ∈ p1, x.block < W.heap.size := by obtain ⟨m, hm⟩ := h1; exact DataW.trod_lt m _ _ _ hm
  obtain ⟨x1, y1, wh1, u1, xss1, rfl, g1⟩ := opn.box_of_trod Try.underlying46 (by kernel_rfl) (by kernel_rfl) Try.underlying3 Try.underlying3 Try.underlying3 Try.underlying23 Try.underlying22 Try.underlying3 (by kernel_rfl) (by kernel_rfl) (hval 1 46 v1 rfl rfl) h1
  obtain ⟨a2, rfl, rfl, rfl, w2⟩ := open_int Try.underlying3 (hval 2 3 v2 rfl rfl) h2
  clear hA0 hval0
  refine (walk x0 y0 wh0 u0 xss0 x1 y1 wh1 u1 xss1 a2 W g0 g1 w2).mono fun e W' ⟨he, bel⟩ => ?_
  subst he
  exact ⟨_, rfl, _, _, _, [], _, [], hW', trodAll_mk1 (shut_bool Try.underlying4 _), (trodAll_cons_mk (Below.trod laidOut (by kernel_rfl) (of_decide_eq_true (by kernel_rfl)) h0 bel lt0) (trodAll_cons_mk (Below.trod laidOut (by kernel_rfl) (of_decide_eq_true (by kernel_rfl)) h1 bel lt1) (trodAll_cons_mk (shut_int Try.underlying3 w2) trodAll_mk0))), rfl, bel.frame _, fun h => by cases h⟩

theorem over : Rows.fnExactBestAsksRow.holds Try.pinned (OpenSpec.ofChange Rows.fnExactBestAsksSpec) :=
  OpenClaim.holds_of_wide 11 Try.f11 rfl rfl rfl rfl rfl rfl rfl ⟨rfl, rfl, rfl, rfl, rfl⟩ rfl rfl rfl rfl rfl (by kernel_rfl) Try.func11 (by kernel_rfl)
    (of_decide_eq_true (by kernel_rfl)) (by unfold Func.isWrapper; first | (rw [if_pos (by decide +kernel)]; kernel_rfl) | (rw [if_neg (by decide +kernel)]; exact ⟨rfl, rfl⟩))
    (fun os started H enc _ => lifted os started H enc)

theorem proved : Rows.FnExactBestAsksSaid := over
#print axioms proved
end Go.Proofs.Ytneonebgneonkaa.lawBestAsks
