/- Proved here: for all arguments, the law FnExactBothValue returns true: the program's function answers as its model in every field, leaves its arguments as they were, and its answer owns its memory. Conditions: none beyond the row. -/
import Derived.Test.YtimfnhejiiagmaaGame
import Derived.Test.YtimfnhejiiagmaaBvq
import Derived.Test.YtimfnhejiiagmaaBvp
import Derived.Test.YtimfnhejiiagmaaOpeng
import Derived.Test.YtimfnhejiiagmaaRows
import Derived.Deep.RegionHeld3
namespace Go.Proofs.Ytimfnhejiiagmaa.lawBothValue
open Go.ChangeShapes Go.WideShapes Go.ChangeAt Go.RowKit Go.Deep Go.Proofs.Ytimfnhejiiagmaa.base
open Go.ChangeMaps (open_string shut_string)

set_option maxRecDepth 100000 in
set_option maxHeartbeats 4000000 in
theorem walk (x0 y0 : Int) (wv0 : Value) (ws0 : List Int) (u0 : Value) (xss0 : List (List Int)) (x1 y1 : Int) (wv1 : Value) (ws1 : List Int) (u1 : Value) (xss1 : List (List Int)) (w : World) (h0 : game.GV w wv0 ws0 u0 xss0) (h1 : game.GV w wv1 ws1 u1 xss1) :
    Calls Try.prog 6 #[.agg #[.int .i64 x0, .int .i64 y0, wv0, u0], .agg #[.int .i64 x1, .int .i64 y1, wv1, u1]] w fun e w' => e = .returned (.bool true) ∧ Below w.heap.size w w' := by
  obtain ⟨wa0, wn0, wc0, va0, vn0, vc0, rfl, rfl⟩ := h0.shape
  obtain ⟨wa1, wn1, wc1, va1, vn1, vc1, rfl, rfl⟩ := h1.shape
  have H0 := Lib.hid h0
  have H1 := Lib.hid h1
  clear h0 h1
  by_cases hs0 : game.sz ws0 xss0 (1048576) < 0
  · skip
    go_enter Try.func6, Try.ntmps6
    have BE0 := Lib.hid (Below.refl w.heap.size w)
    have BE1 := Lib.hid (below_al BE0.out (.cells #[.int .i64 x0, .int .i64 y0, .slice wa0 wn0 wc0, .slice va0 vn0 vc0] 36))
    have KBp01 := Lib.hid (Blk.new w 36 #[.int .i64 x0, .int .i64 y0, .slice wa0 wn0 wc0, .slice va0 vn0 vc0])
    clear BE0
    have BE2 := Lib.hid (below_al BE1.out (.cells #[.int .i64 x1, .int .i64 y1, .slice wa1 wn1 wc1, .slice va1 vn1 vc1] 36))
    have KBp02 := Lib.hid (KBp01.out.alloc (.cells #[.int .i64 x1, .int .i64 y1, .slice wa1 wn1 wc1, .slice va1 vn1 vc1] 36))
    have KBp12 : Hid (Blk ((w.alloc (.cells #[.int .i64 x0, .int .i64 y0, .slice wa0 wn0 wc0, .slice va0 vn0 vc0] 36)).alloc (.cells #[.int .i64 x1, .int .i64 y1, .slice wa1 wn1 wc1, .slice va1 vn1 vc1] 36)) (w.heap.size + 1) 36 #[.int .i64 x1, .int .i64 y1, .slice wa1 wn1 wc1, .slice va1 vn1 vc1]) := Lib.hid (by have := Blk.new (w.alloc (.cells #[.int .i64 x0, .int .i64 y0, .slice wa0 wn0 wc0, .slice va0 vn0 vc0] 36)) 36 #[.int .i64 x1, .int .i64 y1, .slice wa1 wn1 wc1, .slice va1 vn1 vc1]; simpa using this)
    clear BE1 KBp01
    go_wp2_with fail
    refine (game.sz_any x0 y0 _ ws0 _ xss0 (1048576) _ (H0.out.below BE2.out) (by omega) (by omega)).mono ?_
    rintro e wz3 ⟨rfl, hb⟩
    have BE4 := Lib.hid (below_tr BE2.out hb)
    have KBp04 := Lib.hid (KBp02.out.below hb)
    have KBp14 := Lib.hid (KBp12.out.below hb)
    have ZZ4 : Hid ((w.alloc (.cells #[.int .i64 x0, .int .i64 y0, .slice wa0 wn0 wc0, .slice va0 vn0 vc0] 36)).heap.size + 1 ≤ wz3.heap.size) := Lib.hid (by have := (hb).size; simpa using this)
    clear BE2 KBp02 KBp12
    obtain ⟨p0c0, p0c1, p0c2, p0c3, p0c4⟩ := four_cells KBp04.out
    obtain ⟨p1c0, p1c1, p1c2, p1c3, p1c4⟩ := four_cells KBp14.out
    clear hb
    go_wp2_with fail
    go_ret
    exact ⟨rfl, BE4.out⟩
  have hq0 := game.sz_bound hs0
  have hn0 : ws0.length ≤ 1048576 := by omega
  have hm0 : rws.total xss0 ≤ 1048576 := by omega
  by_cases hs1 : game.sz ws1 xss1 (game.sz ws0 xss0 (1048576)) < 0
  · skip
    go_enter Try.func6, Try.ntmps6
    have BE0 := Lib.hid (Below.refl w.heap.size w)
    have BE5 := Lib.hid (below_al BE0.out (.cells #[.int .i64 x0, .int .i64 y0, .slice wa0 wn0 wc0, .slice va0 vn0 vc0] 36))
    have KBp05 := Lib.hid (Blk.new w 36 #[.int .i64 x0, .int .i64 y0, .slice wa0 wn0 wc0, .slice va0 vn0 vc0])
    clear BE0
    have BE6 := Lib.hid (below_al BE5.out (.cells #[.int .i64 x1, .int .i64 y1, .slice wa1 wn1 wc1, .slice va1 vn1 vc1] 36))
    have KBp06 := Lib.hid (KBp05.out.alloc (.cells #[.int .i64 x1, .int .i64 y1, .slice wa1 wn1 wc1, .slice va1 vn1 vc1] 36))
    have KBp16 : Hid (Blk ((w.alloc (.cells #[.int .i64 x0, .int .i64 y0, .slice wa0 wn0 wc0, .slice va0 vn0 vc0] 36)).alloc (.cells #[.int .i64 x1, .int .i64 y1, .slice wa1 wn1 wc1, .slice va1 vn1 vc1] 36)) (w.heap.size + 1) 36 #[.int .i64 x1, .int .i64 y1, .slice wa1 wn1 wc1, .slice va1 vn1 vc1]) := Lib.hid (by have := Blk.new (w.alloc (.cells #[.int .i64 x0, .int .i64 y0, .slice wa0 wn0 wc0, .slice va0 vn0 vc0] 36)) 36 #[.int .i64 x1, .int .i64 y1, .slice wa1 wn1 wc1, .slice va1 vn1 vc1]; simpa using this)
    clear BE5 KBp05
    go_wp2_with fail
    refine (game.sz_any x0 y0 _ ws0 _ xss0 (1048576) _ (H0.out.below BE6.out) (by omega) (by omega)).mono ?_
    rintro e wz7 ⟨rfl, hb⟩
    have BE8 := Lib.hid (below_tr BE6.out hb)
    have KBp08 := Lib.hid (KBp06.out.below hb)
    have KBp18 := Lib.hid (KBp16.out.below hb)
    have ZZ8 : Hid ((w.alloc (.cells #[.int .i64 x0, .int .i64 y0, .slice wa0 wn0 wc0, .slice va0 vn0 vc0] 36)).heap.size + 1 ≤ wz7.heap.size) := Lib.hid (by have := (hb).size; simpa using this)
    clear BE6 KBp06 KBp16
    obtain ⟨p0c0, p0c1, p0c2, p0c3, p0c4⟩ := four_cells KBp08.out
    obtain ⟨p1c0, p1c1, p1c2, p1c3, p1c4⟩ := four_cells KBp18.out
    clear hb
    go_wp2_with fail
    refine (game.sz_any x1 y1 _ ws1 _ xss1 (game.sz ws0 xss0 (1048576)) _ (H1.out.below BE8.out) (by omega) (by omega)).mono ?_
    rintro e wz9 ⟨rfl, hb⟩
    clear p0c0 p0c1 p0c2 p0c3 p0c4 p1c0 p1c1 p1c2 p1c3 p1c4
    have BE10 := Lib.hid (below_tr BE8.out hb)
    have KBp010 := Lib.hid (KBp08.out.below hb)
    have KBp110 := Lib.hid (KBp18.out.below hb)
    have ZZ10 : Hid (wz7.heap.size ≤ wz9.heap.size) := Lib.hid (by have := (hb).size; simpa using this)
    clear BE8 KBp08 KBp18
    obtain ⟨p0c0, p0c1, p0c2, p0c3, p0c4⟩ := four_cells KBp010.out
    obtain ⟨p1c0, p1c1, p1c2, p1c3, p1c4⟩ := four_cells KBp110.out
    clear hb
    go_wp2_with fail
    go_ret
    exact ⟨rfl, BE10.out⟩
  have hq1 := game.sz_bound hs1
  have hn1 : ws1.length ≤ 1048576 := by omega
  have hm1 : rws.total xss1 ≤ 1048576 := by omega
  go_enter Try.func6, Try.ntmps6
  have BE0 := Lib.hid (Below.refl w.heap.size w)
  have BE11 := Lib.hid (below_al BE0.out (.cells #[.int .i64 x0, .int .i64 y0, .slice wa0 wn0 wc0, .slice va0 vn0 vc0] 36))
  have KBp011 := Lib.hid (Blk.new w 36 #[.int .i64 x0, .int .i64 y0, .slice wa0 wn0 wc0, .slice va0 vn0 vc0])
  clear BE0
  have BE12 := Lib.hid (below_al BE11.out (.cells #[.int .i64 x1, .int .i64 y1, .slice wa1 wn1 wc1, .slice va1 vn1 vc1] 36))
  have KBp012 := Lib.hid (KBp011.out.alloc (.cells #[.int .i64 x1, .int .i64 y1, .slice wa1 wn1 wc1, .slice va1 vn1 vc1] 36))
  have KBp112 : Hid (Blk ((w.alloc (.cells #[.int .i64 x0, .int .i64 y0, .slice wa0 wn0 wc0, .slice va0 vn0 vc0] 36)).alloc (.cells #[.int .i64 x1, .int .i64 y1, .slice wa1 wn1 wc1, .slice va1 vn1 vc1] 36)) (w.heap.size + 1) 36 #[.int .i64 x1, .int .i64 y1, .slice wa1 wn1 wc1, .slice va1 vn1 vc1]) := Lib.hid (by have := Blk.new (w.alloc (.cells #[.int .i64 x0, .int .i64 y0, .slice wa0 wn0 wc0, .slice va0 vn0 vc0] 36)) 36 #[.int .i64 x1, .int .i64 y1, .slice wa1 wn1 wc1, .slice va1 vn1 vc1]; simpa using this)
  clear BE11 KBp011
  go_wp2_with fail
  refine (game.sz_any x0 y0 _ ws0 _ xss0 (1048576) _ (H0.out.below BE12.out) (by omega) (by omega)).mono ?_
  rintro e wz13 ⟨rfl, hb⟩
  have BE14 := Lib.hid (below_tr BE12.out hb)
  have KBp014 := Lib.hid (KBp012.out.below hb)
  have KBp114 := Lib.hid (KBp112.out.below hb)
  have ZZ14 : Hid ((w.alloc (.cells #[.int .i64 x0, .int .i64 y0, .slice wa0 wn0 wc0, .slice va0 vn0 vc0] 36)).heap.size + 1 ≤ wz13.heap.size) := Lib.hid (by have := (hb).size; simpa using this)
  clear BE12 KBp012 KBp112
  obtain ⟨p0c0, p0c1, p0c2, p0c3, p0c4⟩ := four_cells KBp014.out
  obtain ⟨p1c0, p1c1, p1c2, p1c3, p1c4⟩ := four_cells KBp114.out
  clear hb
  go_wp2_with fail
  refine (game.sz_any x1 y1 _ ws1 _ xss1 (game.sz ws0 xss0 (1048576)) _ (H1.out.below BE14.out) (by omega) (by omega)).mono ?_
  rintro e wz15 ⟨rfl, hb⟩
  clear p0c0 p0c1 p0c2 p0c3 p0c4 p1c0 p1c1 p1c2 p1c3 p1c4
  have BE16 := Lib.hid (below_tr BE14.out hb)
  have KBp016 := Lib.hid (KBp014.out.below hb)
  have KBp116 := Lib.hid (KBp114.out.below hb)
  have ZZ16 : Hid (wz13.heap.size ≤ wz15.heap.size) := Lib.hid (by have := (hb).size; simpa using this)
  clear BE14 KBp014 KBp114
  obtain ⟨p0c0, p0c1, p0c2, p0c3, p0c4⟩ := four_cells KBp016.out
  obtain ⟨p1c0, p1c1, p1c2, p1c3, p1c4⟩ := four_cells KBp116.out
  clear hb
  have HA0 := Lib.hid (H0.out.below BE16.out)
  have HA1 := Lib.hid (H1.out.below BE16.out)
  go_wp2_with fail
  go_region_held3 (fun w' => w'.cell? ⟨w.heap.size, 0, none⟩ = some (.int .i64 x0) ∧ w'.cell? ⟨w.heap.size, 1, none⟩ = some (.int .i64 y0) ∧ w'.cell? ⟨w.heap.size, 2, none⟩ = some (.slice wa0 wn0 wc0) ∧ w'.cell? ⟨w.heap.size, 3, none⟩ = some (.slice va0 vn0 vc0) ∧ w'.cell? ⟨w.heap.size + 1, 0, none⟩ = some (.int .i64 x1) ∧ w'.cell? ⟨w.heap.size + 1, 1, none⟩ = some (.int .i64 y1) ∧ w'.cell? ⟨w.heap.size + 1, 2, none⟩ = some (.slice wa1 wn1 wc1) ∧ w'.cell? ⟨w.heap.size + 1, 3, none⟩ = some (.slice va1 vn1 vc1) ∧ Below wz15.heap.size wz15 w')
    ((refine held8 p0c0 p0c1 p0c2 p0c3 p1c0 p1c1 p1c2 p1c3 ?_; repeat (first | exact Below.refl _ _ | assumption | refine below_dr ?_ | refine below_tr ?_ (by assumption))))
    (first
      | (go_at_call 23; (with_reducible refine (game.to_any x0 y0 _ ws0 _ xss0 _ (HA0.out.below ?_) hn0 hm0).mono ?_); (exact (below_dr (Below.refl _ _))); rintro e wq0 ⟨vq0, uq0, rfl, huq0, hbq0⟩)
      | (go_at_call 23; (with_reducible refine (game.to_any x1 y1 _ ws1 _ xss1 _ (HA1.out.below ?_) hn1 hm1).mono ?_); (exact (below_tr (below_dr (Below.refl _ _)) hbq0)); rintro e wq1 ⟨vq1, uq1, rfl, huq1, hbq1⟩)
      | (go_at_call 30; (with_reducible refine (bvq.spec_any x0 y0 x1 y1 _ ws0 _ xss0 _ ws1 _ xss1 _ (huq0.view.below hbq1) huq1.view hn0 hm0 hn1 hm1).mono ?_); rintro e wf17 ⟨rfl, hbF⟩))
  have hbt := below_tr (below_tr (below_tr (below_dr (Below.refl _ _)) hbq0) hbq1) hbF
  clear HA0 huq0 hbq0 HA1 huq1 hbq1 hbF
  clear p0c0 p0c1 p0c2 p0c3 p0c4 p1c0 p1c1 p1c2 p1c3 p1c4
  have BE18 := Lib.hid (below_tr BE16.out hbt)
  have KBp018 := Lib.hid (KBp016.out.below hbt)
  have KBp118 := Lib.hid (KBp116.out.below hbt)
  have ZZ18 : Hid (wz15.heap.size ≤ wf17.heap.size) := Lib.hid (by have := (hbt).size; simpa using this)
  clear BE16 KBp016 KBp116
  obtain ⟨p0c0, p0c1, p0c2, p0c3, p0c4⟩ := four_cells KBp018.out
  obtain ⟨p1c0, p1c1, p1c2, p1c3, p1c4⟩ := four_cells KBp118.out
  clear hbt
  go_wp2_with fail
  refine (game.to_any x0 y0 _ ws0 _ xss0 _ (H0.out.below BE18.out) hn0 hm0).mono ?_
  rintro e wc19 ⟨vx0, ux0, rfl, hu, hb⟩
  obtain ⟨x0a, x0n, x0c, x0d, x0m, x0e, rfl, rfl⟩ := hu.view.shape
  clear p0c0 p0c1 p0c2 p0c3 p0c4 p1c0 p1c1 p1c2 p1c3 p1c4
  have BE20 := Lib.hid (below_tr BE18.out hb)
  have KBp020 := Lib.hid (KBp018.out.below hb)
  have KBp120 := Lib.hid (KBp118.out.below hb)
  have ZZ20 : Hid (wf17.heap.size ≤ wc19.heap.size) := Lib.hid (by have := (hb).size; simpa using this)
  clear BE18 KBp018 KBp118
  obtain ⟨p0c0, p0c1, p0c2, p0c3, p0c4⟩ := four_cells KBp020.out
  obtain ⟨p1c0, p1c1, p1c2, p1c3, p1c4⟩ := four_cells KBp120.out
  have OWx0 := Lib.hid (hu.mono (B' := wf17.heap.size) (by simp) (Nat.le_refl _))
  clear hu hb
  go_wp2_with fail
  have BE21 := Lib.hid (below_al BE20.out (.cells #[.int .i64 x0, .int .i64 y0, .slice x0a x0n x0c, .slice x0d x0m x0e] 40))
  have OWx021 := Lib.hid (OWx0.out.keep (below_al (Below.refl _ _) (.cells #[.int .i64 x0, .int .i64 y0, .slice x0a x0n x0c, .slice x0d x0m x0e] 40)))
  have KBp021 := Lib.hid (KBp020.out.alloc (.cells #[.int .i64 x0, .int .i64 y0, .slice x0a x0n x0c, .slice x0d x0m x0e] 40))
  have KBp121 := Lib.hid (KBp120.out.alloc (.cells #[.int .i64 x0, .int .i64 y0, .slice x0a x0n x0c, .slice x0d x0m x0e] 40))
  have KBbx021 := Lib.hid (Blk.new wc19 40 #[.int .i64 x0, .int .i64 y0, .slice x0a x0n x0c, .slice x0d x0m x0e])
  clear BE20 OWx0 KBp020 KBp120
  go_wp2_with fail
  refine (game.to_any x1 y1 _ ws1 _ xss1 _ (H1.out.below BE21.out) hn1 hm1).mono ?_
  rintro e wc22 ⟨vx1, ux1, rfl, hu, hb⟩
  obtain ⟨x1a, x1n, x1c, x1d, x1m, x1e, rfl, rfl⟩ := hu.view.shape
  clear p0c0 p0c1 p0c2 p0c3 p0c4 p1c0 p1c1 p1c2 p1c3 p1c4
  have BE23 := Lib.hid (below_tr BE21.out hb)
  have OWx023 := Lib.hid (OWx021.out.keep hb)
  have KBp023 := Lib.hid (KBp021.out.below hb)
  have KBp123 := Lib.hid (KBp121.out.below hb)
  have KBbx023 := Lib.hid (KBbx021.out.below hb)
  have ZZ23 : Hid (wc19.heap.size + 1 ≤ wc22.heap.size) := Lib.hid (by have := (hb).size; simpa using this)
  clear BE21 OWx021 KBp021 KBp121 KBbx021
  obtain ⟨p0c0, p0c1, p0c2, p0c3, p0c4⟩ := four_cells KBp023.out
  obtain ⟨p1c0, p1c1, p1c2, p1c3, p1c4⟩ := four_cells KBp123.out
  obtain ⟨bx0c0, bx0c1, bx0c2, bx0c3, bx0c4⟩ := four_cells KBbx023.out
  have OWx1 := Lib.hid (hu.mono (B' := wc19.heap.size + 1) (by simp) (Nat.le_refl _))
  clear hu hb
  go_wp2_with fail
  have BE24 := Lib.hid (below_al BE23.out (.cells #[.int .i64 x1, .int .i64 y1, .slice x1a x1n x1c, .slice x1d x1m x1e] 40))
  have OWx024 := Lib.hid (OWx023.out.keep (below_al (Below.refl _ _) (.cells #[.int .i64 x1, .int .i64 y1, .slice x1a x1n x1c, .slice x1d x1m x1e] 40)))
  have OWx124 := Lib.hid (OWx1.out.keep (below_al (Below.refl _ _) (.cells #[.int .i64 x1, .int .i64 y1, .slice x1a x1n x1c, .slice x1d x1m x1e] 40)))
  have KBp024 := Lib.hid (KBp023.out.alloc (.cells #[.int .i64 x1, .int .i64 y1, .slice x1a x1n x1c, .slice x1d x1m x1e] 40))
  have KBp124 := Lib.hid (KBp123.out.alloc (.cells #[.int .i64 x1, .int .i64 y1, .slice x1a x1n x1c, .slice x1d x1m x1e] 40))
  have KBbx024 := Lib.hid (KBbx023.out.alloc (.cells #[.int .i64 x1, .int .i64 y1, .slice x1a x1n x1c, .slice x1d x1m x1e] 40))
  have KBbx124 := Lib.hid (Blk.new wc22 40 #[.int .i64 x1, .int .i64 y1, .slice x1a x1n x1c, .slice x1d x1m x1e])
  clear BE23 OWx023 OWx1 KBp023 KBp123 KBbx023
  go_wp2_with fail
  refine (bvp.impl_any x0 y0 x1 y1 (.slice x0a x0n x0c) ws0 (.slice x0d x0m x0e) xss0 (.slice x1a x1n x1c) ws1 (.slice x1d x1m x1e) xss1 _ OWx024.out.view OWx124.out.view hn0 hm0 hn1 hm1).mono ?_
  rintro e wf25 ⟨rfl, hb⟩
  clear p0c0 p0c1 p0c2 p0c3 p0c4 p1c0 p1c1 p1c2 p1c3 p1c4 bx0c0 bx0c1 bx0c2 bx0c3 bx0c4
  have BE26 := Lib.hid (below_tr BE24.out hb)
  have OWx026 := Lib.hid (OWx024.out.keep hb)
  have OWx126 := Lib.hid (OWx124.out.keep hb)
  have KBp026 := Lib.hid (KBp024.out.below hb)
  have KBp126 := Lib.hid (KBp124.out.below hb)
  have KBbx026 := Lib.hid (KBbx024.out.below hb)
  have KBbx126 := Lib.hid (KBbx124.out.below hb)
  have ZZ26 : Hid (wc22.heap.size + 1 ≤ wf25.heap.size) := Lib.hid (by have := (hb).size; simpa using this)
  clear BE24 OWx024 OWx124 KBp024 KBp124 KBbx024 KBbx124
  obtain ⟨p0c0, p0c1, p0c2, p0c3, p0c4⟩ := four_cells KBp026.out
  obtain ⟨p1c0, p1c1, p1c2, p1c3, p1c4⟩ := four_cells KBp126.out
  obtain ⟨bx0c0, bx0c1, bx0c2, bx0c3, bx0c4⟩ := four_cells KBbx026.out
  obtain ⟨bx1c0, bx1c1, bx1c2, bx1c3, bx1c4⟩ := four_cells KBbx126.out
  clear hb
  have tk0 : (((bvm.res x0 y0 x1 y1 ws0 xss0 ws1 xss1).1) != ((bvm.res x0 y0 x1 y1 ws0 xss0 ws1 xss1).1)) = false := bne_self_eq_false _
  have tk1 : (((bvm.res x0 y0 x1 y1 ws0 xss0 ws1 xss1).2) != ((bvm.res x0 y0 x1 y1 ws0 xss0 ws1 xss1).2)) = false := bne_self_eq_false _
  go_wp2_with fail
  have HA := Lib.hid (H0.out.below BE26.out)
  have HX := Lib.hid (OWx026.out.view)
  go_region_held3 (fun w' => w'.cell? ⟨w.heap.size, 0, none⟩ = some (.int .i64 x0) ∧ w'.cell? ⟨w.heap.size, 1, none⟩ = some (.int .i64 y0) ∧ w'.cell? ⟨w.heap.size, 2, none⟩ = some (.slice wa0 wn0 wc0) ∧ w'.cell? ⟨w.heap.size, 3, none⟩ = some (.slice va0 vn0 vc0) ∧ w'.cell? ⟨wc19.heap.size, 0, none⟩ = some (.int .i64 x0) ∧ w'.cell? ⟨wc19.heap.size, 1, none⟩ = some (.int .i64 y0) ∧ w'.cell? ⟨wc19.heap.size, 2, none⟩ = some (.slice x0a x0n x0c) ∧ w'.cell? ⟨wc19.heap.size, 3, none⟩ = some (.slice x0d x0m x0e) ∧ Below wf25.heap.size wf25 w')
    ((refine held8 p0c0 p0c1 p0c2 p0c3 bx0c0 bx0c1 bx0c2 bx0c3 ?_; repeat (first | exact Below.refl _ _ | assumption | refine below_dr ?_ | refine below_tr ?_ (by assumption))))
    (first | (go_at_call 23; refine (game.to_any x0 y0 _ ws0 _ xss0 _ (HA.out.below ?_) hn0 hm0).mono ?_; (simp [*]); rintro e wq ⟨vq, uq, rfl, huq, hbq⟩) | (go_at_call 25; refine (game.eq_same x0 y0 _ _ ws0 _ _ xss0 _ (HX.out.below (below_tr (below_dr (Below.refl _ _)) hbq)) huq.view hn0 hm0).mono ?_; rintro e wd27 ⟨rfl, hbr⟩))
  have hbt := below_tr (below_tr (below_dr (Below.refl _ _)) hbq) hbr
  clear HA HX huq hbq hbr
  clear p0c0 p0c1 p0c2 p0c3 p0c4 p1c0 p1c1 p1c2 p1c3 p1c4 bx0c0 bx0c1 bx0c2 bx0c3 bx0c4 bx1c0 bx1c1 bx1c2 bx1c3 bx1c4
  have BE28 := Lib.hid (below_tr BE26.out hbt)
  have OWx028 := Lib.hid (OWx026.out.keep hbt)
  have OWx128 := Lib.hid (OWx126.out.keep hbt)
  have KBp028 := Lib.hid (KBp026.out.below hbt)
  have KBp128 := Lib.hid (KBp126.out.below hbt)
  have KBbx028 := Lib.hid (KBbx026.out.below hbt)
  have KBbx128 := Lib.hid (KBbx126.out.below hbt)
  have ZZ28 : Hid (wf25.heap.size ≤ wd27.heap.size) := Lib.hid (by have := (hbt).size; simpa using this)
  clear BE26 OWx026 OWx126 KBp026 KBp126 KBbx026 KBbx126
  obtain ⟨p0c0, p0c1, p0c2, p0c3, p0c4⟩ := four_cells KBp028.out
  obtain ⟨p1c0, p1c1, p1c2, p1c3, p1c4⟩ := four_cells KBp128.out
  obtain ⟨bx0c0, bx0c1, bx0c2, bx0c3, bx0c4⟩ := four_cells KBbx028.out
  obtain ⟨bx1c0, bx1c1, bx1c2, bx1c3, bx1c4⟩ := four_cells KBbx128.out
  clear hbt
  go_wp2_with fail
  have HA := Lib.hid (H1.out.below BE28.out)
  have HX := Lib.hid (OWx128.out.view)
  go_region_held3 (fun w' => w'.cell? ⟨w.heap.size + 1, 0, none⟩ = some (.int .i64 x1) ∧ w'.cell? ⟨w.heap.size + 1, 1, none⟩ = some (.int .i64 y1) ∧ w'.cell? ⟨w.heap.size + 1, 2, none⟩ = some (.slice wa1 wn1 wc1) ∧ w'.cell? ⟨w.heap.size + 1, 3, none⟩ = some (.slice va1 vn1 vc1) ∧ w'.cell? ⟨wc22.heap.size, 0, none⟩ = some (.int .i64 x1) ∧ w'.cell? ⟨wc22.heap.size, 1, none⟩ = some (.int .i64 y1) ∧ w'.cell? ⟨wc22.heap.size, 2, none⟩ = some (.slice x1a x1n x1c) ∧ w'.cell? ⟨wc22.heap.size, 3, none⟩ = some (.slice x1d x1m x1e) ∧ Below wd27.heap.size wd27 w')
    ((refine held8 p1c0 p1c1 p1c2 p1c3 bx1c0 bx1c1 bx1c2 bx1c3 ?_; repeat (first | exact Below.refl _ _ | assumption | refine below_dr ?_ | refine below_tr ?_ (by assumption))))
    (first | (go_at_call 23; refine (game.to_any x1 y1 _ ws1 _ xss1 _ (HA.out.below ?_) hn1 hm1).mono ?_; (simp [*]); rintro e wq ⟨vq, uq, rfl, huq, hbq⟩) | (go_at_call 25; refine (game.eq_same x1 y1 _ _ ws1 _ _ xss1 _ (HX.out.below (below_tr (below_dr (Below.refl _ _)) hbq)) huq.view hn1 hm1).mono ?_; rintro e wd29 ⟨rfl, hbr⟩))
  have hbt := below_tr (below_tr (below_dr (Below.refl _ _)) hbq) hbr
  clear HA HX huq hbq hbr
  clear p0c0 p0c1 p0c2 p0c3 p0c4 p1c0 p1c1 p1c2 p1c3 p1c4 bx0c0 bx0c1 bx0c2 bx0c3 bx0c4 bx1c0 bx1c1 bx1c2 bx1c3 bx1c4
  have BE30 := Lib.hid (below_tr BE28.out hbt)
  have OWx030 := Lib.hid (OWx028.out.keep hbt)
  have OWx130 := Lib.hid (OWx128.out.keep hbt)
  have KBp030 := Lib.hid (KBp028.out.below hbt)
  have KBp130 := Lib.hid (KBp128.out.below hbt)
  have KBbx030 := Lib.hid (KBbx028.out.below hbt)
  have KBbx130 := Lib.hid (KBbx128.out.below hbt)
  have ZZ30 : Hid (wd27.heap.size ≤ wd29.heap.size) := Lib.hid (by have := (hbt).size; simpa using this)
  clear BE28 OWx028 OWx128 KBp028 KBp128 KBbx028 KBbx128
  obtain ⟨p0c0, p0c1, p0c2, p0c3, p0c4⟩ := four_cells KBp030.out
  obtain ⟨p1c0, p1c1, p1c2, p1c3, p1c4⟩ := four_cells KBp130.out
  obtain ⟨bx0c0, bx0c1, bx0c2, bx0c3, bx0c4⟩ := four_cells KBbx030.out
  obtain ⟨bx1c0, bx1c1, bx1c2, bx1c3, bx1c4⟩ := four_cells KBbx130.out
  clear hbt
  go_wp2_with fail
  go_ret
  exact ⟨rfl, BE30.out⟩

/-! ### the frame of the row -/
theorem own : ownKnob Try.prog.godebug = none := by kernel_rfl
theorem laidOut : laidOutB Try.prog = true := by kernel_rfl
set_option maxRecDepth 100000 in
theorem lifted (os : Os) (started : os.Started) (H : Type) (enc : TypeId × Value → H) :
    ReturnsInHanded {} Try.checked os 6 .any (Rows.fnExactBothValueSpec.pre6 enc Try.prog Try.f6 Rows.fnExactBothValueRow.domain false) (Rows.fnExactBothValueSpec.post enc Try.prog Try.f6 false true false false) := by
  refine returnsInHanded_of_change (C := Try.checked) own started (by kernel_rfl) Try.func6
    (ChangeSpec.witness6 (enc := enc) (C := Try.checked) false ⟨#[], #[.agg #[.int .i64 0, .int .i64 0, .slice none 0 0, .slice none 0 0], .agg #[.int .i64 0, .int .i64 0, .slice none 0 0, .slice none 0 0]], []⟩ 8 (by kernel_rfl) (by kernel_rfl) (by kernel_rfl) (by kernel_rfl)) ?_
  intro W base args ds gs before hval0 hW _ _
  have hval : ∀ (j : Nat) t v, Try.f6.params[j]? = some t → args[j]? = some v → Value.okWide Try.prog W .any base t v := hval0
  have hW' := hW
  obtain ⟨p, q, hA0, hV, rfl, hfz, hnd⟩ := hW
  have hA : DataW.TrodAll enc Try.prog W 0 (fun _ => true) true Try.f6.params.toList args.toList ds p := hA0
  rw [Try.params6] at hA hval
  obtain ⟨v0, vs0, d0, ds0, p0, q0, hargs, rfl, rfl, h0, r0⟩ := trodAll_cons hA
  obtain ⟨v1, vs1, d1, ds1, p1, q1, rfl, rfl, rfl, h1, r1⟩ := trodAll_cons r0
  obtain ⟨rfl, rfl, rfl⟩ := trodAll_nil r1
  obtain rfl : args = #[v0, v1] := by cases args; simp_all
  obtain ⟨rfl, rfl⟩ := trodVars_none hV
  have lt0 : ∀ x ∈ p0, x.block < W.heap.size := by obtain ⟨m, hm⟩ := h0; exact DataW.trod_lt m _ _ _ hm
  obtain ⟨x0, y0, wv0, ws0, u0, xss0, rfl, g10, g20⟩ := opng.game_of_trod Try.underlying36 (by kernel_rfl) (by kernel_rfl) Try.underlying3 Try.underlying3 Try.underlying34 Try.underlying22 Try.underlying34 Try.underlying3 (by kernel_rfl) (by kernel_rfl) (hval 0 36 v0 rfl rfl) h0
  have g0 : game.GV W wv0 ws0 u0 xss0 := ⟨g10, g20⟩
  have lt1 : ∀ x ∈ p1, x.block < W.heap.size := by obtain ⟨m, hm⟩ := h1; exact DataW.trod_lt m _ _ _ hm
  obtain ⟨x1, y1, wv1, ws1, u1, xss1, rfl, g11, g21⟩ := opng.game_of_trod Try.underlying36 (by kernel_rfl) (by kernel_rfl) Try.underlying3 Try.underlying3 Try.underlying34 Try.underlying22 Try.underlying34 Try.underlying3 (by kernel_rfl) (by kernel_rfl) (hval 1 36 v1 rfl rfl) h1
  have g1 : game.GV W wv1 ws1 u1 xss1 := ⟨g11, g21⟩
  clear hA0 hval0
  refine (walk x0 y0 wv0 ws0 u0 xss0 x1 y1 wv1 ws1 u1 xss1 W g0 g1).mono fun e W' ⟨he, bel⟩ => ?_
  subst he
  exact ⟨_, rfl, _, _, _, [], _, [], hW', trodAll_mk1 (shut_bool Try.underlying4 _), (trodAll_cons_mk (Below.trod laidOut (by kernel_rfl) (of_decide_eq_true (by kernel_rfl)) h0 bel lt0) (trodAll_cons_mk (Below.trod laidOut (by kernel_rfl) (of_decide_eq_true (by kernel_rfl)) h1 bel lt1) trodAll_mk0)), rfl, bel.frame _, fun h => by cases h⟩

theorem over : Rows.fnExactBothValueRow.holds Try.pinned (OpenSpec.ofChange Rows.fnExactBothValueSpec) :=
  OpenClaim.holds_of_wide 6 Try.f6 rfl rfl rfl rfl rfl rfl rfl ⟨rfl, rfl, rfl, rfl, rfl⟩ rfl rfl rfl rfl rfl (by kernel_rfl) Try.func6 (by kernel_rfl)
    (of_decide_eq_true (by kernel_rfl)) (by unfold Func.isWrapper; first | (rw [if_pos (by decide +kernel)]; kernel_rfl) | (rw [if_neg (by decide +kernel)]; exact ⟨rfl, rfl⟩))
    (fun os started H enc _ => lifted os started H enc)

theorem proved : Rows.FnExactBothValueSaid := over
#print axioms proved
end Go.Proofs.Ytimfnhejiiagmaa.lawBothValue
