/- Proved here: for all arguments, the law FnExactAddThird returns true: the program's function answers as its model in every field, leaves its arguments as they were, and its answer owns its memory. Conditions: none beyond the row. -/
import Derived.Test.YtomofmmecpdalabBox
import Derived.Test.YtomofmmecpdalabTri
import Derived.Test.YtomofmmecpdalabTat
import Derived.Test.YtomofmmecpdalabTas
import Derived.Test.YtomofmmecpdalabOpen
import Derived.Test.YtomofmmecpdalabRows
import Derived.Deep.RegionHeld3
namespace Go.Proofs.Ytomofmmecpdalab.lawAddThird
open Go.ChangeShapes Go.WideShapes Go.ChangeAt Go.RowKit Go.Deep Go.Proofs.Ytomofmmecpdalab.base
open Go.ChangeMaps (open_string shut_string)

set_option maxRecDepth 100000 in
set_option maxHeartbeats 4000000 in
theorem walk (x0 y0 wh0 : Int) (u0 : Value) (xss0 : List (List Int)) (v1 : Value) (xs1 : List Int) (a2 : Int) (w : World) (h0 : IRows w u0 xss0) (h1 : Ints w v1 xs1) (_f2 : (Lit.int .i64 a2).wf = true) :
    Calls Try.prog 3 #[.agg #[.int .i64 x0, .int .i64 y0, .int .i64 wh0, u0], v1, .int .i64 a2] w fun e w' => e = .returned (.bool true) ∧ Below w.heap.size w w' := by
  obtain ⟨va0, vn0, vc0, rfl⟩ := h0.shape
  obtain ⟨va1, vc1, hv1⟩ : ∃ A c, v1 = .slice A xs1.length c := by obtain ⟨A, c, hv, _⟩ := h1; exact ⟨A, c, by rw [hv, len_i64s]⟩
  subst hv1
  have H0 := Lib.hid h0
  have H1 := Lib.hid h1
  clear h0 h1
  by_cases hs1 : 1048576 < (xs1.length : Int)
  · skip
    go_enter Try.func3, Try.ntmps3
    have BE0 := Lib.hid (Below.refl w.heap.size w)
    have BE1 := Lib.hid (below_al BE0.out (.cells #[.int .i64 x0, .int .i64 y0, .int .i64 wh0, .slice va0 vn0 vc0] 24))
    have KBp01 := Lib.hid (Blk.new w 24 #[.int .i64 x0, .int .i64 y0, .int .i64 wh0, .slice va0 vn0 vc0])
    clear BE0
    go_wp2_with fail
    go_ret
    exact ⟨rfl, BE1.out⟩
  have hn1 : xs1.length ≤ 1048576 := by omega
  by_cases hs0 : rws.sz xss0 (1048576) < 0
  · skip
    go_enter Try.func3, Try.ntmps3
    have BE0 := Lib.hid (Below.refl w.heap.size w)
    have BE2 := Lib.hid (below_al BE0.out (.cells #[.int .i64 x0, .int .i64 y0, .int .i64 wh0, .slice va0 vn0 vc0] 24))
    have KBp02 := Lib.hid (Blk.new w 24 #[.int .i64 x0, .int .i64 y0, .int .i64 wh0, .slice va0 vn0 vc0])
    clear BE0
    go_wp2_with fail
    refine (box.sz_any x0 y0 wh0 _ xss0 (1048576) _ (H0.out.below BE2.out) (by omega) (by omega)).mono ?_
    rintro e wz3 ⟨rfl, hb⟩
    have BE4 := Lib.hid (below_tr BE2.out hb)
    have KBp04 := Lib.hid (KBp02.out.below hb)
    have ZZ4 : Hid (w.heap.size + 1 ≤ wz3.heap.size) := Lib.hid (by have := (hb).size; simpa using this)
    clear BE2 KBp02
    obtain ⟨p0c0, p0c1, p0c2, p0c3, p0c4⟩ := four_cells KBp04.out
    clear hb
    go_wp2_with fail
    go_ret
    exact ⟨rfl, BE4.out⟩
  have hq0 := rws.sz_bound hs0
  have hn0 : rws.total xss0 ≤ 1048576 := by omega
  go_enter Try.func3, Try.ntmps3
  have BE0 := Lib.hid (Below.refl w.heap.size w)
  have BE5 := Lib.hid (below_al BE0.out (.cells #[.int .i64 x0, .int .i64 y0, .int .i64 wh0, .slice va0 vn0 vc0] 24))
  have KBp05 := Lib.hid (Blk.new w 24 #[.int .i64 x0, .int .i64 y0, .int .i64 wh0, .slice va0 vn0 vc0])
  clear BE0
  go_wp2_with fail
  refine (box.sz_any x0 y0 wh0 _ xss0 (1048576) _ (H0.out.below BE5.out) (by omega) (by omega)).mono ?_
  rintro e wz6 ⟨rfl, hb⟩
  have BE7 := Lib.hid (below_tr BE5.out hb)
  have KBp07 := Lib.hid (KBp05.out.below hb)
  have ZZ7 : Hid (w.heap.size + 1 ≤ wz6.heap.size) := Lib.hid (by have := (hb).size; simpa using this)
  clear BE5 KBp05
  obtain ⟨p0c0, p0c1, p0c2, p0c3, p0c4⟩ := four_cells KBp07.out
  clear hb
  go_wp2_with fail
  refine (box.to_any x0 y0 wh0 _ xss0 _ (H0.out.below BE7.out) hn0).mono ?_
  rintro e wc8 ⟨us0, rfl, hu, hb⟩
  obtain ⟨s0a, s0n, s0c, rfl⟩ := hu.rows.shape
  clear p0c0 p0c1 p0c2 p0c3 p0c4
  have BE9 := Lib.hid (below_tr BE7.out hb)
  have KBp09 := Lib.hid (KBp07.out.below hb)
  have ZZ9 : Hid (wz6.heap.size ≤ wc8.heap.size) := Lib.hid (by have := (hb).size; simpa using this)
  clear BE7 KBp07
  obtain ⟨p0c0, p0c1, p0c2, p0c3, p0c4⟩ := four_cells KBp09.out
  have OWs0 := Lib.hid (hu.mono (B' := wz6.heap.size) (by simp) (Nat.le_refl _))
  clear hu hb
  go_wp2_with fail
  refine (ints.to_any _ xs1 _ (H1.out.below BE9.out) hn1).mono ?_
  rintro e wc10 ⟨us1, rfl, hu, hb⟩
  obtain ⟨s1a, s1n, s1c, rfl⟩ := hu.ints.shape
  clear p0c0 p0c1 p0c2 p0c3 p0c4
  have BE11 := Lib.hid (below_tr BE9.out hb)
  have OWs011 := Lib.hid (OWs0.out.keep hb)
  have KBp011 := Lib.hid (KBp09.out.below hb)
  have ZZ11 : Hid (wc8.heap.size ≤ wc10.heap.size) := Lib.hid (by have := (hb).size; simpa using this)
  clear BE9 OWs0 KBp09
  obtain ⟨p0c0, p0c1, p0c2, p0c3, p0c4⟩ := four_cells KBp011.out
  have OWs1 := Lib.hid (hu.mono (B' := wc8.heap.size) (by simp) (Nat.le_refl _))
  clear hu hb
  go_wp2_with fail
  refine (tas.spec_any x0 y0 wh0 (.slice s0a s0n s0c) xss0 (.slice s1a s1n s1c) xs1 a2 _ OWs011.out.rows OWs1.out.ints hn0).mono ?_
  rintro e wf12 ⟨uW, rfl, hu, hb⟩
  obtain ⟨Wa, Wn, Wc, rfl⟩ := hu.shape
  clear p0c0 p0c1 p0c2 p0c3 p0c4
  have BE13 := Lib.hid (below_tr BE11.out hb)
  have OWs013 := Lib.hid (OWs011.out.keep hb)
  have OWs113 := Lib.hid (OWs1.out.keep hb)
  have KBp013 := Lib.hid (KBp011.out.below hb)
  have ZZ13 : Hid (wc10.heap.size ≤ wf12.heap.size) := Lib.hid (by have := (hb).size; simpa using this)
  clear BE11 OWs011 OWs1 KBp011
  obtain ⟨p0c0, p0c1, p0c2, p0c3, p0c4⟩ := four_cells KBp013.out
  have VWW := Lib.hid hu
  have HBW := Lib.hid (Below.refl wf12.heap.size wf12)
  clear hu hb
  go_wp2_with fail
  have BE14 := Lib.hid (below_al BE13.out (.cells #[.int .i64 ((tat.res x0 y0 wh0 xss0 xs1 a2).wh), .slice Wa Wn Wc] 28))
  have HBW14 := Lib.hid (below_al HBW.out (.cells #[.int .i64 ((tat.res x0 y0 wh0 xss0 xs1 a2).wh), .slice Wa Wn Wc] 28))
  have OWs014 := Lib.hid (OWs013.out.keep (below_al (Below.refl _ _) (.cells #[.int .i64 ((tat.res x0 y0 wh0 xss0 xs1 a2).wh), .slice Wa Wn Wc] 28)))
  have OWs114 := Lib.hid (OWs113.out.keep (below_al (Below.refl _ _) (.cells #[.int .i64 ((tat.res x0 y0 wh0 xss0 xs1 a2).wh), .slice Wa Wn Wc] 28)))
  have KBp014 := Lib.hid (KBp013.out.alloc (.cells #[.int .i64 ((tat.res x0 y0 wh0 xss0 xs1 a2).wh), .slice Wa Wn Wc] 28))
  have KBbW14 := Lib.hid (Blk.new wf12 28 #[.int .i64 ((tat.res x0 y0 wh0 xss0 xs1 a2).wh), .slice Wa Wn Wc])
  clear BE13 HBW OWs013 OWs113 KBp013
  go_wp2_with fail
  refine (box.to_any x0 y0 wh0 _ xss0 _ (H0.out.below BE14.out) hn0).mono ?_
  rintro e wc15 ⟨ux0, rfl, hu, hb⟩
  obtain ⟨x0a, x0n, x0c, rfl⟩ := hu.rows.shape
  clear p0c0 p0c1 p0c2 p0c3 p0c4
  have BE16 := Lib.hid (below_tr BE14.out hb)
  have HBW16 := Lib.hid (below_tr HBW14.out hb)
  have KBp016 := Lib.hid (KBp014.out.below hb)
  have KBbW16 := Lib.hid (KBbW14.out.below hb)
  have ZZ16 : Hid (wf12.heap.size + 1 ≤ wc15.heap.size) := Lib.hid (by have := (hb).size; simpa using this)
  clear BE14 HBW14 KBp014 KBbW14
  obtain ⟨p0c0, p0c1, p0c2, p0c3, p0c4⟩ := four_cells KBp016.out
  obtain ⟨bWc0, bWc1, bWc2⟩ := tri.two_cells KBbW16.out
  have OWx0 := Lib.hid (hu.mono (B' := wf12.heap.size + 1) (by simp) (Nat.le_refl _))
  clear hu hb
  go_wp2_with fail
  have BE17 := Lib.hid (below_al BE16.out (.cells #[.int .i64 x0, .int .i64 y0, .int .i64 wh0, .slice x0a x0n x0c] 31))
  have HBW17 := Lib.hid (below_al HBW16.out (.cells #[.int .i64 x0, .int .i64 y0, .int .i64 wh0, .slice x0a x0n x0c] 31))
  have OWx017 := Lib.hid (OWx0.out.keep (below_al (Below.refl _ _) (.cells #[.int .i64 x0, .int .i64 y0, .int .i64 wh0, .slice x0a x0n x0c] 31)))
  have KBp017 := Lib.hid (KBp016.out.alloc (.cells #[.int .i64 x0, .int .i64 y0, .int .i64 wh0, .slice x0a x0n x0c] 31))
  have KBbW17 := Lib.hid (KBbW16.out.alloc (.cells #[.int .i64 x0, .int .i64 y0, .int .i64 wh0, .slice x0a x0n x0c] 31))
  have KBbx017 := Lib.hid (Blk.new wc15 31 #[.int .i64 x0, .int .i64 y0, .int .i64 wh0, .slice x0a x0n x0c])
  clear BE16 HBW16 OWx0 KBp016 KBbW16
  go_wp2_with fail
  refine (ints.to_any _ xs1 _ (H1.out.below BE17.out) hn1).mono ?_
  rintro e wc18 ⟨ux1, rfl, hu, hb⟩
  obtain ⟨x1a, x1n, x1c, rfl⟩ := hu.ints.shape
  clear p0c0 p0c1 p0c2 p0c3 p0c4 bWc0 bWc1 bWc2
  have BE19 := Lib.hid (below_tr BE17.out hb)
  have HBW19 := Lib.hid (below_tr HBW17.out hb)
  have OWx019 := Lib.hid (OWx017.out.keep hb)
  have KBp019 := Lib.hid (KBp017.out.below hb)
  have KBbW19 := Lib.hid (KBbW17.out.below hb)
  have KBbx019 := Lib.hid (KBbx017.out.below hb)
  have ZZ19 : Hid (wc15.heap.size + 1 ≤ wc18.heap.size) := Lib.hid (by have := (hb).size; simpa using this)
  clear BE17 HBW17 OWx017 KBp017 KBbW17 KBbx017
  obtain ⟨p0c0, p0c1, p0c2, p0c3, p0c4⟩ := four_cells KBp019.out
  obtain ⟨bWc0, bWc1, bWc2⟩ := tri.two_cells KBbW19.out
  obtain ⟨bx0c0, bx0c1, bx0c2, bx0c3, bx0c4⟩ := four_cells KBbx019.out
  have OWx1 := Lib.hid (hu.mono (B' := wc15.heap.size + 1) (by simp) (Nat.le_refl _))
  clear hu hb
  go_wp2_with fail
  refine (tat.impl_any x0 y0 wh0 (.slice x0a x0n x0c) xss0 (.slice x1a x1n x1c) xs1 a2 _ OWx019.out.rows OWx1.out.ints hn0).mono ?_
  rintro e wf20 ⟨uG, rfl, hu, hb⟩
  obtain ⟨Ga, Gn, Gc, rfl⟩ := hu.rows.shape
  clear p0c0 p0c1 p0c2 p0c3 p0c4 bWc0 bWc1 bWc2 bx0c0 bx0c1 bx0c2 bx0c3 bx0c4
  have BE21 := Lib.hid (below_tr BE19.out hb)
  have HBW21 := Lib.hid (below_tr HBW19.out hb)
  have OWx021 := Lib.hid (OWx019.out.keep hb)
  have OWx121 := Lib.hid (OWx1.out.keep hb)
  have KBp021 := Lib.hid (KBp019.out.below hb)
  have KBbW21 := Lib.hid (KBbW19.out.below hb)
  have KBbx021 := Lib.hid (KBbx019.out.below hb)
  have ZZ21 : Hid (wc18.heap.size ≤ wf20.heap.size) := Lib.hid (by have := (hb).size; simpa using this)
  clear BE19 HBW19 OWx019 OWx1 KBp019 KBbW19 KBbx019
  obtain ⟨p0c0, p0c1, p0c2, p0c3, p0c4⟩ := four_cells KBp021.out
  obtain ⟨bWc0, bWc1, bWc2⟩ := tri.two_cells KBbW21.out
  obtain ⟨bx0c0, bx0c1, bx0c2, bx0c3, bx0c4⟩ := four_cells KBbx021.out
  have OWG := Lib.hid (hu.mono (B' := wc18.heap.size) (by simp) (Nat.le_refl _))
  clear hu hb
  go_wp2_with fail
  have BE22 := Lib.hid (below_al BE21.out (.cells #[.int .i64 ((tat.res x0 y0 wh0 xss0 xs1 a2).wh), .slice Ga Gn Gc] 28))
  have HBW22 := Lib.hid (below_al HBW21.out (.cells #[.int .i64 ((tat.res x0 y0 wh0 xss0 xs1 a2).wh), .slice Ga Gn Gc] 28))
  have OWx022 := Lib.hid (OWx021.out.keep (below_al (Below.refl _ _) (.cells #[.int .i64 ((tat.res x0 y0 wh0 xss0 xs1 a2).wh), .slice Ga Gn Gc] 28)))
  have OWx122 := Lib.hid (OWx121.out.keep (below_al (Below.refl _ _) (.cells #[.int .i64 ((tat.res x0 y0 wh0 xss0 xs1 a2).wh), .slice Ga Gn Gc] 28)))
  have OWG22 := Lib.hid (OWG.out.keep (below_al (Below.refl _ _) (.cells #[.int .i64 ((tat.res x0 y0 wh0 xss0 xs1 a2).wh), .slice Ga Gn Gc] 28)))
  have KBp022 := Lib.hid (KBp021.out.alloc (.cells #[.int .i64 ((tat.res x0 y0 wh0 xss0 xs1 a2).wh), .slice Ga Gn Gc] 28))
  have KBbW22 := Lib.hid (KBbW21.out.alloc (.cells #[.int .i64 ((tat.res x0 y0 wh0 xss0 xs1 a2).wh), .slice Ga Gn Gc] 28))
  have KBbx022 := Lib.hid (KBbx021.out.alloc (.cells #[.int .i64 ((tat.res x0 y0 wh0 xss0 xs1 a2).wh), .slice Ga Gn Gc] 28))
  have KBbG22 := Lib.hid (Blk.new wf20 28 #[.int .i64 ((tat.res x0 y0 wh0 xss0 xs1 a2).wh), .slice Ga Gn Gc])
  clear BE21 HBW21 OWx021 OWx121 OWG KBp021 KBbW21 KBbx021
  have tk0 : (((tat.res x0 y0 wh0 xss0 xs1 a2).ok) != ((tat.res x0 y0 wh0 xss0 xs1 a2).ok)) = false := bne_self_eq_false _
  go_wp2_with fail
  refine (tri.eq_same ((tat.res x0 y0 wh0 xss0 xs1 a2).wh) _ _ ((tat.res x0 y0 wh0 xss0 xs1 a2).rows) _ OWG22.out.rows (VWW.out.below HBW22.out) (tat.tot_res x0 y0 wh0 xss0 xs1 a2)).mono ?_
  rintro e we23 ⟨rfl, hb⟩
  clear p0c0 p0c1 p0c2 p0c3 p0c4 bWc0 bWc1 bWc2 bx0c0 bx0c1 bx0c2 bx0c3 bx0c4
  have BE24 := Lib.hid (below_tr BE22.out hb)
  have HBW24 := Lib.hid (below_tr HBW22.out hb)
  have OWx024 := Lib.hid (OWx022.out.keep hb)
  have OWx124 := Lib.hid (OWx122.out.keep hb)
  have OWG24 := Lib.hid (OWG22.out.keep hb)
  have KBp024 := Lib.hid (KBp022.out.below hb)
  have KBbW24 := Lib.hid (KBbW22.out.below hb)
  have KBbx024 := Lib.hid (KBbx022.out.below hb)
  have KBbG24 := Lib.hid (KBbG22.out.below hb)
  have ZZ24 : Hid (wf20.heap.size + 1 ≤ we23.heap.size) := Lib.hid (by have := (hb).size; simpa using this)
  clear BE22 HBW22 OWx022 OWx122 OWG22 KBp022 KBbW22 KBbx022 KBbG22
  obtain ⟨p0c0, p0c1, p0c2, p0c3, p0c4⟩ := four_cells KBp024.out
  obtain ⟨bWc0, bWc1, bWc2⟩ := tri.two_cells KBbW24.out
  obtain ⟨bx0c0, bx0c1, bx0c2, bx0c3, bx0c4⟩ := four_cells KBbx024.out
  obtain ⟨bGc0, bGc1, bGc2⟩ := tri.two_cells KBbG24.out
  clear hb
  go_wp2_with fail
  have HA := Lib.hid (H0.out.below BE24.out)
  have HX := Lib.hid (OWx024.out.rows)
  go_region_held3 (fun w' => w'.cell? ⟨w.heap.size, 0, none⟩ = some (.int .i64 x0) ∧ w'.cell? ⟨w.heap.size, 1, none⟩ = some (.int .i64 y0) ∧ w'.cell? ⟨w.heap.size, 2, none⟩ = some (.int .i64 wh0) ∧ w'.cell? ⟨w.heap.size, 3, none⟩ = some (.slice va0 vn0 vc0) ∧ w'.cell? ⟨wc15.heap.size, 0, none⟩ = some (.int .i64 x0) ∧ w'.cell? ⟨wc15.heap.size, 1, none⟩ = some (.int .i64 y0) ∧ w'.cell? ⟨wc15.heap.size, 2, none⟩ = some (.int .i64 wh0) ∧ w'.cell? ⟨wc15.heap.size, 3, none⟩ = some (.slice x0a x0n x0c) ∧ Below we23.heap.size we23 w')
    ((refine held8 p0c0 p0c1 p0c2 p0c3 bx0c0 bx0c1 bx0c2 bx0c3 ?_; repeat (first | exact Below.refl _ _ | assumption | refine below_dr ?_ | refine below_tr ?_ (by assumption))))
    (first | (go_at_call 7; refine (box.to_any x0 y0 wh0 _ xss0 _ (HA.out.below ?_) hn0).mono ?_; (simp [*]); rintro e wq ⟨uqq0, rfl, huq, hbq⟩) | (go_at_call 11; refine (box.eq_same x0 y0 wh0 _ _ xss0 _ (HX.out.below (below_tr (below_dr (Below.refl _ _)) hbq)) huq.rows hn0).mono ?_; rintro e wd25 ⟨rfl, hbr⟩))
  have hbt := below_tr (below_tr (below_dr (Below.refl _ _)) hbq) hbr
  clear HA HX huq hbq hbr
  clear p0c0 p0c1 p0c2 p0c3 p0c4 bWc0 bWc1 bWc2 bx0c0 bx0c1 bx0c2 bx0c3 bx0c4 bGc0 bGc1 bGc2
  have BE26 := Lib.hid (below_tr BE24.out hbt)
  have HBW26 := Lib.hid (below_tr HBW24.out hbt)
  have OWx026 := Lib.hid (OWx024.out.keep hbt)
  have OWx126 := Lib.hid (OWx124.out.keep hbt)
  have OWG26 := Lib.hid (OWG24.out.keep hbt)
  have KBp026 := Lib.hid (KBp024.out.below hbt)
  have KBbW26 := Lib.hid (KBbW24.out.below hbt)
  have KBbx026 := Lib.hid (KBbx024.out.below hbt)
  have KBbG26 := Lib.hid (KBbG24.out.below hbt)
  have ZZ26 : Hid (we23.heap.size ≤ wd25.heap.size) := Lib.hid (by have := (hbt).size; simpa using this)
  clear BE24 HBW24 OWx024 OWx124 OWG24 KBp024 KBbW24 KBbx024 KBbG24
  obtain ⟨p0c0, p0c1, p0c2, p0c3, p0c4⟩ := four_cells KBp026.out
  obtain ⟨bWc0, bWc1, bWc2⟩ := tri.two_cells KBbW26.out
  obtain ⟨bx0c0, bx0c1, bx0c2, bx0c3, bx0c4⟩ := four_cells KBbx026.out
  obtain ⟨bGc0, bGc1, bGc2⟩ := tri.two_cells KBbG26.out
  clear hbt
  go_wp2_with fail
  go_wp2_with fail
  refine (ints.to_any _ xs1 _ (H1.out.below BE26.out) hn1).mono ?_
  rintro e wc27 ⟨uy1, rfl, hu, hb⟩
  obtain ⟨y1a, y1n, y1c, rfl⟩ := hu.ints.shape
  clear p0c0 p0c1 p0c2 p0c3 p0c4 bWc0 bWc1 bWc2 bx0c0 bx0c1 bx0c2 bx0c3 bx0c4 bGc0 bGc1 bGc2
  have BE28 := Lib.hid (below_tr BE26.out hb)
  have HBW28 := Lib.hid (below_tr HBW26.out hb)
  have OWx028 := Lib.hid (OWx026.out.keep hb)
  have OWx128 := Lib.hid (OWx126.out.keep hb)
  have OWG28 := Lib.hid (OWG26.out.keep hb)
  have KBp028 := Lib.hid (KBp026.out.below hb)
  have KBbW28 := Lib.hid (KBbW26.out.below hb)
  have KBbx028 := Lib.hid (KBbx026.out.below hb)
  have KBbG28 := Lib.hid (KBbG26.out.below hb)
  have ZZ28 : Hid (wd25.heap.size ≤ wc27.heap.size) := Lib.hid (by have := (hb).size; simpa using this)
  clear BE26 HBW26 OWx026 OWx126 OWG26 KBp026 KBbW26 KBbx026 KBbG26
  obtain ⟨p0c0, p0c1, p0c2, p0c3, p0c4⟩ := four_cells KBp028.out
  obtain ⟨bWc0, bWc1, bWc2⟩ := tri.two_cells KBbW28.out
  obtain ⟨bx0c0, bx0c1, bx0c2, bx0c3, bx0c4⟩ := four_cells KBbx028.out
  obtain ⟨bGc0, bGc1, bGc2⟩ := tri.two_cells KBbG28.out
  have OWy1 := Lib.hid (hu.mono (B' := wd25.heap.size) (by simp) (Nat.le_refl _))
  clear hu hb
  go_wp2_with fail
  refine (ints.eq_same _ _ xs1 _ OWx128.out.ints OWy1.out.ints hn1).mono ?_
  rintro e we29 ⟨rfl, hb⟩
  clear p0c0 p0c1 p0c2 p0c3 p0c4 bWc0 bWc1 bWc2 bx0c0 bx0c1 bx0c2 bx0c3 bx0c4 bGc0 bGc1 bGc2
  have BE30 := Lib.hid (below_tr BE28.out hb)
  have HBW30 := Lib.hid (below_tr HBW28.out hb)
  have OWx030 := Lib.hid (OWx028.out.keep hb)
  have OWx130 := Lib.hid (OWx128.out.keep hb)
  have OWG30 := Lib.hid (OWG28.out.keep hb)
  have OWy130 := Lib.hid (OWy1.out.keep hb)
  have KBp030 := Lib.hid (KBp028.out.below hb)
  have KBbW30 := Lib.hid (KBbW28.out.below hb)
  have KBbx030 := Lib.hid (KBbx028.out.below hb)
  have KBbG30 := Lib.hid (KBbG28.out.below hb)
  have ZZ30 : Hid (wc27.heap.size ≤ we29.heap.size) := Lib.hid (by have := (hb).size; simpa using this)
  clear BE28 HBW28 OWx028 OWx128 OWG28 OWy1 KBp028 KBbW28 KBbx028 KBbG28
  obtain ⟨p0c0, p0c1, p0c2, p0c3, p0c4⟩ := four_cells KBp030.out
  obtain ⟨bWc0, bWc1, bWc2⟩ := tri.two_cells KBbW30.out
  obtain ⟨bx0c0, bx0c1, bx0c2, bx0c3, bx0c4⟩ := four_cells KBbx030.out
  obtain ⟨bGc0, bGc1, bGc2⟩ := tri.two_cells KBbG30.out
  clear hb
  clear OWy130
  have bl0 := rws.before_le xss0 xss0.length
  go_wp2_with fail
  refine (box.mark_any x0 y0 wh0 _ xss0 (1) (wf12.heap.size + 1) (wc15.heap.size) _ OWx030.out hn0 (by omega) (by omega)).mono ?_
  rintro e wm31 ⟨rfl, hi, S, wl32, hb, hw, hs⟩
  clear OWx030
  clear p0c0 p0c1 p0c2 p0c3 p0c4 bWc0 bWc1 bWc2 bx0c0 bx0c1 bx0c2 bx0c3 bx0c4 bGc0 bGc1 bGc2
  have BE33 := Lib.hid (below_tr BE30.out hb)
  have HBW33 := Lib.hid (below_tr HBW30.out hb)
  have OWx133 := Lib.hid (OWx130.out.keep hb)
  have OWG33 := Lib.hid (OWG30.out.keep hb)
  have KBp033 := Lib.hid (KBp030.out.below hb)
  have KBbW33 := Lib.hid (KBbW30.out.below hb)
  have KBbx033 := Lib.hid (KBbx030.out.below hb)
  have KBbG33 := Lib.hid (KBbG30.out.below hb)
  have ZZ33 : Hid (we29.heap.size ≤ wl32.heap.size) := Lib.hid (by have := (hb).size; simpa using this)
  clear BE30 HBW30 OWx130 OWG30 KBp030 KBbW30 KBbx030 KBbG30
  obtain ⟨p0c0, p0c1, p0c2, p0c3, p0c4⟩ := four_cells KBp033.out
  obtain ⟨bWc0, bWc1, bWc2⟩ := tri.two_cells KBbW33.out
  obtain ⟨bx0c0, bx0c1, bx0c2, bx0c3, bx0c4⟩ := four_cells KBbx033.out
  obtain ⟨bGc0, bGc1, bGc2⟩ := tri.two_cells KBbG33.out
  clear p0c0 p0c1 p0c2 p0c3 p0c4 bWc0 bWc1 bWc2 bx0c0 bx0c1 bx0c2 bx0c3 bx0c4 bGc0 bGc1 bGc2
  have BE34 := Lib.hid (BE33.out.trans (hw.below (fun p hp => by have := (hs p hp).1; have := ZZ7.out; have := ZZ9.out; have := ZZ11.out; have := ZZ13.out; have := ZZ16.out; have := ZZ19.out; have := ZZ21.out; have := ZZ24.out; have := ZZ26.out; have := ZZ28.out; have := ZZ30.out; have := ZZ33.out; omega)))
  have HBW34 := Lib.hid (HBW33.out.trans (hw.below (fun p hp => by have := (hs p hp).1; have := ZZ7.out; have := ZZ9.out; have := ZZ11.out; have := ZZ13.out; have := ZZ16.out; have := ZZ19.out; have := ZZ21.out; have := ZZ24.out; have := ZZ26.out; have := ZZ28.out; have := ZZ30.out; have := ZZ33.out; omega)))
  have OWx134 := Lib.hid (OWx133.out.wrote hw (fun p hp => by have := hs p hp; have := ZZ7.out; have := ZZ9.out; have := ZZ11.out; have := ZZ13.out; have := ZZ16.out; have := ZZ19.out; have := ZZ21.out; have := ZZ24.out; have := ZZ26.out; have := ZZ28.out; have := ZZ30.out; have := ZZ33.out; omega))
  have OWG34 := Lib.hid (OWG33.out.wrote hw (fun p hp => by have := hs p hp; have := ZZ7.out; have := ZZ9.out; have := ZZ11.out; have := ZZ13.out; have := ZZ16.out; have := ZZ19.out; have := ZZ21.out; have := ZZ24.out; have := ZZ26.out; have := ZZ28.out; have := ZZ30.out; have := ZZ33.out; omega))
  have KBp034 := Lib.hid (KBp033.out.wrote hw (fun p hp e => by have := hs p hp; have := ZZ7.out; have := ZZ9.out; have := ZZ11.out; have := ZZ13.out; have := ZZ16.out; have := ZZ19.out; have := ZZ21.out; have := ZZ24.out; have := ZZ26.out; have := ZZ28.out; have := ZZ30.out; have := ZZ33.out; omega))
  have KBbW34 := Lib.hid (KBbW33.out.wrote hw (fun p hp e => by have := hs p hp; have := ZZ7.out; have := ZZ9.out; have := ZZ11.out; have := ZZ13.out; have := ZZ16.out; have := ZZ19.out; have := ZZ21.out; have := ZZ24.out; have := ZZ26.out; have := ZZ28.out; have := ZZ30.out; have := ZZ33.out; omega))
  have KBbx034 := Lib.hid (KBbx033.out.wrote hw (fun p hp e => by have := hs p hp; have := ZZ7.out; have := ZZ9.out; have := ZZ11.out; have := ZZ13.out; have := ZZ16.out; have := ZZ19.out; have := ZZ21.out; have := ZZ24.out; have := ZZ26.out; have := ZZ28.out; have := ZZ30.out; have := ZZ33.out; omega))
  have KBbG34 := Lib.hid (KBbG33.out.wrote hw (fun p hp e => by have := hs p hp; have := ZZ7.out; have := ZZ9.out; have := ZZ11.out; have := ZZ13.out; have := ZZ16.out; have := ZZ19.out; have := ZZ21.out; have := ZZ24.out; have := ZZ26.out; have := ZZ28.out; have := ZZ30.out; have := ZZ33.out; omega))
  have ZZ34 : Hid (wl32.heap.size ≤ wm31.heap.size) := Lib.hid (by have := hw.size; omega)
  clear BE33 HBW33 OWx133 OWG33 KBp033 KBbW33 KBbx033 KBbG33
  obtain ⟨p0c0, p0c1, p0c2, p0c3, p0c4⟩ := four_cells KBp034.out
  obtain ⟨bWc0, bWc1, bWc2⟩ := tri.two_cells KBbW34.out
  obtain ⟨bx0c0, bx0c1, bx0c2, bx0c3, bx0c4⟩ := four_cells KBbx034.out
  obtain ⟨bGc0, bGc1, bGc2⟩ := tri.two_cells KBbG34.out
  clear hb
  clear hw hs
  clear hi
  go_wp2_with fail
  refine (ints.mark_own _ xs1 (1 + (rws.before xss0 xss0.length : Int)) (wc15.heap.size + 1) (wc18.heap.size) _ OWx134.out hn1 (by omega) (by omega)).mono ?_
  rintro e wm35 ⟨rfl, hi, S, hw, hs⟩
  clear OWx134
  clear p0c0 p0c1 p0c2 p0c3 p0c4 bWc0 bWc1 bWc2 bx0c0 bx0c1 bx0c2 bx0c3 bx0c4 bGc0 bGc1 bGc2
  have BE37 := Lib.hid (BE34.out.trans (hw.below (fun p hp => by have := (hs p hp).1; have := ZZ7.out; have := ZZ9.out; have := ZZ11.out; have := ZZ13.out; have := ZZ16.out; have := ZZ19.out; have := ZZ21.out; have := ZZ24.out; have := ZZ26.out; have := ZZ28.out; have := ZZ30.out; have := ZZ33.out; have := ZZ34.out; omega)))
  have HBW37 := Lib.hid (HBW34.out.trans (hw.below (fun p hp => by have := (hs p hp).1; have := ZZ7.out; have := ZZ9.out; have := ZZ11.out; have := ZZ13.out; have := ZZ16.out; have := ZZ19.out; have := ZZ21.out; have := ZZ24.out; have := ZZ26.out; have := ZZ28.out; have := ZZ30.out; have := ZZ33.out; have := ZZ34.out; omega)))
  have OWG37 := Lib.hid (OWG34.out.wrote hw (fun p hp => by have := hs p hp; have := ZZ7.out; have := ZZ9.out; have := ZZ11.out; have := ZZ13.out; have := ZZ16.out; have := ZZ19.out; have := ZZ21.out; have := ZZ24.out; have := ZZ26.out; have := ZZ28.out; have := ZZ30.out; have := ZZ33.out; have := ZZ34.out; omega))
  have KBp037 := Lib.hid (KBp034.out.wrote hw (fun p hp e => by have := hs p hp; have := ZZ7.out; have := ZZ9.out; have := ZZ11.out; have := ZZ13.out; have := ZZ16.out; have := ZZ19.out; have := ZZ21.out; have := ZZ24.out; have := ZZ26.out; have := ZZ28.out; have := ZZ30.out; have := ZZ33.out; have := ZZ34.out; omega))
  have KBbW37 := Lib.hid (KBbW34.out.wrote hw (fun p hp e => by have := hs p hp; have := ZZ7.out; have := ZZ9.out; have := ZZ11.out; have := ZZ13.out; have := ZZ16.out; have := ZZ19.out; have := ZZ21.out; have := ZZ24.out; have := ZZ26.out; have := ZZ28.out; have := ZZ30.out; have := ZZ33.out; have := ZZ34.out; omega))
  have KBbx037 := Lib.hid (KBbx034.out.wrote hw (fun p hp e => by have := hs p hp; have := ZZ7.out; have := ZZ9.out; have := ZZ11.out; have := ZZ13.out; have := ZZ16.out; have := ZZ19.out; have := ZZ21.out; have := ZZ24.out; have := ZZ26.out; have := ZZ28.out; have := ZZ30.out; have := ZZ33.out; have := ZZ34.out; omega))
  have KBbG37 := Lib.hid (KBbG34.out.wrote hw (fun p hp e => by have := hs p hp; have := ZZ7.out; have := ZZ9.out; have := ZZ11.out; have := ZZ13.out; have := ZZ16.out; have := ZZ19.out; have := ZZ21.out; have := ZZ24.out; have := ZZ26.out; have := ZZ28.out; have := ZZ30.out; have := ZZ33.out; have := ZZ34.out; omega))
  have ZZ37 : Hid (wm31.heap.size ≤ wm35.heap.size) := Lib.hid (by have := hw.size; omega)
  clear BE34 HBW34 OWG34 KBp034 KBbW34 KBbx034 KBbG34
  obtain ⟨p0c0, p0c1, p0c2, p0c3, p0c4⟩ := four_cells KBp037.out
  obtain ⟨bWc0, bWc1, bWc2⟩ := tri.two_cells KBbW37.out
  obtain ⟨bx0c0, bx0c1, bx0c2, bx0c3, bx0c4⟩ := four_cells KBbx037.out
  obtain ⟨bGc0, bGc1, bGc2⟩ := tri.two_cells KBbG37.out
  clear hw hs
  clear hi
  have dk : decide (1 + (rws.before xss0 xss0.length : Int) + (xs1.length : Int) < 0) = false := by simp; omega
  have dk' : ¬ (1 + (rws.before xss0 xss0.length : Int) + (xs1.length : Int) < 0) := by omega
  go_wp2_with fail
  refine (tri.eq_same ((tat.res x0 y0 wh0 xss0 xs1 a2).wh) _ _ ((tat.res x0 y0 wh0 xss0 xs1 a2).rows) _ OWG37.out.rows (VWW.out.below HBW37.out) (tat.tot_res x0 y0 wh0 xss0 xs1 a2)).mono ?_
  rintro e we38 ⟨rfl, hb⟩
  clear p0c0 p0c1 p0c2 p0c3 p0c4 bWc0 bWc1 bWc2 bx0c0 bx0c1 bx0c2 bx0c3 bx0c4 bGc0 bGc1 bGc2
  have BE39 := Lib.hid (below_tr BE37.out hb)
  have HBW39 := Lib.hid (below_tr HBW37.out hb)
  have OWG39 := Lib.hid (OWG37.out.keep hb)
  have KBp039 := Lib.hid (KBp037.out.below hb)
  have KBbW39 := Lib.hid (KBbW37.out.below hb)
  have KBbx039 := Lib.hid (KBbx037.out.below hb)
  have KBbG39 := Lib.hid (KBbG37.out.below hb)
  have ZZ39 : Hid (wm35.heap.size ≤ we38.heap.size) := Lib.hid (by have := (hb).size; simpa using this)
  clear BE37 HBW37 OWG37 KBp037 KBbW37 KBbx037 KBbG37
  obtain ⟨p0c0, p0c1, p0c2, p0c3, p0c4⟩ := four_cells KBp039.out
  obtain ⟨bWc0, bWc1, bWc2⟩ := tri.two_cells KBbW39.out
  obtain ⟨bx0c0, bx0c1, bx0c2, bx0c3, bx0c4⟩ := four_cells KBbx039.out
  obtain ⟨bGc0, bGc1, bGc2⟩ := tri.two_cells KBbG39.out
  clear hb
  have blr := Nat.le_trans (rws.before_le ((tat.res x0 y0 wh0 xss0 xs1 a2).rows) ((tat.res x0 y0 wh0 xss0 xs1 a2).rows).length) (tat.tot_res x0 y0 wh0 xss0 xs1 a2)
  have dq : ¬ (1 + (rws.before ((tat.res x0 y0 wh0 xss0 xs1 a2).rows) ((tat.res x0 y0 wh0 xss0 xs1 a2).rows).length : Int) < 0) := by omega
  have tq : ((1 + (rws.before ((tat.res x0 y0 wh0 xss0 xs1 a2).rows) ((tat.res x0 y0 wh0 xss0 xs1 a2).rows).length : Int)) != (1 + (rws.before ((tat.res x0 y0 wh0 xss0 xs1 a2).rows) ((tat.res x0 y0 wh0 xss0 xs1 a2).rows).length : Int))) = false := bne_self_eq_false _
  go_wp2_with fail
  refine (tri.mark_any ((tat.res x0 y0 wh0 xss0 xs1 a2).wh) _ ((tat.res x0 y0 wh0 xss0 xs1 a2).rows) (1) (wc18.heap.size) (wf20.heap.size) _ OWG39.out (tat.tot_res x0 y0 wh0 xss0 xs1 a2) (by omega) (by omega)).mono ?_
  rintro e wm40 ⟨rfl, hi, S, wl41, hb, hw, hs⟩
  clear OWG39
  clear p0c0 p0c1 p0c2 p0c3 p0c4 bWc0 bWc1 bWc2 bx0c0 bx0c1 bx0c2 bx0c3 bx0c4 bGc0 bGc1 bGc2
  have BE42 := Lib.hid (below_tr BE39.out hb)
  have HBW42 := Lib.hid (below_tr HBW39.out hb)
  have KBp042 := Lib.hid (KBp039.out.below hb)
  have KBbW42 := Lib.hid (KBbW39.out.below hb)
  have KBbx042 := Lib.hid (KBbx039.out.below hb)
  have KBbG42 := Lib.hid (KBbG39.out.below hb)
  have ZZ42 : Hid (we38.heap.size ≤ wl41.heap.size) := Lib.hid (by have := (hb).size; simpa using this)
  clear BE39 HBW39 KBp039 KBbW39 KBbx039 KBbG39
  obtain ⟨p0c0, p0c1, p0c2, p0c3, p0c4⟩ := four_cells KBp042.out
  obtain ⟨bWc0, bWc1, bWc2⟩ := tri.two_cells KBbW42.out
  obtain ⟨bx0c0, bx0c1, bx0c2, bx0c3, bx0c4⟩ := four_cells KBbx042.out
  obtain ⟨bGc0, bGc1, bGc2⟩ := tri.two_cells KBbG42.out
  clear p0c0 p0c1 p0c2 p0c3 p0c4 bWc0 bWc1 bWc2 bx0c0 bx0c1 bx0c2 bx0c3 bx0c4 bGc0 bGc1 bGc2
  have BE43 := Lib.hid (BE42.out.trans (hw.below (fun p hp => by have := (hs p hp).1; have := ZZ7.out; have := ZZ9.out; have := ZZ11.out; have := ZZ13.out; have := ZZ16.out; have := ZZ19.out; have := ZZ21.out; have := ZZ24.out; have := ZZ26.out; have := ZZ28.out; have := ZZ30.out; have := ZZ33.out; have := ZZ34.out; have := ZZ37.out; have := ZZ39.out; have := ZZ42.out; omega)))
  have HBW43 := Lib.hid (HBW42.out.trans (hw.below (fun p hp => by have := (hs p hp).1; have := ZZ7.out; have := ZZ9.out; have := ZZ11.out; have := ZZ13.out; have := ZZ16.out; have := ZZ19.out; have := ZZ21.out; have := ZZ24.out; have := ZZ26.out; have := ZZ28.out; have := ZZ30.out; have := ZZ33.out; have := ZZ34.out; have := ZZ37.out; have := ZZ39.out; have := ZZ42.out; omega)))
  have KBp043 := Lib.hid (KBp042.out.wrote hw (fun p hp e => by have := hs p hp; have := ZZ7.out; have := ZZ9.out; have := ZZ11.out; have := ZZ13.out; have := ZZ16.out; have := ZZ19.out; have := ZZ21.out; have := ZZ24.out; have := ZZ26.out; have := ZZ28.out; have := ZZ30.out; have := ZZ33.out; have := ZZ34.out; have := ZZ37.out; have := ZZ39.out; have := ZZ42.out; omega))
  have KBbW43 := Lib.hid (KBbW42.out.wrote hw (fun p hp e => by have := hs p hp; have := ZZ7.out; have := ZZ9.out; have := ZZ11.out; have := ZZ13.out; have := ZZ16.out; have := ZZ19.out; have := ZZ21.out; have := ZZ24.out; have := ZZ26.out; have := ZZ28.out; have := ZZ30.out; have := ZZ33.out; have := ZZ34.out; have := ZZ37.out; have := ZZ39.out; have := ZZ42.out; omega))
  have KBbx043 := Lib.hid (KBbx042.out.wrote hw (fun p hp e => by have := hs p hp; have := ZZ7.out; have := ZZ9.out; have := ZZ11.out; have := ZZ13.out; have := ZZ16.out; have := ZZ19.out; have := ZZ21.out; have := ZZ24.out; have := ZZ26.out; have := ZZ28.out; have := ZZ30.out; have := ZZ33.out; have := ZZ34.out; have := ZZ37.out; have := ZZ39.out; have := ZZ42.out; omega))
  have KBbG43 := Lib.hid (KBbG42.out.wrote hw (fun p hp e => by have := hs p hp; have := ZZ7.out; have := ZZ9.out; have := ZZ11.out; have := ZZ13.out; have := ZZ16.out; have := ZZ19.out; have := ZZ21.out; have := ZZ24.out; have := ZZ26.out; have := ZZ28.out; have := ZZ30.out; have := ZZ33.out; have := ZZ34.out; have := ZZ37.out; have := ZZ39.out; have := ZZ42.out; omega))
  have ZZ43 : Hid (wl41.heap.size ≤ wm40.heap.size) := Lib.hid (by have := hw.size; omega)
  clear BE42 HBW42 KBp042 KBbW42 KBbx042 KBbG42
  obtain ⟨p0c0, p0c1, p0c2, p0c3, p0c4⟩ := four_cells KBp043.out
  obtain ⟨bWc0, bWc1, bWc2⟩ := tri.two_cells KBbW43.out
  obtain ⟨bx0c0, bx0c1, bx0c2, bx0c3, bx0c4⟩ := four_cells KBbx043.out
  obtain ⟨bGc0, bGc1, bGc2⟩ := tri.two_cells KBbG43.out
  clear hb
  clear hw hs
  have VWM := Lib.hid hi
  have HBM := Lib.hid (Below.refl wm40.heap.size wm40)
  clear hi
  go_wp2_with fail
  refine (tri.held_any ((tat.res x0 y0 wh0 xss0 xs1 a2).wh) _ ((tat.res x0 y0 wh0 xss0 xs1 a2).rows) 1 _ (VWM.out.below HBM.out) (tat.tot_res x0 y0 wh0 xss0 xs1 a2) (by omega) (by omega)).mono ?_
  rintro e wh44 ⟨rfl, hb⟩
  clear p0c0 p0c1 p0c2 p0c3 p0c4 bWc0 bWc1 bWc2 bx0c0 bx0c1 bx0c2 bx0c3 bx0c4 bGc0 bGc1 bGc2
  have BE45 := Lib.hid (below_tr BE43.out hb)
  have HBW45 := Lib.hid (below_tr HBW43.out hb)
  have HBM45 := Lib.hid (below_tr HBM.out hb)
  have KBp045 := Lib.hid (KBp043.out.below hb)
  have KBbW45 := Lib.hid (KBbW43.out.below hb)
  have KBbx045 := Lib.hid (KBbx043.out.below hb)
  have KBbG45 := Lib.hid (KBbG43.out.below hb)
  have ZZ45 : Hid (wm40.heap.size ≤ wh44.heap.size) := Lib.hid (by have := (hb).size; simpa using this)
  clear BE43 HBW43 HBM KBp043 KBbW43 KBbx043 KBbG43
  obtain ⟨p0c0, p0c1, p0c2, p0c3, p0c4⟩ := four_cells KBp045.out
  obtain ⟨bWc0, bWc1, bWc2⟩ := tri.two_cells KBbW45.out
  obtain ⟨bx0c0, bx0c1, bx0c2, bx0c3, bx0c4⟩ := four_cells KBbx045.out
  obtain ⟨bGc0, bGc1, bGc2⟩ := tri.two_cells KBbG45.out
  clear hb
  go_wp2_with fail
  refine (box.to_any x0 y0 wh0 _ xss0 _ (H0.out.below BE45.out) hn0).mono ?_
  rintro e wc46 ⟨uz0, rfl, hu, hb⟩
  obtain ⟨z0a, z0n, z0c, rfl⟩ := hu.rows.shape
  clear p0c0 p0c1 p0c2 p0c3 p0c4 bWc0 bWc1 bWc2 bx0c0 bx0c1 bx0c2 bx0c3 bx0c4 bGc0 bGc1 bGc2
  have BE47 := Lib.hid (below_tr BE45.out hb)
  have HBW47 := Lib.hid (below_tr HBW45.out hb)
  have HBM47 := Lib.hid (below_tr HBM45.out hb)
  have KBp047 := Lib.hid (KBp045.out.below hb)
  have KBbW47 := Lib.hid (KBbW45.out.below hb)
  have KBbx047 := Lib.hid (KBbx045.out.below hb)
  have KBbG47 := Lib.hid (KBbG45.out.below hb)
  have ZZ47 : Hid (wh44.heap.size ≤ wc46.heap.size) := Lib.hid (by have := (hb).size; simpa using this)
  clear BE45 HBW45 HBM45 KBp045 KBbW45 KBbx045 KBbG45
  obtain ⟨p0c0, p0c1, p0c2, p0c3, p0c4⟩ := four_cells KBp047.out
  obtain ⟨bWc0, bWc1, bWc2⟩ := tri.two_cells KBbW47.out
  obtain ⟨bx0c0, bx0c1, bx0c2, bx0c3, bx0c4⟩ := four_cells KBbx047.out
  obtain ⟨bGc0, bGc1, bGc2⟩ := tri.two_cells KBbG47.out
  have OWz0 := Lib.hid (hu.mono (B' := wh44.heap.size) (by simp) (Nat.le_refl _))
  clear hu hb
  go_wp2_with fail
  refine (ints.to_any _ xs1 _ (H1.out.below BE47.out) hn1).mono ?_
  rintro e wc48 ⟨uz1, rfl, hu, hb⟩
  obtain ⟨z1a, z1n, z1c, rfl⟩ := hu.ints.shape
  clear p0c0 p0c1 p0c2 p0c3 p0c4 bWc0 bWc1 bWc2 bx0c0 bx0c1 bx0c2 bx0c3 bx0c4 bGc0 bGc1 bGc2
  have BE49 := Lib.hid (below_tr BE47.out hb)
  have HBW49 := Lib.hid (below_tr HBW47.out hb)
  have HBM49 := Lib.hid (below_tr HBM47.out hb)
  have OWz049 := Lib.hid (OWz0.out.keep hb)
  have KBp049 := Lib.hid (KBp047.out.below hb)
  have KBbW49 := Lib.hid (KBbW47.out.below hb)
  have KBbx049 := Lib.hid (KBbx047.out.below hb)
  have KBbG49 := Lib.hid (KBbG47.out.below hb)
  have ZZ49 : Hid (wc46.heap.size ≤ wc48.heap.size) := Lib.hid (by have := (hb).size; simpa using this)
  clear BE47 HBW47 HBM47 OWz0 KBp047 KBbW47 KBbx047 KBbG47
  obtain ⟨p0c0, p0c1, p0c2, p0c3, p0c4⟩ := four_cells KBp049.out
  obtain ⟨bWc0, bWc1, bWc2⟩ := tri.two_cells KBbW49.out
  obtain ⟨bx0c0, bx0c1, bx0c2, bx0c3, bx0c4⟩ := four_cells KBbx049.out
  obtain ⟨bGc0, bGc1, bGc2⟩ := tri.two_cells KBbG49.out
  have OWz1 := Lib.hid (hu.mono (B' := wc46.heap.size) (by simp) (Nat.le_refl _))
  clear hu hb
  go_wp2_with fail
  refine (tat.impl_any x0 y0 wh0 (.slice z0a z0n z0c) xss0 (.slice z1a z1n z1c) xs1 a2 _ OWz049.out.rows OWz1.out.ints hn0).mono ?_
  rintro e wf50 ⟨uHh, rfl, hu, hb⟩
  obtain ⟨Hha, Hhn, Hhc, rfl⟩ := hu.rows.shape
  clear p0c0 p0c1 p0c2 p0c3 p0c4 bWc0 bWc1 bWc2 bx0c0 bx0c1 bx0c2 bx0c3 bx0c4 bGc0 bGc1 bGc2
  have BE51 := Lib.hid (below_tr BE49.out hb)
  have HBW51 := Lib.hid (below_tr HBW49.out hb)
  have HBM51 := Lib.hid (below_tr HBM49.out hb)
  have OWz051 := Lib.hid (OWz049.out.keep hb)
  have OWz151 := Lib.hid (OWz1.out.keep hb)
  have KBp051 := Lib.hid (KBp049.out.below hb)
  have KBbW51 := Lib.hid (KBbW49.out.below hb)
  have KBbx051 := Lib.hid (KBbx049.out.below hb)
  have KBbG51 := Lib.hid (KBbG49.out.below hb)
  have ZZ51 : Hid (wc48.heap.size ≤ wf50.heap.size) := Lib.hid (by have := (hb).size; simpa using this)
  clear BE49 HBW49 HBM49 OWz049 OWz1 KBp049 KBbW49 KBbx049 KBbG49
  obtain ⟨p0c0, p0c1, p0c2, p0c3, p0c4⟩ := four_cells KBp051.out
  obtain ⟨bWc0, bWc1, bWc2⟩ := tri.two_cells KBbW51.out
  obtain ⟨bx0c0, bx0c1, bx0c2, bx0c3, bx0c4⟩ := four_cells KBbx051.out
  obtain ⟨bGc0, bGc1, bGc2⟩ := tri.two_cells KBbG51.out
  have OWHh := Lib.hid (hu.mono (B' := wc48.heap.size) (by simp) (Nat.le_refl _))
  clear hu hb
  go_wp2_with fail
  have BE52 := Lib.hid (below_al BE51.out (.cells #[.int .i64 ((tat.res x0 y0 wh0 xss0 xs1 a2).wh), .slice Hha Hhn Hhc] 28))
  have HBW52 := Lib.hid (below_al HBW51.out (.cells #[.int .i64 ((tat.res x0 y0 wh0 xss0 xs1 a2).wh), .slice Hha Hhn Hhc] 28))
  have HBM52 := Lib.hid (below_al HBM51.out (.cells #[.int .i64 ((tat.res x0 y0 wh0 xss0 xs1 a2).wh), .slice Hha Hhn Hhc] 28))
  have OWz052 := Lib.hid (OWz051.out.keep (below_al (Below.refl _ _) (.cells #[.int .i64 ((tat.res x0 y0 wh0 xss0 xs1 a2).wh), .slice Hha Hhn Hhc] 28)))
  have OWz152 := Lib.hid (OWz151.out.keep (below_al (Below.refl _ _) (.cells #[.int .i64 ((tat.res x0 y0 wh0 xss0 xs1 a2).wh), .slice Hha Hhn Hhc] 28)))
  have OWHh52 := Lib.hid (OWHh.out.keep (below_al (Below.refl _ _) (.cells #[.int .i64 ((tat.res x0 y0 wh0 xss0 xs1 a2).wh), .slice Hha Hhn Hhc] 28)))
  have KBp052 := Lib.hid (KBp051.out.alloc (.cells #[.int .i64 ((tat.res x0 y0 wh0 xss0 xs1 a2).wh), .slice Hha Hhn Hhc] 28))
  have KBbW52 := Lib.hid (KBbW51.out.alloc (.cells #[.int .i64 ((tat.res x0 y0 wh0 xss0 xs1 a2).wh), .slice Hha Hhn Hhc] 28))
  have KBbx052 := Lib.hid (KBbx051.out.alloc (.cells #[.int .i64 ((tat.res x0 y0 wh0 xss0 xs1 a2).wh), .slice Hha Hhn Hhc] 28))
  have KBbG52 := Lib.hid (KBbG51.out.alloc (.cells #[.int .i64 ((tat.res x0 y0 wh0 xss0 xs1 a2).wh), .slice Hha Hhn Hhc] 28))
  have KBbHh52 := Lib.hid (Blk.new wf50 28 #[.int .i64 ((tat.res x0 y0 wh0 xss0 xs1 a2).wh), .slice Hha Hhn Hhc])
  clear BE51 HBW51 HBM51 OWz051 OWz151 OWHh KBp051 KBbW51 KBbx051 KBbG51
  clear OWz052
  clear OWz152
  go_wp2_with fail
  refine (tri.eq_same ((tat.res x0 y0 wh0 xss0 xs1 a2).wh) _ _ ((tat.res x0 y0 wh0 xss0 xs1 a2).rows) _ OWHh52.out.rows (VWW.out.below HBW52.out) (tat.tot_res x0 y0 wh0 xss0 xs1 a2)).mono ?_
  rintro e we53 ⟨rfl, hb⟩
  clear p0c0 p0c1 p0c2 p0c3 p0c4 bWc0 bWc1 bWc2 bx0c0 bx0c1 bx0c2 bx0c3 bx0c4 bGc0 bGc1 bGc2
  have BE54 := Lib.hid (below_tr BE52.out hb)
  have HBW54 := Lib.hid (below_tr HBW52.out hb)
  have HBM54 := Lib.hid (below_tr HBM52.out hb)
  have OWHh54 := Lib.hid (OWHh52.out.keep hb)
  have KBp054 := Lib.hid (KBp052.out.below hb)
  have KBbW54 := Lib.hid (KBbW52.out.below hb)
  have KBbx054 := Lib.hid (KBbx052.out.below hb)
  have KBbG54 := Lib.hid (KBbG52.out.below hb)
  have KBbHh54 := Lib.hid (KBbHh52.out.below hb)
  have ZZ54 : Hid (wf50.heap.size + 1 ≤ we53.heap.size) := Lib.hid (by have := (hb).size; simpa using this)
  clear BE52 HBW52 HBM52 OWHh52 KBp052 KBbW52 KBbx052 KBbG52 KBbHh52
  obtain ⟨p0c0, p0c1, p0c2, p0c3, p0c4⟩ := four_cells KBp054.out
  obtain ⟨bWc0, bWc1, bWc2⟩ := tri.two_cells KBbW54.out
  obtain ⟨bx0c0, bx0c1, bx0c2, bx0c3, bx0c4⟩ := four_cells KBbx054.out
  obtain ⟨bGc0, bGc1, bGc2⟩ := tri.two_cells KBbG54.out
  obtain ⟨bHhc0, bHhc1, bHhc2⟩ := tri.two_cells KBbHh54.out
  clear hb
  go_wp2_with fail
  refine (tri.held_any ((tat.res x0 y0 wh0 xss0 xs1 a2).wh) _ ((tat.res x0 y0 wh0 xss0 xs1 a2).rows) 1 _ (VWM.out.below HBM54.out) (tat.tot_res x0 y0 wh0 xss0 xs1 a2) (by omega) (by omega)).mono ?_
  rintro e wh55 ⟨rfl, hb⟩
  clear p0c0 p0c1 p0c2 p0c3 p0c4 bWc0 bWc1 bWc2 bx0c0 bx0c1 bx0c2 bx0c3 bx0c4 bGc0 bGc1 bGc2 bHhc0 bHhc1 bHhc2
  have BE56 := Lib.hid (below_tr BE54.out hb)
  have HBW56 := Lib.hid (below_tr HBW54.out hb)
  have HBM56 := Lib.hid (below_tr HBM54.out hb)
  have OWHh56 := Lib.hid (OWHh54.out.keep hb)
  have KBp056 := Lib.hid (KBp054.out.below hb)
  have KBbW56 := Lib.hid (KBbW54.out.below hb)
  have KBbx056 := Lib.hid (KBbx054.out.below hb)
  have KBbG56 := Lib.hid (KBbG54.out.below hb)
  have KBbHh56 := Lib.hid (KBbHh54.out.below hb)
  have ZZ56 : Hid (we53.heap.size ≤ wh55.heap.size) := Lib.hid (by have := (hb).size; simpa using this)
  clear BE54 HBW54 HBM54 OWHh54 KBp054 KBbW54 KBbx054 KBbG54 KBbHh54
  obtain ⟨p0c0, p0c1, p0c2, p0c3, p0c4⟩ := four_cells KBp056.out
  obtain ⟨bWc0, bWc1, bWc2⟩ := tri.two_cells KBbW56.out
  obtain ⟨bx0c0, bx0c1, bx0c2, bx0c3, bx0c4⟩ := four_cells KBbx056.out
  obtain ⟨bGc0, bGc1, bGc2⟩ := tri.two_cells KBbG56.out
  obtain ⟨bHhc0, bHhc1, bHhc2⟩ := tri.two_cells KBbHh56.out
  clear hb
  go_wp2_with fail
  go_ret
  exact ⟨rfl, BE56.out⟩

/-! ### the frame of the row -/
theorem own : ownKnob Try.prog.godebug = none := by kernel_rfl
theorem laidOut : laidOutB Try.prog = true := by kernel_rfl
set_option maxRecDepth 100000 in
theorem lifted (os : Os) (started : os.Started) (H : Type) (enc : TypeId × Value → H) :
    ReturnsInHanded {} Try.checked os 3 .any (Rows.fnExactAddThirdSpec.pre6 enc Try.prog Try.f3 Rows.fnExactAddThirdRow.domain false) (Rows.fnExactAddThirdSpec.post enc Try.prog Try.f3 false true false false) := by
  refine returnsInHanded_of_change (C := Try.checked) own started (by kernel_rfl) Try.func3
    (ChangeSpec.witness6 (enc := enc) (C := Try.checked) false ⟨#[], #[.agg #[.int .i64 0, .int .i64 0, .int .i64 0, .slice none 0 0], .slice none 0 0, .int .i64 0], []⟩ 8 (by kernel_rfl) (by kernel_rfl) (by kernel_rfl) (by kernel_rfl)) ?_
  intro W base args ds gs before hval0 hW _ _
  have hval : ∀ (j : Nat) t v, Try.f3.params[j]? = some t → args[j]? = some v → Value.okWide Try.prog W .any base t v := hval0
  have hW' := hW
  obtain ⟨p, q, hA0, hV, rfl, hfz, hnd⟩ := hW
  have hA : DataW.TrodAll enc Try.prog W 0 (fun _ => true) true Try.f3.params.toList args.toList ds p := hA0
  rw [Try.params3] at hA hval
  obtain ⟨v0, vs0, d0, ds0, p0, q0, hargs, rfl, rfl, h0, r0⟩ := trodAll_cons hA
  obtain ⟨v1, vs1, d1, ds1, p1, q1, rfl, rfl, rfl, h1, r1⟩ := trodAll_cons r0
  obtain ⟨v2, vs2, d2, ds2, p2, q2, rfl, rfl, rfl, h2, r2⟩ := trodAll_cons r1
  obtain ⟨rfl, rfl, rfl⟩ := trodAll_nil r2
  obtain rfl : args = #[v0, v1, v2] := by cases args; simp_all
  obtain ⟨rfl, rfl⟩ := trodVars_none hV
  have lt0 : ∀ x ∈ p0, x.block < W.heap.size := by obtain ⟨m, hm⟩ := h0; exact DataW.trod_lt m _ _ _ hm
  obtain ⟨x0, y0, wh0, u0, xss0, rfl, g0⟩ := opn.box_of_trod Try.underlying24 (by kernel_rfl) (by kernel_rfl) Try.underlying3 Try.underlying3 Try.underlying3 Try.underlying22 Try.underlying25 Try.underlying3 (by kernel_rfl) (by kernel_rfl) (hval 0 24 v0 rfl rfl) h0
  have lt1 : ∀ x ∈ p1, x.block < W.heap.size := by obtain ⟨m, hm⟩ := h1; exact DataW.trod_lt m _ _ _ hm
  obtain ⟨xs1, g1⟩ := opn.ints_of_trod Try.underlying25 Try.underlying3 (by kernel_rfl) (hval 1 25 v1 rfl rfl) h1
  obtain ⟨a2, rfl, rfl, rfl, w2⟩ := open_int Try.underlying3 (hval 2 3 v2 rfl rfl) h2
  clear hA0 hval0
  refine (walk x0 y0 wh0 u0 xss0 v1 xs1 a2 W g0 g1 w2).mono fun e W' ⟨he, bel⟩ => ?_
  subst he
  exact ⟨_, rfl, _, _, _, [], _, [], hW', trodAll_mk1 (shut_bool Try.underlying4 _), (trodAll_cons_mk (Below.trod laidOut (by kernel_rfl) (of_decide_eq_true (by kernel_rfl)) h0 bel lt0) (trodAll_cons_mk (Below.trod laidOut (by kernel_rfl) (of_decide_eq_true (by kernel_rfl)) h1 bel lt1) (trodAll_cons_mk (shut_int Try.underlying3 w2) trodAll_mk0))), rfl, bel.frame _, fun h => by cases h⟩

theorem over : Rows.fnExactAddThirdRow.holds Try.pinned (OpenSpec.ofChange Rows.fnExactAddThirdSpec) :=
  OpenClaim.holds_of_wide 3 Try.f3 rfl rfl rfl rfl rfl rfl rfl ⟨rfl, rfl, rfl, rfl, rfl⟩ rfl rfl rfl rfl rfl (by kernel_rfl) Try.func3 (by kernel_rfl)
    (of_decide_eq_true (by kernel_rfl)) (by unfold Func.isWrapper; first | (rw [if_pos (by decide +kernel)]; kernel_rfl) | (rw [if_neg (by decide +kernel)]; exact ⟨rfl, rfl⟩))
    (fun os started H enc _ => lifted os started H enc)

theorem proved : Rows.FnExactAddThirdSaid := over
#print axioms proved
end Go.Proofs.Ytomofmmecpdalab.lawAddThird
