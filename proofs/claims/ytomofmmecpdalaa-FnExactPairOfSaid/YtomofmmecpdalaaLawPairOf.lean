/- Proved here: for all arguments, the law FnExactPairOf returns true: the program's function answers as its model in every field, leaves its arguments as they were, and its answer owns its memory. Conditions: none beyond the row. -/
import Derived.Test.YtomofmmecpdalaaBox
import Derived.Test.YtomofmmecpdalaaTri
import Derived.Test.YtomofmmecpdalaaTpa
import Derived.Test.YtomofmmecpdalaaTpm
import Derived.Test.YtomofmmecpdalaaOpent
import Derived.Test.YtomofmmecpdalaaRows
import Derived.Deep.RegionHeld3
namespace Go.Proofs.Ytomofmmecpdalaa.lawPairOf
open Go.ChangeShapes Go.WideShapes Go.ChangeAt Go.RowKit Go.Deep Go.Proofs.Ytomofmmecpdalaa.base
open Go.ChangeMaps (open_string shut_string)

set_option maxRecDepth 100000 in
set_option maxHeartbeats 4000000 in
theorem walk (wh0 : Int) (u0 : Value) (xss0 : List (List Int)) (a1 : Int) (w : World) (h0 : IRows w u0 xss0) (_f1 : (Lit.int .i64 a1).wf = true) :
    Calls Try.prog 14 #[.agg #[.int .i64 wh0, u0], .int .i64 a1] w fun e w' => e = .returned (.bool true) ∧ Below w.heap.size w w' := by
  obtain ⟨va0, vn0, vc0, rfl⟩ := h0.shape
  have H0 := Lib.hid h0
  clear h0
  by_cases hs0 : rws.sz xss0 (1048576) < 0
  · skip
    go_enter Try.func14, Try.ntmps14
    have BE0 := Lib.hid (Below.refl w.heap.size w)
    have BE1 := Lib.hid (below_al BE0.out (.cells #[.int .i64 wh0, .slice va0 vn0 vc0] 24))
    have KBp01 := Lib.hid (Blk.new w 24 #[.int .i64 wh0, .slice va0 vn0 vc0])
    clear BE0
    go_wp2_with fail
    refine (tri.sz_any wh0 _ xss0 (1048576) _ (H0.out.below BE1.out) (by omega) (by omega)).mono ?_
    rintro e wz2 ⟨rfl, hb⟩
    have BE3 := Lib.hid (below_tr BE1.out hb)
    have KBp03 := Lib.hid (KBp01.out.below hb)
    have ZZ3 : Hid (w.heap.size + 1 ≤ wz2.heap.size) := Lib.hid (by have := (hb).size; simpa using this)
    clear BE1 KBp01
    obtain ⟨p0c0, p0c1, p0c2⟩ := tri.two_cells KBp03.out
    clear hb
    go_wp2_with fail
    go_ret
    exact ⟨rfl, BE3.out⟩
  have hq0 := rws.sz_bound hs0
  have hn0 : rws.total xss0 ≤ 1048576 := by omega
  go_enter Try.func14, Try.ntmps14
  have BE0 := Lib.hid (Below.refl w.heap.size w)
  have BE4 := Lib.hid (below_al BE0.out (.cells #[.int .i64 wh0, .slice va0 vn0 vc0] 24))
  have KBp04 := Lib.hid (Blk.new w 24 #[.int .i64 wh0, .slice va0 vn0 vc0])
  clear BE0
  go_wp2_with fail
  refine (tri.sz_any wh0 _ xss0 (1048576) _ (H0.out.below BE4.out) (by omega) (by omega)).mono ?_
  rintro e wz5 ⟨rfl, hb⟩
  have BE6 := Lib.hid (below_tr BE4.out hb)
  have KBp06 := Lib.hid (KBp04.out.below hb)
  have ZZ6 : Hid (w.heap.size + 1 ≤ wz5.heap.size) := Lib.hid (by have := (hb).size; simpa using this)
  clear BE4 KBp04
  obtain ⟨p0c0, p0c1, p0c2⟩ := tri.two_cells KBp06.out
  clear hb
  go_wp2_with fail
  refine (tri.to_any wh0 _ xss0 _ (H0.out.below BE6.out) hn0).mono ?_
  rintro e wc7 ⟨us0, rfl, hu, hb⟩
  obtain ⟨s0a, s0n, s0c, rfl⟩ := hu.rows.shape
  clear p0c0 p0c1 p0c2
  have BE8 := Lib.hid (below_tr BE6.out hb)
  have KBp08 := Lib.hid (KBp06.out.below hb)
  have ZZ8 : Hid (wz5.heap.size ≤ wc7.heap.size) := Lib.hid (by have := (hb).size; simpa using this)
  clear BE6 KBp06
  obtain ⟨p0c0, p0c1, p0c2⟩ := tri.two_cells KBp08.out
  have OWs0 := Lib.hid (hu.mono (B' := wz5.heap.size) (by simp) (Nat.le_refl _))
  clear hu hb
  go_wp2_with fail
  refine (tpm.spec_any wh0 (.slice s0a s0n s0c) xss0 a1 _ OWs0.out.rows hn0).mono ?_
  rintro e wf9 ⟨uW, rfl, hu, hb⟩
  obtain ⟨Wa, Wn, Wc, rfl⟩ := hu.shape
  clear p0c0 p0c1 p0c2
  have BE10 := Lib.hid (below_tr BE8.out hb)
  have OWs010 := Lib.hid (OWs0.out.keep hb)
  have KBp010 := Lib.hid (KBp08.out.below hb)
  have ZZ10 : Hid (wc7.heap.size ≤ wf9.heap.size) := Lib.hid (by have := (hb).size; simpa using this)
  clear BE8 OWs0 KBp08
  obtain ⟨p0c0, p0c1, p0c2⟩ := tri.two_cells KBp010.out
  have VWW := Lib.hid hu
  have HBW := Lib.hid (Below.refl wf9.heap.size wf9)
  clear hu hb
  go_wp2_with fail
  have BE11 := Lib.hid (below_al BE10.out (.cells #[.int .i64 ((tpa.res wh0 xss0 a1).x), .int .i64 ((tpa.res wh0 xss0 a1).y), .int .i64 ((tpa.res wh0 xss0 a1).wh), .slice Wa Wn Wc] 54))
  have HBW11 := Lib.hid (below_al HBW.out (.cells #[.int .i64 ((tpa.res wh0 xss0 a1).x), .int .i64 ((tpa.res wh0 xss0 a1).y), .int .i64 ((tpa.res wh0 xss0 a1).wh), .slice Wa Wn Wc] 54))
  have OWs011 := Lib.hid (OWs010.out.keep (below_al (Below.refl _ _) (.cells #[.int .i64 ((tpa.res wh0 xss0 a1).x), .int .i64 ((tpa.res wh0 xss0 a1).y), .int .i64 ((tpa.res wh0 xss0 a1).wh), .slice Wa Wn Wc] 54)))
  have KBp011 := Lib.hid (KBp010.out.alloc (.cells #[.int .i64 ((tpa.res wh0 xss0 a1).x), .int .i64 ((tpa.res wh0 xss0 a1).y), .int .i64 ((tpa.res wh0 xss0 a1).wh), .slice Wa Wn Wc] 54))
  have KBbW11 := Lib.hid (Blk.new wf9 54 #[.int .i64 ((tpa.res wh0 xss0 a1).x), .int .i64 ((tpa.res wh0 xss0 a1).y), .int .i64 ((tpa.res wh0 xss0 a1).wh), .slice Wa Wn Wc])
  clear BE10 HBW OWs010 KBp010
  go_wp2_with fail
  refine (tri.to_any wh0 _ xss0 _ (H0.out.below BE11.out) hn0).mono ?_
  rintro e wc12 ⟨ux0, rfl, hu, hb⟩
  obtain ⟨x0a, x0n, x0c, rfl⟩ := hu.rows.shape
  clear p0c0 p0c1 p0c2
  have BE13 := Lib.hid (below_tr BE11.out hb)
  have HBW13 := Lib.hid (below_tr HBW11.out hb)
  have KBp013 := Lib.hid (KBp011.out.below hb)
  have KBbW13 := Lib.hid (KBbW11.out.below hb)
  have ZZ13 : Hid (wf9.heap.size + 1 ≤ wc12.heap.size) := Lib.hid (by have := (hb).size; simpa using this)
  clear BE11 HBW11 KBp011 KBbW11
  obtain ⟨p0c0, p0c1, p0c2⟩ := tri.two_cells KBp013.out
  obtain ⟨bWc0, bWc1, bWc2, bWc3, bWc4⟩ := four_cells KBbW13.out
  have OWx0 := Lib.hid (hu.mono (B' := wf9.heap.size + 1) (by simp) (Nat.le_refl _))
  clear hu hb
  go_wp2_with fail
  have BE14 := Lib.hid (below_al BE13.out (.cells #[.int .i64 wh0, .slice x0a x0n x0c] 27))
  have HBW14 := Lib.hid (below_al HBW13.out (.cells #[.int .i64 wh0, .slice x0a x0n x0c] 27))
  have OWx014 := Lib.hid (OWx0.out.keep (below_al (Below.refl _ _) (.cells #[.int .i64 wh0, .slice x0a x0n x0c] 27)))
  have KBp014 := Lib.hid (KBp013.out.alloc (.cells #[.int .i64 wh0, .slice x0a x0n x0c] 27))
  have KBbW14 := Lib.hid (KBbW13.out.alloc (.cells #[.int .i64 wh0, .slice x0a x0n x0c] 27))
  have KBbx014 := Lib.hid (Blk.new wc12 27 #[.int .i64 wh0, .slice x0a x0n x0c])
  clear BE13 HBW13 OWx0 KBp013 KBbW13
  go_wp2_with fail
  refine (tpa.impl_any wh0 (.slice x0a x0n x0c) xss0 a1 _ OWx014.out.rows hn0).mono ?_
  rintro e wf15 ⟨uG, rfl, hu, hb⟩
  obtain ⟨Ga, Gn, Gc, rfl⟩ := hu.rows.shape
  clear p0c0 p0c1 p0c2 bWc0 bWc1 bWc2 bWc3 bWc4
  have BE16 := Lib.hid (below_tr BE14.out hb)
  have HBW16 := Lib.hid (below_tr HBW14.out hb)
  have OWx016 := Lib.hid (OWx014.out.keep hb)
  have KBp016 := Lib.hid (KBp014.out.below hb)
  have KBbW16 := Lib.hid (KBbW14.out.below hb)
  have KBbx016 := Lib.hid (KBbx014.out.below hb)
  have ZZ16 : Hid (wc12.heap.size + 1 ≤ wf15.heap.size) := Lib.hid (by have := (hb).size; simpa using this)
  clear BE14 HBW14 OWx014 KBp014 KBbW14 KBbx014
  obtain ⟨p0c0, p0c1, p0c2⟩ := tri.two_cells KBp016.out
  obtain ⟨bWc0, bWc1, bWc2, bWc3, bWc4⟩ := four_cells KBbW16.out
  obtain ⟨bx0c0, bx0c1, bx0c2⟩ := tri.two_cells KBbx016.out
  have OWG := Lib.hid (hu.mono (B' := wc12.heap.size + 1) (by simp) (Nat.le_refl _))
  clear hu hb
  go_wp2_with fail
  have BE17 := Lib.hid (below_al BE16.out (.cells #[.int .i64 ((tpa.res wh0 xss0 a1).x), .int .i64 ((tpa.res wh0 xss0 a1).y), .int .i64 ((tpa.res wh0 xss0 a1).wh), .slice Ga Gn Gc] 54))
  have HBW17 := Lib.hid (below_al HBW16.out (.cells #[.int .i64 ((tpa.res wh0 xss0 a1).x), .int .i64 ((tpa.res wh0 xss0 a1).y), .int .i64 ((tpa.res wh0 xss0 a1).wh), .slice Ga Gn Gc] 54))
  have OWx017 := Lib.hid (OWx016.out.keep (below_al (Below.refl _ _) (.cells #[.int .i64 ((tpa.res wh0 xss0 a1).x), .int .i64 ((tpa.res wh0 xss0 a1).y), .int .i64 ((tpa.res wh0 xss0 a1).wh), .slice Ga Gn Gc] 54)))
  have OWG17 := Lib.hid (OWG.out.keep (below_al (Below.refl _ _) (.cells #[.int .i64 ((tpa.res wh0 xss0 a1).x), .int .i64 ((tpa.res wh0 xss0 a1).y), .int .i64 ((tpa.res wh0 xss0 a1).wh), .slice Ga Gn Gc] 54)))
  have KBp017 := Lib.hid (KBp016.out.alloc (.cells #[.int .i64 ((tpa.res wh0 xss0 a1).x), .int .i64 ((tpa.res wh0 xss0 a1).y), .int .i64 ((tpa.res wh0 xss0 a1).wh), .slice Ga Gn Gc] 54))
  have KBbW17 := Lib.hid (KBbW16.out.alloc (.cells #[.int .i64 ((tpa.res wh0 xss0 a1).x), .int .i64 ((tpa.res wh0 xss0 a1).y), .int .i64 ((tpa.res wh0 xss0 a1).wh), .slice Ga Gn Gc] 54))
  have KBbx017 := Lib.hid (KBbx016.out.alloc (.cells #[.int .i64 ((tpa.res wh0 xss0 a1).x), .int .i64 ((tpa.res wh0 xss0 a1).y), .int .i64 ((tpa.res wh0 xss0 a1).wh), .slice Ga Gn Gc] 54))
  have KBbG17 := Lib.hid (Blk.new wf15 54 #[.int .i64 ((tpa.res wh0 xss0 a1).x), .int .i64 ((tpa.res wh0 xss0 a1).y), .int .i64 ((tpa.res wh0 xss0 a1).wh), .slice Ga Gn Gc])
  clear BE16 HBW16 OWx016 OWG KBp016 KBbW16 KBbx016
  have tk0 : (((tpa.res wh0 xss0 a1).ok) != ((tpa.res wh0 xss0 a1).ok)) = false := bne_self_eq_false _
  go_wp2_with fail
  refine (box.eq_same ((tpa.res wh0 xss0 a1).x) ((tpa.res wh0 xss0 a1).y) ((tpa.res wh0 xss0 a1).wh) _ _ ((tpa.res wh0 xss0 a1).rows) _ OWG17.out.rows (VWW.out.below HBW17.out) (tpa.tot_res wh0 xss0 a1)).mono ?_
  rintro e we18 ⟨rfl, hb⟩
  clear p0c0 p0c1 p0c2 bWc0 bWc1 bWc2 bWc3 bWc4 bx0c0 bx0c1 bx0c2
  have BE19 := Lib.hid (below_tr BE17.out hb)
  have HBW19 := Lib.hid (below_tr HBW17.out hb)
  have OWx019 := Lib.hid (OWx017.out.keep hb)
  have OWG19 := Lib.hid (OWG17.out.keep hb)
  have KBp019 := Lib.hid (KBp017.out.below hb)
  have KBbW19 := Lib.hid (KBbW17.out.below hb)
  have KBbx019 := Lib.hid (KBbx017.out.below hb)
  have KBbG19 := Lib.hid (KBbG17.out.below hb)
  have ZZ19 : Hid (wf15.heap.size + 1 ≤ we18.heap.size) := Lib.hid (by have := (hb).size; simpa using this)
  clear BE17 HBW17 OWx017 OWG17 KBp017 KBbW17 KBbx017 KBbG17
  obtain ⟨p0c0, p0c1, p0c2⟩ := tri.two_cells KBp019.out
  obtain ⟨bWc0, bWc1, bWc2, bWc3, bWc4⟩ := four_cells KBbW19.out
  obtain ⟨bx0c0, bx0c1, bx0c2⟩ := tri.two_cells KBbx019.out
  obtain ⟨bGc0, bGc1, bGc2, bGc3, bGc4⟩ := four_cells KBbG19.out
  clear hb
  go_wp2_with fail
  have HA := Lib.hid (H0.out.below BE19.out)
  have HX := Lib.hid (OWx019.out.rows)
  go_region_held3 (fun w' => w'.cell? ⟨w.heap.size, 0, none⟩ = some (.int .i64 wh0) ∧ w'.cell? ⟨w.heap.size, 1, none⟩ = some (.slice va0 vn0 vc0) ∧ w'.cell? ⟨wc12.heap.size, 0, none⟩ = some (.int .i64 wh0) ∧ w'.cell? ⟨wc12.heap.size, 1, none⟩ = some (.slice x0a x0n x0c) ∧ Below we18.heap.size we18 w')
    ((refine held4 p0c0 p0c1 bx0c0 bx0c1 ?_; repeat (first | exact Below.refl _ _ | assumption | refine below_dr ?_ | refine below_tr ?_ (by assumption))))
    (first | (go_at_call 17; refine (tri.to_any wh0 _ xss0 _ (HA.out.below ?_) hn0).mono ?_; (simp [*]); rintro e wq ⟨uqq0, rfl, huq, hbq⟩) | (go_at_call 19; refine (tri.eq_same wh0 _ _ xss0 _ (HX.out.below (below_tr (below_dr (Below.refl _ _)) hbq)) huq.rows hn0).mono ?_; rintro e wd20 ⟨rfl, hbr⟩))
  have hbt := below_tr (below_tr (below_dr (Below.refl _ _)) hbq) hbr
  clear HA HX huq hbq hbr
  clear p0c0 p0c1 p0c2 bWc0 bWc1 bWc2 bWc3 bWc4 bx0c0 bx0c1 bx0c2 bGc0 bGc1 bGc2 bGc3 bGc4
  have BE21 := Lib.hid (below_tr BE19.out hbt)
  have HBW21 := Lib.hid (below_tr HBW19.out hbt)
  have OWx021 := Lib.hid (OWx019.out.keep hbt)
  have OWG21 := Lib.hid (OWG19.out.keep hbt)
  have KBp021 := Lib.hid (KBp019.out.below hbt)
  have KBbW21 := Lib.hid (KBbW19.out.below hbt)
  have KBbx021 := Lib.hid (KBbx019.out.below hbt)
  have KBbG21 := Lib.hid (KBbG19.out.below hbt)
  have ZZ21 : Hid (we18.heap.size ≤ wd20.heap.size) := Lib.hid (by have := (hbt).size; simpa using this)
  clear BE19 HBW19 OWx019 OWG19 KBp019 KBbW19 KBbx019 KBbG19
  obtain ⟨p0c0, p0c1, p0c2⟩ := tri.two_cells KBp021.out
  obtain ⟨bWc0, bWc1, bWc2, bWc3, bWc4⟩ := four_cells KBbW21.out
  obtain ⟨bx0c0, bx0c1, bx0c2⟩ := tri.two_cells KBbx021.out
  obtain ⟨bGc0, bGc1, bGc2, bGc3, bGc4⟩ := four_cells KBbG21.out
  clear hbt
  have bl0 := rws.before_le xss0 xss0.length
  go_wp2_with fail
  refine (tri.mark_any wh0 _ xss0 (1) (wf9.heap.size + 1) (wc12.heap.size) _ OWx021.out hn0 (by omega) (by omega)).mono ?_
  rintro e wm22 ⟨rfl, hi, S, wl23, hb, hw, hs⟩
  clear OWx021
  clear p0c0 p0c1 p0c2 bWc0 bWc1 bWc2 bWc3 bWc4 bx0c0 bx0c1 bx0c2 bGc0 bGc1 bGc2 bGc3 bGc4
  have BE24 := Lib.hid (below_tr BE21.out hb)
  have HBW24 := Lib.hid (below_tr HBW21.out hb)
  have OWG24 := Lib.hid (OWG21.out.keep hb)
  have KBp024 := Lib.hid (KBp021.out.below hb)
  have KBbW24 := Lib.hid (KBbW21.out.below hb)
  have KBbx024 := Lib.hid (KBbx021.out.below hb)
  have KBbG24 := Lib.hid (KBbG21.out.below hb)
  have ZZ24 : Hid (wd20.heap.size ≤ wl23.heap.size) := Lib.hid (by have := (hb).size; simpa using this)
  clear BE21 HBW21 OWG21 KBp021 KBbW21 KBbx021 KBbG21
  obtain ⟨p0c0, p0c1, p0c2⟩ := tri.two_cells KBp024.out
  obtain ⟨bWc0, bWc1, bWc2, bWc3, bWc4⟩ := four_cells KBbW24.out
  obtain ⟨bx0c0, bx0c1, bx0c2⟩ := tri.two_cells KBbx024.out
  obtain ⟨bGc0, bGc1, bGc2, bGc3, bGc4⟩ := four_cells KBbG24.out
  clear p0c0 p0c1 p0c2 bWc0 bWc1 bWc2 bWc3 bWc4 bx0c0 bx0c1 bx0c2 bGc0 bGc1 bGc2 bGc3 bGc4
  have BE25 := Lib.hid (BE24.out.trans (hw.below (fun p hp => by have := (hs p hp).1; have := ZZ6.out; have := ZZ8.out; have := ZZ10.out; have := ZZ13.out; have := ZZ16.out; have := ZZ19.out; have := ZZ21.out; have := ZZ24.out; omega)))
  have HBW25 := Lib.hid (HBW24.out.trans (hw.below (fun p hp => by have := (hs p hp).1; have := ZZ6.out; have := ZZ8.out; have := ZZ10.out; have := ZZ13.out; have := ZZ16.out; have := ZZ19.out; have := ZZ21.out; have := ZZ24.out; omega)))
  have OWG25 := Lib.hid (OWG24.out.wrote hw (fun p hp => by have := hs p hp; have := ZZ6.out; have := ZZ8.out; have := ZZ10.out; have := ZZ13.out; have := ZZ16.out; have := ZZ19.out; have := ZZ21.out; have := ZZ24.out; omega))
  have KBp025 := Lib.hid (KBp024.out.wrote hw (fun p hp e => by have := hs p hp; have := ZZ6.out; have := ZZ8.out; have := ZZ10.out; have := ZZ13.out; have := ZZ16.out; have := ZZ19.out; have := ZZ21.out; have := ZZ24.out; omega))
  have KBbW25 := Lib.hid (KBbW24.out.wrote hw (fun p hp e => by have := hs p hp; have := ZZ6.out; have := ZZ8.out; have := ZZ10.out; have := ZZ13.out; have := ZZ16.out; have := ZZ19.out; have := ZZ21.out; have := ZZ24.out; omega))
  have KBbx025 := Lib.hid (KBbx024.out.wrote hw (fun p hp e => by have := hs p hp; have := ZZ6.out; have := ZZ8.out; have := ZZ10.out; have := ZZ13.out; have := ZZ16.out; have := ZZ19.out; have := ZZ21.out; have := ZZ24.out; omega))
  have KBbG25 := Lib.hid (KBbG24.out.wrote hw (fun p hp e => by have := hs p hp; have := ZZ6.out; have := ZZ8.out; have := ZZ10.out; have := ZZ13.out; have := ZZ16.out; have := ZZ19.out; have := ZZ21.out; have := ZZ24.out; omega))
  have ZZ25 : Hid (wl23.heap.size ≤ wm22.heap.size) := Lib.hid (by have := hw.size; omega)
  clear BE24 HBW24 OWG24 KBp024 KBbW24 KBbx024 KBbG24
  obtain ⟨p0c0, p0c1, p0c2⟩ := tri.two_cells KBp025.out
  obtain ⟨bWc0, bWc1, bWc2, bWc3, bWc4⟩ := four_cells KBbW25.out
  obtain ⟨bx0c0, bx0c1, bx0c2⟩ := tri.two_cells KBbx025.out
  obtain ⟨bGc0, bGc1, bGc2, bGc3, bGc4⟩ := four_cells KBbG25.out
  clear hb
  clear hw hs
  clear hi
  have dk : decide (1 + (rws.before xss0 xss0.length : Int) < 0) = false := by simp; omega
  have dk' : ¬ (1 + (rws.before xss0 xss0.length : Int) < 0) := by omega
  go_wp2_with fail
  refine (box.eq_same ((tpa.res wh0 xss0 a1).x) ((tpa.res wh0 xss0 a1).y) ((tpa.res wh0 xss0 a1).wh) _ _ ((tpa.res wh0 xss0 a1).rows) _ OWG25.out.rows (VWW.out.below HBW25.out) (tpa.tot_res wh0 xss0 a1)).mono ?_
  rintro e we26 ⟨rfl, hb⟩
  clear p0c0 p0c1 p0c2 bWc0 bWc1 bWc2 bWc3 bWc4 bx0c0 bx0c1 bx0c2 bGc0 bGc1 bGc2 bGc3 bGc4
  have BE27 := Lib.hid (below_tr BE25.out hb)
  have HBW27 := Lib.hid (below_tr HBW25.out hb)
  have OWG27 := Lib.hid (OWG25.out.keep hb)
  have KBp027 := Lib.hid (KBp025.out.below hb)
  have KBbW27 := Lib.hid (KBbW25.out.below hb)
  have KBbx027 := Lib.hid (KBbx025.out.below hb)
  have KBbG27 := Lib.hid (KBbG25.out.below hb)
  have ZZ27 : Hid (wm22.heap.size ≤ we26.heap.size) := Lib.hid (by have := (hb).size; simpa using this)
  clear BE25 HBW25 OWG25 KBp025 KBbW25 KBbx025 KBbG25
  obtain ⟨p0c0, p0c1, p0c2⟩ := tri.two_cells KBp027.out
  obtain ⟨bWc0, bWc1, bWc2, bWc3, bWc4⟩ := four_cells KBbW27.out
  obtain ⟨bx0c0, bx0c1, bx0c2⟩ := tri.two_cells KBbx027.out
  obtain ⟨bGc0, bGc1, bGc2, bGc3, bGc4⟩ := four_cells KBbG27.out
  clear hb
  have blr := Nat.le_trans (rws.before_le ((tpa.res wh0 xss0 a1).rows) ((tpa.res wh0 xss0 a1).rows).length) (tpa.tot_res wh0 xss0 a1)
  have dq : ¬ (1 + (rws.before ((tpa.res wh0 xss0 a1).rows) ((tpa.res wh0 xss0 a1).rows).length : Int) < 0) := by omega
  have tq : ((1 + (rws.before ((tpa.res wh0 xss0 a1).rows) ((tpa.res wh0 xss0 a1).rows).length : Int)) != (1 + (rws.before ((tpa.res wh0 xss0 a1).rows) ((tpa.res wh0 xss0 a1).rows).length : Int))) = false := bne_self_eq_false _
  go_wp2_with fail
  refine (box.mark_any ((tpa.res wh0 xss0 a1).x) ((tpa.res wh0 xss0 a1).y) ((tpa.res wh0 xss0 a1).wh) _ ((tpa.res wh0 xss0 a1).rows) (1) (wc12.heap.size + 1) (wf15.heap.size) _ OWG27.out (tpa.tot_res wh0 xss0 a1) (by omega) (by omega)).mono ?_
  rintro e wm28 ⟨rfl, hi, S, wl29, hb, hw, hs⟩
  clear OWG27
  clear p0c0 p0c1 p0c2 bWc0 bWc1 bWc2 bWc3 bWc4 bx0c0 bx0c1 bx0c2 bGc0 bGc1 bGc2 bGc3 bGc4
  have BE30 := Lib.hid (below_tr BE27.out hb)
  have HBW30 := Lib.hid (below_tr HBW27.out hb)
  have KBp030 := Lib.hid (KBp027.out.below hb)
  have KBbW30 := Lib.hid (KBbW27.out.below hb)
  have KBbx030 := Lib.hid (KBbx027.out.below hb)
  have KBbG30 := Lib.hid (KBbG27.out.below hb)
  have ZZ30 : Hid (we26.heap.size ≤ wl29.heap.size) := Lib.hid (by have := (hb).size; simpa using this)
  clear BE27 HBW27 KBp027 KBbW27 KBbx027 KBbG27
  obtain ⟨p0c0, p0c1, p0c2⟩ := tri.two_cells KBp030.out
  obtain ⟨bWc0, bWc1, bWc2, bWc3, bWc4⟩ := four_cells KBbW30.out
  obtain ⟨bx0c0, bx0c1, bx0c2⟩ := tri.two_cells KBbx030.out
  obtain ⟨bGc0, bGc1, bGc2, bGc3, bGc4⟩ := four_cells KBbG30.out
  clear p0c0 p0c1 p0c2 bWc0 bWc1 bWc2 bWc3 bWc4 bx0c0 bx0c1 bx0c2 bGc0 bGc1 bGc2 bGc3 bGc4
  have BE31 := Lib.hid (BE30.out.trans (hw.below (fun p hp => by have := (hs p hp).1; have := ZZ6.out; have := ZZ8.out; have := ZZ10.out; have := ZZ13.out; have := ZZ16.out; have := ZZ19.out; have := ZZ21.out; have := ZZ24.out; have := ZZ25.out; have := ZZ27.out; have := ZZ30.out; omega)))
  have HBW31 := Lib.hid (HBW30.out.trans (hw.below (fun p hp => by have := (hs p hp).1; have := ZZ6.out; have := ZZ8.out; have := ZZ10.out; have := ZZ13.out; have := ZZ16.out; have := ZZ19.out; have := ZZ21.out; have := ZZ24.out; have := ZZ25.out; have := ZZ27.out; have := ZZ30.out; omega)))
  have KBp031 := Lib.hid (KBp030.out.wrote hw (fun p hp e => by have := hs p hp; have := ZZ6.out; have := ZZ8.out; have := ZZ10.out; have := ZZ13.out; have := ZZ16.out; have := ZZ19.out; have := ZZ21.out; have := ZZ24.out; have := ZZ25.out; have := ZZ27.out; have := ZZ30.out; omega))
  have KBbW31 := Lib.hid (KBbW30.out.wrote hw (fun p hp e => by have := hs p hp; have := ZZ6.out; have := ZZ8.out; have := ZZ10.out; have := ZZ13.out; have := ZZ16.out; have := ZZ19.out; have := ZZ21.out; have := ZZ24.out; have := ZZ25.out; have := ZZ27.out; have := ZZ30.out; omega))
  have KBbx031 := Lib.hid (KBbx030.out.wrote hw (fun p hp e => by have := hs p hp; have := ZZ6.out; have := ZZ8.out; have := ZZ10.out; have := ZZ13.out; have := ZZ16.out; have := ZZ19.out; have := ZZ21.out; have := ZZ24.out; have := ZZ25.out; have := ZZ27.out; have := ZZ30.out; omega))
  have KBbG31 := Lib.hid (KBbG30.out.wrote hw (fun p hp e => by have := hs p hp; have := ZZ6.out; have := ZZ8.out; have := ZZ10.out; have := ZZ13.out; have := ZZ16.out; have := ZZ19.out; have := ZZ21.out; have := ZZ24.out; have := ZZ25.out; have := ZZ27.out; have := ZZ30.out; omega))
  have ZZ31 : Hid (wl29.heap.size ≤ wm28.heap.size) := Lib.hid (by have := hw.size; omega)
  clear BE30 HBW30 KBp030 KBbW30 KBbx030 KBbG30
  obtain ⟨p0c0, p0c1, p0c2⟩ := tri.two_cells KBp031.out
  obtain ⟨bWc0, bWc1, bWc2, bWc3, bWc4⟩ := four_cells KBbW31.out
  obtain ⟨bx0c0, bx0c1, bx0c2⟩ := tri.two_cells KBbx031.out
  obtain ⟨bGc0, bGc1, bGc2, bGc3, bGc4⟩ := four_cells KBbG31.out
  clear hb
  clear hw hs
  have VWM := Lib.hid hi
  have HBM := Lib.hid (Below.refl wm28.heap.size wm28)
  clear hi
  go_wp2_with fail
  refine (box.held_any ((tpa.res wh0 xss0 a1).x) ((tpa.res wh0 xss0 a1).y) ((tpa.res wh0 xss0 a1).wh) _ ((tpa.res wh0 xss0 a1).rows) 1 _ (VWM.out.below HBM.out) (tpa.tot_res wh0 xss0 a1) (by omega) (by omega)).mono ?_
  rintro e wh32 ⟨rfl, hb⟩
  clear p0c0 p0c1 p0c2 bWc0 bWc1 bWc2 bWc3 bWc4 bx0c0 bx0c1 bx0c2 bGc0 bGc1 bGc2 bGc3 bGc4
  have BE33 := Lib.hid (below_tr BE31.out hb)
  have HBW33 := Lib.hid (below_tr HBW31.out hb)
  have HBM33 := Lib.hid (below_tr HBM.out hb)
  have KBp033 := Lib.hid (KBp031.out.below hb)
  have KBbW33 := Lib.hid (KBbW31.out.below hb)
  have KBbx033 := Lib.hid (KBbx031.out.below hb)
  have KBbG33 := Lib.hid (KBbG31.out.below hb)
  have ZZ33 : Hid (wm28.heap.size ≤ wh32.heap.size) := Lib.hid (by have := (hb).size; simpa using this)
  clear BE31 HBW31 HBM KBp031 KBbW31 KBbx031 KBbG31
  obtain ⟨p0c0, p0c1, p0c2⟩ := tri.two_cells KBp033.out
  obtain ⟨bWc0, bWc1, bWc2, bWc3, bWc4⟩ := four_cells KBbW33.out
  obtain ⟨bx0c0, bx0c1, bx0c2⟩ := tri.two_cells KBbx033.out
  obtain ⟨bGc0, bGc1, bGc2, bGc3, bGc4⟩ := four_cells KBbG33.out
  clear hb
  go_wp2_with fail
  refine (tri.to_any wh0 _ xss0 _ (H0.out.below BE33.out) hn0).mono ?_
  rintro e wc34 ⟨uz0, rfl, hu, hb⟩
  obtain ⟨z0a, z0n, z0c, rfl⟩ := hu.rows.shape
  clear p0c0 p0c1 p0c2 bWc0 bWc1 bWc2 bWc3 bWc4 bx0c0 bx0c1 bx0c2 bGc0 bGc1 bGc2 bGc3 bGc4
  have BE35 := Lib.hid (below_tr BE33.out hb)
  have HBW35 := Lib.hid (below_tr HBW33.out hb)
  have HBM35 := Lib.hid (below_tr HBM33.out hb)
  have KBp035 := Lib.hid (KBp033.out.below hb)
  have KBbW35 := Lib.hid (KBbW33.out.below hb)
  have KBbx035 := Lib.hid (KBbx033.out.below hb)
  have KBbG35 := Lib.hid (KBbG33.out.below hb)
  have ZZ35 : Hid (wh32.heap.size ≤ wc34.heap.size) := Lib.hid (by have := (hb).size; simpa using this)
  clear BE33 HBW33 HBM33 KBp033 KBbW33 KBbx033 KBbG33
  obtain ⟨p0c0, p0c1, p0c2⟩ := tri.two_cells KBp035.out
  obtain ⟨bWc0, bWc1, bWc2, bWc3, bWc4⟩ := four_cells KBbW35.out
  obtain ⟨bx0c0, bx0c1, bx0c2⟩ := tri.two_cells KBbx035.out
  obtain ⟨bGc0, bGc1, bGc2, bGc3, bGc4⟩ := four_cells KBbG35.out
  have OWz0 := Lib.hid (hu.mono (B' := wh32.heap.size) (by simp) (Nat.le_refl _))
  clear hu hb
  go_wp2_with fail
  refine (tpa.impl_any wh0 (.slice z0a z0n z0c) xss0 a1 _ OWz0.out.rows hn0).mono ?_
  rintro e wf36 ⟨uHh, rfl, hu, hb⟩
  obtain ⟨Hha, Hhn, Hhc, rfl⟩ := hu.rows.shape
  clear p0c0 p0c1 p0c2 bWc0 bWc1 bWc2 bWc3 bWc4 bx0c0 bx0c1 bx0c2 bGc0 bGc1 bGc2 bGc3 bGc4
  have BE37 := Lib.hid (below_tr BE35.out hb)
  have HBW37 := Lib.hid (below_tr HBW35.out hb)
  have HBM37 := Lib.hid (below_tr HBM35.out hb)
  have OWz037 := Lib.hid (OWz0.out.keep hb)
  have KBp037 := Lib.hid (KBp035.out.below hb)
  have KBbW37 := Lib.hid (KBbW35.out.below hb)
  have KBbx037 := Lib.hid (KBbx035.out.below hb)
  have KBbG37 := Lib.hid (KBbG35.out.below hb)
  have ZZ37 : Hid (wc34.heap.size ≤ wf36.heap.size) := Lib.hid (by have := (hb).size; simpa using this)
  clear BE35 HBW35 HBM35 OWz0 KBp035 KBbW35 KBbx035 KBbG35
  obtain ⟨p0c0, p0c1, p0c2⟩ := tri.two_cells KBp037.out
  obtain ⟨bWc0, bWc1, bWc2, bWc3, bWc4⟩ := four_cells KBbW37.out
  obtain ⟨bx0c0, bx0c1, bx0c2⟩ := tri.two_cells KBbx037.out
  obtain ⟨bGc0, bGc1, bGc2, bGc3, bGc4⟩ := four_cells KBbG37.out
  have OWHh := Lib.hid (hu.mono (B' := wc34.heap.size) (by simp) (Nat.le_refl _))
  clear hu hb
  go_wp2_with fail
  have BE38 := Lib.hid (below_al BE37.out (.cells #[.int .i64 ((tpa.res wh0 xss0 a1).x), .int .i64 ((tpa.res wh0 xss0 a1).y), .int .i64 ((tpa.res wh0 xss0 a1).wh), .slice Hha Hhn Hhc] 54))
  have HBW38 := Lib.hid (below_al HBW37.out (.cells #[.int .i64 ((tpa.res wh0 xss0 a1).x), .int .i64 ((tpa.res wh0 xss0 a1).y), .int .i64 ((tpa.res wh0 xss0 a1).wh), .slice Hha Hhn Hhc] 54))
  have HBM38 := Lib.hid (below_al HBM37.out (.cells #[.int .i64 ((tpa.res wh0 xss0 a1).x), .int .i64 ((tpa.res wh0 xss0 a1).y), .int .i64 ((tpa.res wh0 xss0 a1).wh), .slice Hha Hhn Hhc] 54))
  have OWz038 := Lib.hid (OWz037.out.keep (below_al (Below.refl _ _) (.cells #[.int .i64 ((tpa.res wh0 xss0 a1).x), .int .i64 ((tpa.res wh0 xss0 a1).y), .int .i64 ((tpa.res wh0 xss0 a1).wh), .slice Hha Hhn Hhc] 54)))
  have OWHh38 := Lib.hid (OWHh.out.keep (below_al (Below.refl _ _) (.cells #[.int .i64 ((tpa.res wh0 xss0 a1).x), .int .i64 ((tpa.res wh0 xss0 a1).y), .int .i64 ((tpa.res wh0 xss0 a1).wh), .slice Hha Hhn Hhc] 54)))
  have KBp038 := Lib.hid (KBp037.out.alloc (.cells #[.int .i64 ((tpa.res wh0 xss0 a1).x), .int .i64 ((tpa.res wh0 xss0 a1).y), .int .i64 ((tpa.res wh0 xss0 a1).wh), .slice Hha Hhn Hhc] 54))
  have KBbW38 := Lib.hid (KBbW37.out.alloc (.cells #[.int .i64 ((tpa.res wh0 xss0 a1).x), .int .i64 ((tpa.res wh0 xss0 a1).y), .int .i64 ((tpa.res wh0 xss0 a1).wh), .slice Hha Hhn Hhc] 54))
  have KBbx038 := Lib.hid (KBbx037.out.alloc (.cells #[.int .i64 ((tpa.res wh0 xss0 a1).x), .int .i64 ((tpa.res wh0 xss0 a1).y), .int .i64 ((tpa.res wh0 xss0 a1).wh), .slice Hha Hhn Hhc] 54))
  have KBbG38 := Lib.hid (KBbG37.out.alloc (.cells #[.int .i64 ((tpa.res wh0 xss0 a1).x), .int .i64 ((tpa.res wh0 xss0 a1).y), .int .i64 ((tpa.res wh0 xss0 a1).wh), .slice Hha Hhn Hhc] 54))
  have KBbHh38 := Lib.hid (Blk.new wf36 54 #[.int .i64 ((tpa.res wh0 xss0 a1).x), .int .i64 ((tpa.res wh0 xss0 a1).y), .int .i64 ((tpa.res wh0 xss0 a1).wh), .slice Hha Hhn Hhc])
  clear BE37 HBW37 HBM37 OWz037 OWHh KBp037 KBbW37 KBbx037 KBbG37
  clear OWz038
  go_wp2_with fail
  refine (box.eq_same ((tpa.res wh0 xss0 a1).x) ((tpa.res wh0 xss0 a1).y) ((tpa.res wh0 xss0 a1).wh) _ _ ((tpa.res wh0 xss0 a1).rows) _ OWHh38.out.rows (VWW.out.below HBW38.out) (tpa.tot_res wh0 xss0 a1)).mono ?_
  rintro e we39 ⟨rfl, hb⟩
  clear p0c0 p0c1 p0c2 bWc0 bWc1 bWc2 bWc3 bWc4 bx0c0 bx0c1 bx0c2 bGc0 bGc1 bGc2 bGc3 bGc4
  have BE40 := Lib.hid (below_tr BE38.out hb)
  have HBW40 := Lib.hid (below_tr HBW38.out hb)
  have HBM40 := Lib.hid (below_tr HBM38.out hb)
  have OWHh40 := Lib.hid (OWHh38.out.keep hb)
  have KBp040 := Lib.hid (KBp038.out.below hb)
  have KBbW40 := Lib.hid (KBbW38.out.below hb)
  have KBbx040 := Lib.hid (KBbx038.out.below hb)
  have KBbG40 := Lib.hid (KBbG38.out.below hb)
  have KBbHh40 := Lib.hid (KBbHh38.out.below hb)
  have ZZ40 : Hid (wf36.heap.size + 1 ≤ we39.heap.size) := Lib.hid (by have := (hb).size; simpa using this)
  clear BE38 HBW38 HBM38 OWHh38 KBp038 KBbW38 KBbx038 KBbG38 KBbHh38
  obtain ⟨p0c0, p0c1, p0c2⟩ := tri.two_cells KBp040.out
  obtain ⟨bWc0, bWc1, bWc2, bWc3, bWc4⟩ := four_cells KBbW40.out
  obtain ⟨bx0c0, bx0c1, bx0c2⟩ := tri.two_cells KBbx040.out
  obtain ⟨bGc0, bGc1, bGc2, bGc3, bGc4⟩ := four_cells KBbG40.out
  obtain ⟨bHhc0, bHhc1, bHhc2, bHhc3, bHhc4⟩ := four_cells KBbHh40.out
  clear hb
  go_wp2_with fail
  refine (box.held_any ((tpa.res wh0 xss0 a1).x) ((tpa.res wh0 xss0 a1).y) ((tpa.res wh0 xss0 a1).wh) _ ((tpa.res wh0 xss0 a1).rows) 1 _ (VWM.out.below HBM40.out) (tpa.tot_res wh0 xss0 a1) (by omega) (by omega)).mono ?_
  rintro e wh41 ⟨rfl, hb⟩
  clear p0c0 p0c1 p0c2 bWc0 bWc1 bWc2 bWc3 bWc4 bx0c0 bx0c1 bx0c2 bGc0 bGc1 bGc2 bGc3 bGc4 bHhc0 bHhc1 bHhc2 bHhc3 bHhc4
  have BE42 := Lib.hid (below_tr BE40.out hb)
  have HBW42 := Lib.hid (below_tr HBW40.out hb)
  have HBM42 := Lib.hid (below_tr HBM40.out hb)
  have OWHh42 := Lib.hid (OWHh40.out.keep hb)
  have KBp042 := Lib.hid (KBp040.out.below hb)
  have KBbW42 := Lib.hid (KBbW40.out.below hb)
  have KBbx042 := Lib.hid (KBbx040.out.below hb)
  have KBbG42 := Lib.hid (KBbG40.out.below hb)
  have KBbHh42 := Lib.hid (KBbHh40.out.below hb)
  have ZZ42 : Hid (we39.heap.size ≤ wh41.heap.size) := Lib.hid (by have := (hb).size; simpa using this)
  clear BE40 HBW40 HBM40 OWHh40 KBp040 KBbW40 KBbx040 KBbG40 KBbHh40
  obtain ⟨p0c0, p0c1, p0c2⟩ := tri.two_cells KBp042.out
  obtain ⟨bWc0, bWc1, bWc2, bWc3, bWc4⟩ := four_cells KBbW42.out
  obtain ⟨bx0c0, bx0c1, bx0c2⟩ := tri.two_cells KBbx042.out
  obtain ⟨bGc0, bGc1, bGc2, bGc3, bGc4⟩ := four_cells KBbG42.out
  obtain ⟨bHhc0, bHhc1, bHhc2, bHhc3, bHhc4⟩ := four_cells KBbHh42.out
  clear hb
  go_wp2_with fail
  go_ret
  exact ⟨rfl, BE42.out⟩

/-! ### the frame of the row -/
theorem own : ownKnob Try.prog.godebug = none := by kernel_rfl
theorem laidOut : laidOutB Try.prog = true := by kernel_rfl
set_option maxRecDepth 100000 in
theorem lifted (os : Os) (started : os.Started) (H : Type) (enc : TypeId × Value → H) :
    ReturnsInHanded {} Try.checked os 14 .any (Rows.fnExactPairOfSpec.pre6 enc Try.prog Try.f14 Rows.fnExactPairOfRow.domain false) (Rows.fnExactPairOfSpec.post enc Try.prog Try.f14 false true false false) := by
  refine returnsInHanded_of_change (C := Try.checked) own started (by kernel_rfl) Try.func14
    (ChangeSpec.witness6 (enc := enc) (C := Try.checked) false ⟨#[], #[.agg #[.int .i64 0, .slice none 0 0], .int .i64 0], []⟩ 8 (by kernel_rfl) (by kernel_rfl) (by kernel_rfl) (by kernel_rfl)) ?_
  intro W base args ds gs before hval0 hW _ _
  have hval : ∀ (j : Nat) t v, Try.f14.params[j]? = some t → args[j]? = some v → Value.okWide Try.prog W .any base t v := hval0
  have hW' := hW
  obtain ⟨p, q, hA0, hV, rfl, hfz, hnd⟩ := hW
  have hA : DataW.TrodAll enc Try.prog W 0 (fun _ => true) true Try.f14.params.toList args.toList ds p := hA0
  rw [Try.params14] at hA hval
  obtain ⟨v0, vs0, d0, ds0, p0, q0, hargs, rfl, rfl, h0, r0⟩ := trodAll_cons hA
  obtain ⟨v1, vs1, d1, ds1, p1, q1, rfl, rfl, rfl, h1, r1⟩ := trodAll_cons r0
  obtain ⟨rfl, rfl, rfl⟩ := trodAll_nil r1
  obtain rfl : args = #[v0, v1] := by cases args; simp_all
  obtain ⟨rfl, rfl⟩ := trodVars_none hV
  have lt0 : ∀ x ∈ p0, x.block < W.heap.size := by obtain ⟨m, hm⟩ := h0; exact DataW.trod_lt m _ _ _ hm
  obtain ⟨wh0, u0, xss0, rfl, g0⟩ := opnt.trio_of_trod Try.underlying24 (by kernel_rfl) (by kernel_rfl) Try.underlying3 Try.underlying22 Try.underlying33 Try.underlying3 (by kernel_rfl) (by kernel_rfl) (hval 0 24 v0 rfl rfl) h0
  obtain ⟨a1, rfl, rfl, rfl, w1⟩ := open_int Try.underlying3 (hval 1 3 v1 rfl rfl) h1
  clear hA0 hval0
  refine (walk wh0 u0 xss0 a1 W g0 w1).mono fun e W' ⟨he, bel⟩ => ?_
  subst he
  exact ⟨_, rfl, _, _, _, [], _, [], hW', trodAll_mk1 (shut_bool Try.underlying4 _), (trodAll_cons_mk (Below.trod laidOut (by kernel_rfl) (of_decide_eq_true (by kernel_rfl)) h0 bel lt0) (trodAll_cons_mk (shut_int Try.underlying3 w1) trodAll_mk0)), rfl, bel.frame _, fun h => by cases h⟩

theorem over : Rows.fnExactPairOfRow.holds Try.pinned (OpenSpec.ofChange Rows.fnExactPairOfSpec) :=
  OpenClaim.holds_of_wide 14 Try.f14 rfl rfl rfl rfl rfl rfl rfl ⟨rfl, rfl, rfl, rfl, rfl⟩ rfl rfl rfl rfl rfl (by kernel_rfl) Try.func14 (by kernel_rfl)
    (of_decide_eq_true (by kernel_rfl)) (by unfold Func.isWrapper; first | (rw [if_pos (by decide +kernel)]; kernel_rfl) | (rw [if_neg (by decide +kernel)]; exact ⟨rfl, rfl⟩))
    (fun os started H enc _ => lifted os started H enc)

theorem proved : Rows.FnExactPairOfSaid := over
#print axioms proved
end Go.Proofs.Ytomofmmecpdalaa.lawPairOf
