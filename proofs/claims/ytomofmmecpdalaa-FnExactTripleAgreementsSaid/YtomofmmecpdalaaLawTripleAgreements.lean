/- Proved here: for all arguments, the law FnExactTripleAgreements returns true: the program's function answers as its model in every field, leaves its arguments as they were, and its answer owns its memory. Conditions: none beyond the row. -/
import Derived.Test.YtomofmmecpdalaaTri
import Derived.Test.YtomofmmecpdalaaTra
import Derived.Test.YtomofmmecpdalaaOpent
import Derived.Test.YtomofmmecpdalaaRows
import Derived.Deep.RegionHeld3
namespace Go.Proofs.Ytomofmmecpdalaa.lawTripleAgreements
open Go.ChangeShapes Go.WideShapes Go.ChangeAt Go.RowKit Go.Deep Go.Proofs.Ytomofmmecpdalaa.base
open Go.ChangeMaps (open_string shut_string)

set_option maxRecDepth 100000 in
set_option maxHeartbeats 4000000 in
theorem walk (wh0 : Int) (u0 : Value) (xss0 : List (List Int)) (w : World) (h0 : IRows w u0 xss0) :
    Calls Try.prog 9 #[.agg #[.int .i64 wh0, u0]] w fun e w' => e = .returned (.bool true) ∧ Below w.heap.size w w' := by
  obtain ⟨va0, vn0, vc0, rfl⟩ := h0.shape
  have H0 := Lib.hid h0
  clear h0
  by_cases hs0 : rws.sz xss0 (1048576) < 0
  · skip
    go_enter Try.func9, Try.ntmps9
    have BE0 := Lib.hid (Below.refl w.heap.size w)
    have BE1 := Lib.hid (below_al BE0.out (.cells #[.int .i64 wh0, .slice va0 vn0 vc0] 24))
    have KBp01 := Lib.hid (Blk.new w 24 #[.int .i64 wh0, .slice va0 vn0 vc0])
    clear BE0
    go_wp2_with fail
    refine (tri.sz_any wh0 _ xss0 (1048576) _ (H0.out.below BE1.out) (by omega) (by omega)).mono ?_
    rintro e wz2 ⟨rfl, hb⟩
    have BE3 := Lib.hid (below_tr BE1.out hb)
    have KBp03 := Lib.hid (KBp01.out.below hb)
    have ZZ3 : Hid (w.heap.size + 1 ≤ wz2.heap.size) := Lib.hid (by have := (hb).size; simpa using this)
    clear BE1 KBp01
    obtain ⟨p0c0, p0c1, p0c2⟩ := tri.two_cells KBp03.out
    clear hb
    go_wp2_with fail
    go_ret
    exact ⟨rfl, BE3.out⟩
  have hq0 := rws.sz_bound hs0
  have hn0 : rws.total xss0 ≤ 1048576 := by omega
  go_enter Try.func9, Try.ntmps9
  have BE0 := Lib.hid (Below.refl w.heap.size w)
  have BE4 := Lib.hid (below_al BE0.out (.cells #[.int .i64 wh0, .slice va0 vn0 vc0] 24))
  have KBp04 := Lib.hid (Blk.new w 24 #[.int .i64 wh0, .slice va0 vn0 vc0])
  clear BE0
  go_wp2_with fail
  refine (tri.sz_any wh0 _ xss0 (1048576) _ (H0.out.below BE4.out) (by omega) (by omega)).mono ?_
  rintro e wz5 ⟨rfl, hb⟩
  have BE6 := Lib.hid (below_tr BE4.out hb)
  have KBp06 := Lib.hid (KBp04.out.below hb)
  have ZZ6 : Hid (w.heap.size + 1 ≤ wz5.heap.size) := Lib.hid (by have := (hb).size; simpa using this)
  clear BE4 KBp04
  obtain ⟨p0c0, p0c1, p0c2⟩ := tri.two_cells KBp06.out
  clear hb
  go_wp2_with fail
  refine (tri.to_any wh0 _ xss0 _ (H0.out.below BE6.out) hn0).mono ?_
  rintro e wc7 ⟨us0, rfl, hu, hb⟩
  obtain ⟨s0a, s0n, s0c, rfl⟩ := hu.rows.shape
  clear p0c0 p0c1 p0c2
  have BE8 := Lib.hid (below_tr BE6.out hb)
  have KBp08 := Lib.hid (KBp06.out.below hb)
  have ZZ8 : Hid (wz5.heap.size ≤ wc7.heap.size) := Lib.hid (by have := (hb).size; simpa using this)
  clear BE6 KBp06
  obtain ⟨p0c0, p0c1, p0c2⟩ := tri.two_cells KBp08.out
  have OWs0 := Lib.hid (hu.mono (B' := wz5.heap.size) (by simp) (Nat.le_refl _))
  clear hu hb
  go_wp2_with fail
  refine (tra.spec_any wh0 (.slice s0a s0n s0c) xss0 _ OWs0.out.rows hn0).mono ?_
  rintro e wf9 ⟨uW, rfl, hu, hb⟩
  obtain ⟨Wa, Wn, Wc, rfl⟩ := hu.shape
  clear p0c0 p0c1 p0c2
  have BE10 := Lib.hid (below_tr BE8.out hb)
  have OWs010 := Lib.hid (OWs0.out.keep hb)
  have KBp010 := Lib.hid (KBp08.out.below hb)
  have ZZ10 : Hid (wc7.heap.size ≤ wf9.heap.size) := Lib.hid (by have := (hb).size; simpa using this)
  clear BE8 OWs0 KBp08
  obtain ⟨p0c0, p0c1, p0c2⟩ := tri.two_cells KBp010.out
  have VWW := Lib.hid hu
  have HBW := Lib.hid (Below.refl wf9.heap.size wf9)
  clear hu hb
  go_wp2_with fail
  refine (tri.to_any wh0 _ xss0 _ (H0.out.below BE10.out) hn0).mono ?_
  rintro e wc11 ⟨ux0, rfl, hu, hb⟩
  obtain ⟨x0a, x0n, x0c, rfl⟩ := hu.rows.shape
  clear p0c0 p0c1 p0c2
  have BE12 := Lib.hid (below_tr BE10.out hb)
  have HBW12 := Lib.hid (below_tr HBW.out hb)
  have KBp012 := Lib.hid (KBp010.out.below hb)
  have ZZ12 : Hid (wf9.heap.size ≤ wc11.heap.size) := Lib.hid (by have := (hb).size; simpa using this)
  clear BE10 HBW KBp010
  obtain ⟨p0c0, p0c1, p0c2⟩ := tri.two_cells KBp012.out
  have OWx0 := Lib.hid (hu.mono (B' := wf9.heap.size) (by simp) (Nat.le_refl _))
  clear hu hb
  go_wp2_with fail
  have BE13 := Lib.hid (below_al BE12.out (.cells #[.int .i64 wh0, .slice x0a x0n x0c] 27))
  have HBW13 := Lib.hid (below_al HBW12.out (.cells #[.int .i64 wh0, .slice x0a x0n x0c] 27))
  have OWx013 := Lib.hid (OWx0.out.keep (below_al (Below.refl _ _) (.cells #[.int .i64 wh0, .slice x0a x0n x0c] 27)))
  have KBp013 := Lib.hid (KBp012.out.alloc (.cells #[.int .i64 wh0, .slice x0a x0n x0c] 27))
  have KBbx013 := Lib.hid (Blk.new wc11 27 #[.int .i64 wh0, .slice x0a x0n x0c])
  clear BE12 HBW12 OWx0 KBp012
  go_wp2_with fail
  refine (tra.impl_any wh0 (.slice x0a x0n x0c) xss0 _ OWx013.out.rows hn0).mono ?_
  rintro e wf14 ⟨uG, rfl, hu, hb⟩
  obtain ⟨Ga, Gn, Gc, rfl⟩ := hu.ints.shape
  clear p0c0 p0c1 p0c2
  have BE15 := Lib.hid (below_tr BE13.out hb)
  have HBW15 := Lib.hid (below_tr HBW13.out hb)
  have OWx015 := Lib.hid (OWx013.out.keep hb)
  have KBp015 := Lib.hid (KBp013.out.below hb)
  have KBbx015 := Lib.hid (KBbx013.out.below hb)
  have ZZ15 : Hid (wc11.heap.size + 1 ≤ wf14.heap.size) := Lib.hid (by have := (hb).size; simpa using this)
  clear BE13 HBW13 OWx013 KBp013 KBbx013
  obtain ⟨p0c0, p0c1, p0c2⟩ := tri.two_cells KBp015.out
  obtain ⟨bx0c0, bx0c1, bx0c2⟩ := tri.two_cells KBbx015.out
  have OWG := Lib.hid (hu.mono (B' := wc11.heap.size + 1) (by simp) (Nat.le_refl _))
  clear hu hb
  have tk0 : (((tra.resA wh0 xss0).2) != ((tra.resA wh0 xss0).2)) = false := bne_self_eq_false _
  go_wp2_with fail
  refine (ints.eq_same _ _ ((tra.resA wh0 xss0).1) _ OWG.out.ints (VWW.out.below HBW15.out) (tra.len_resA wh0 xss0)).mono ?_
  rintro e we16 ⟨rfl, hb⟩
  clear p0c0 p0c1 p0c2 bx0c0 bx0c1 bx0c2
  have BE17 := Lib.hid (below_tr BE15.out hb)
  have HBW17 := Lib.hid (below_tr HBW15.out hb)
  have OWx017 := Lib.hid (OWx015.out.keep hb)
  have OWG17 := Lib.hid (OWG.out.keep hb)
  have KBp017 := Lib.hid (KBp015.out.below hb)
  have KBbx017 := Lib.hid (KBbx015.out.below hb)
  have ZZ17 : Hid (wf14.heap.size ≤ we16.heap.size) := Lib.hid (by have := (hb).size; simpa using this)
  clear BE15 HBW15 OWx015 OWG KBp015 KBbx015
  obtain ⟨p0c0, p0c1, p0c2⟩ := tri.two_cells KBp017.out
  obtain ⟨bx0c0, bx0c1, bx0c2⟩ := tri.two_cells KBbx017.out
  clear hb
  go_wp2_with fail
  have HA := Lib.hid (H0.out.below BE17.out)
  have HX := Lib.hid (OWx017.out.rows)
  go_region_held3 (fun w' => w'.cell? ⟨w.heap.size, 0, none⟩ = some (.int .i64 wh0) ∧ w'.cell? ⟨w.heap.size, 1, none⟩ = some (.slice va0 vn0 vc0) ∧ w'.cell? ⟨wc11.heap.size, 0, none⟩ = some (.int .i64 wh0) ∧ w'.cell? ⟨wc11.heap.size, 1, none⟩ = some (.slice x0a x0n x0c) ∧ Below we16.heap.size we16 w')
    ((refine held4 p0c0 p0c1 bx0c0 bx0c1 ?_; repeat (first | exact Below.refl _ _ | assumption | refine below_dr ?_ | refine below_tr ?_ (by assumption))))
    (first | (go_at_call 17; refine (tri.to_any wh0 _ xss0 _ (HA.out.below ?_) hn0).mono ?_; (simp [*]); rintro e wq ⟨uqq0, rfl, huq, hbq⟩) | (go_at_call 19; refine (tri.eq_same wh0 _ _ xss0 _ (HX.out.below (below_tr (below_dr (Below.refl _ _)) hbq)) huq.rows hn0).mono ?_; rintro e wd18 ⟨rfl, hbr⟩))
  have hbt := below_tr (below_tr (below_dr (Below.refl _ _)) hbq) hbr
  clear HA HX huq hbq hbr
  clear p0c0 p0c1 p0c2 bx0c0 bx0c1 bx0c2
  have BE19 := Lib.hid (below_tr BE17.out hbt)
  have HBW19 := Lib.hid (below_tr HBW17.out hbt)
  have OWx019 := Lib.hid (OWx017.out.keep hbt)
  have OWG19 := Lib.hid (OWG17.out.keep hbt)
  have KBp019 := Lib.hid (KBp017.out.below hbt)
  have KBbx019 := Lib.hid (KBbx017.out.below hbt)
  have ZZ19 : Hid (we16.heap.size ≤ wd18.heap.size) := Lib.hid (by have := (hbt).size; simpa using this)
  clear BE17 HBW17 OWx017 OWG17 KBp017 KBbx017
  obtain ⟨p0c0, p0c1, p0c2⟩ := tri.two_cells KBp019.out
  obtain ⟨bx0c0, bx0c1, bx0c2⟩ := tri.two_cells KBbx019.out
  clear hbt
  have bl0 := rws.before_le xss0 xss0.length
  go_wp2_with fail
  refine (tri.mark_any wh0 _ xss0 (1) (wf9.heap.size) (wc11.heap.size) _ OWx019.out hn0 (by omega) (by omega)).mono ?_
  rintro e wm20 ⟨rfl, hi, S, wl21, hb, hw, hs⟩
  clear OWx019
  clear p0c0 p0c1 p0c2 bx0c0 bx0c1 bx0c2
  have BE22 := Lib.hid (below_tr BE19.out hb)
  have HBW22 := Lib.hid (below_tr HBW19.out hb)
  have OWG22 := Lib.hid (OWG19.out.keep hb)
  have KBp022 := Lib.hid (KBp019.out.below hb)
  have KBbx022 := Lib.hid (KBbx019.out.below hb)
  have ZZ22 : Hid (wd18.heap.size ≤ wl21.heap.size) := Lib.hid (by have := (hb).size; simpa using this)
  clear BE19 HBW19 OWG19 KBp019 KBbx019
  obtain ⟨p0c0, p0c1, p0c2⟩ := tri.two_cells KBp022.out
  obtain ⟨bx0c0, bx0c1, bx0c2⟩ := tri.two_cells KBbx022.out
  clear p0c0 p0c1 p0c2 bx0c0 bx0c1 bx0c2
  have BE23 := Lib.hid (BE22.out.trans (hw.below (fun p hp => by have := (hs p hp).1; have := ZZ6.out; have := ZZ8.out; have := ZZ10.out; have := ZZ12.out; have := ZZ15.out; have := ZZ17.out; have := ZZ19.out; have := ZZ22.out; omega)))
  have HBW23 := Lib.hid (HBW22.out.trans (hw.below (fun p hp => by have := (hs p hp).1; have := ZZ6.out; have := ZZ8.out; have := ZZ10.out; have := ZZ12.out; have := ZZ15.out; have := ZZ17.out; have := ZZ19.out; have := ZZ22.out; omega)))
  have OWG23 := Lib.hid (OWG22.out.wrote hw (fun p hp => by have := hs p hp; have := ZZ6.out; have := ZZ8.out; have := ZZ10.out; have := ZZ12.out; have := ZZ15.out; have := ZZ17.out; have := ZZ19.out; have := ZZ22.out; omega))
  have KBp023 := Lib.hid (KBp022.out.wrote hw (fun p hp e => by have := hs p hp; have := ZZ6.out; have := ZZ8.out; have := ZZ10.out; have := ZZ12.out; have := ZZ15.out; have := ZZ17.out; have := ZZ19.out; have := ZZ22.out; omega))
  have KBbx023 := Lib.hid (KBbx022.out.wrote hw (fun p hp e => by have := hs p hp; have := ZZ6.out; have := ZZ8.out; have := ZZ10.out; have := ZZ12.out; have := ZZ15.out; have := ZZ17.out; have := ZZ19.out; have := ZZ22.out; omega))
  have ZZ23 : Hid (wl21.heap.size ≤ wm20.heap.size) := Lib.hid (by have := hw.size; omega)
  clear BE22 HBW22 OWG22 KBp022 KBbx022
  obtain ⟨p0c0, p0c1, p0c2⟩ := tri.two_cells KBp023.out
  obtain ⟨bx0c0, bx0c1, bx0c2⟩ := tri.two_cells KBbx023.out
  clear hb
  clear hw hs
  clear hi
  have dk : decide (1 + (rws.before xss0 xss0.length : Int) < 0) = false := by simp; omega
  have dk' : ¬ (1 + (rws.before xss0 xss0.length : Int) < 0) := by omega
  go_wp2_with fail
  refine (ints.eq_same _ _ ((tra.resA wh0 xss0).1) _ OWG23.out.ints (VWW.out.below HBW23.out) (tra.len_resA wh0 xss0)).mono ?_
  rintro e we24 ⟨rfl, hb⟩
  clear p0c0 p0c1 p0c2 bx0c0 bx0c1 bx0c2
  have BE25 := Lib.hid (below_tr BE23.out hb)
  have HBW25 := Lib.hid (below_tr HBW23.out hb)
  have OWG25 := Lib.hid (OWG23.out.keep hb)
  have KBp025 := Lib.hid (KBp023.out.below hb)
  have KBbx025 := Lib.hid (KBbx023.out.below hb)
  have ZZ25 : Hid (wm20.heap.size ≤ we24.heap.size) := Lib.hid (by have := (hb).size; simpa using this)
  clear BE23 HBW23 OWG23 KBp023 KBbx023
  obtain ⟨p0c0, p0c1, p0c2⟩ := tri.two_cells KBp025.out
  obtain ⟨bx0c0, bx0c1, bx0c2⟩ := tri.two_cells KBbx025.out
  clear hb
  have blr := (tra.len_resA wh0 xss0)
  have dq : ¬ (1 + (((tra.resA wh0 xss0).1).length : Int) < 0) := by omega
  have tq : ((1 + (((tra.resA wh0 xss0).1).length : Int)) != (1 + (((tra.resA wh0 xss0).1).length : Int))) = false := bne_self_eq_false _
  go_wp2_with fail
  refine (ints.mark_own _ ((tra.resA wh0 xss0).1) (1) (wc11.heap.size + 1) (wf14.heap.size) _ OWG25.out (tra.len_resA wh0 xss0) (by omega) (by omega)).mono ?_
  rintro e wm26 ⟨rfl, hi, S, hw, hs⟩
  clear OWG25
  clear p0c0 p0c1 p0c2 bx0c0 bx0c1 bx0c2
  have BE28 := Lib.hid (BE25.out.trans (hw.below (fun p hp => by have := (hs p hp).1; have := ZZ6.out; have := ZZ8.out; have := ZZ10.out; have := ZZ12.out; have := ZZ15.out; have := ZZ17.out; have := ZZ19.out; have := ZZ22.out; have := ZZ23.out; have := ZZ25.out; omega)))
  have HBW28 := Lib.hid (HBW25.out.trans (hw.below (fun p hp => by have := (hs p hp).1; have := ZZ6.out; have := ZZ8.out; have := ZZ10.out; have := ZZ12.out; have := ZZ15.out; have := ZZ17.out; have := ZZ19.out; have := ZZ22.out; have := ZZ23.out; have := ZZ25.out; omega)))
  have KBp028 := Lib.hid (KBp025.out.wrote hw (fun p hp e => by have := hs p hp; have := ZZ6.out; have := ZZ8.out; have := ZZ10.out; have := ZZ12.out; have := ZZ15.out; have := ZZ17.out; have := ZZ19.out; have := ZZ22.out; have := ZZ23.out; have := ZZ25.out; omega))
  have KBbx028 := Lib.hid (KBbx025.out.wrote hw (fun p hp e => by have := hs p hp; have := ZZ6.out; have := ZZ8.out; have := ZZ10.out; have := ZZ12.out; have := ZZ15.out; have := ZZ17.out; have := ZZ19.out; have := ZZ22.out; have := ZZ23.out; have := ZZ25.out; omega))
  have ZZ28 : Hid (we24.heap.size ≤ wm26.heap.size) := Lib.hid (by have := hw.size; omega)
  clear BE25 HBW25 KBp025 KBbx025
  obtain ⟨p0c0, p0c1, p0c2⟩ := tri.two_cells KBp028.out
  obtain ⟨bx0c0, bx0c1, bx0c2⟩ := tri.two_cells KBbx028.out
  clear hw hs
  have VWM := Lib.hid hi
  have HBM := Lib.hid (Below.refl wm26.heap.size wm26)
  clear hi
  go_wp2_with fail
  refine (ints.held_below _ ((tra.resA wh0 xss0).1).length 1 _ (VWM.out.below HBM.out) (tra.len_resA wh0 xss0) (by omega) (by omega)).mono ?_
  rintro e wh29 ⟨rfl, hb⟩
  clear p0c0 p0c1 p0c2 bx0c0 bx0c1 bx0c2
  have BE30 := Lib.hid (below_tr BE28.out hb)
  have HBW30 := Lib.hid (below_tr HBW28.out hb)
  have HBM30 := Lib.hid (below_tr HBM.out hb)
  have KBp030 := Lib.hid (KBp028.out.below hb)
  have KBbx030 := Lib.hid (KBbx028.out.below hb)
  have ZZ30 : Hid (wm26.heap.size ≤ wh29.heap.size) := Lib.hid (by have := (hb).size; simpa using this)
  clear BE28 HBW28 HBM KBp028 KBbx028
  obtain ⟨p0c0, p0c1, p0c2⟩ := tri.two_cells KBp030.out
  obtain ⟨bx0c0, bx0c1, bx0c2⟩ := tri.two_cells KBbx030.out
  clear hb
  go_wp2_with fail
  refine (tri.to_any wh0 _ xss0 _ (H0.out.below BE30.out) hn0).mono ?_
  rintro e wc31 ⟨uz0, rfl, hu, hb⟩
  obtain ⟨z0a, z0n, z0c, rfl⟩ := hu.rows.shape
  clear p0c0 p0c1 p0c2 bx0c0 bx0c1 bx0c2
  have BE32 := Lib.hid (below_tr BE30.out hb)
  have HBW32 := Lib.hid (below_tr HBW30.out hb)
  have HBM32 := Lib.hid (below_tr HBM30.out hb)
  have KBp032 := Lib.hid (KBp030.out.below hb)
  have KBbx032 := Lib.hid (KBbx030.out.below hb)
  have ZZ32 : Hid (wh29.heap.size ≤ wc31.heap.size) := Lib.hid (by have := (hb).size; simpa using this)
  clear BE30 HBW30 HBM30 KBp030 KBbx030
  obtain ⟨p0c0, p0c1, p0c2⟩ := tri.two_cells KBp032.out
  obtain ⟨bx0c0, bx0c1, bx0c2⟩ := tri.two_cells KBbx032.out
  have OWz0 := Lib.hid (hu.mono (B' := wh29.heap.size) (by simp) (Nat.le_refl _))
  clear hu hb
  go_wp2_with fail
  refine (tra.impl_any wh0 (.slice z0a z0n z0c) xss0 _ OWz0.out.rows hn0).mono ?_
  rintro e wf33 ⟨uHh, rfl, hu, hb⟩
  obtain ⟨Hha, Hhn, Hhc, rfl⟩ := hu.ints.shape
  clear p0c0 p0c1 p0c2 bx0c0 bx0c1 bx0c2
  have BE34 := Lib.hid (below_tr BE32.out hb)
  have HBW34 := Lib.hid (below_tr HBW32.out hb)
  have HBM34 := Lib.hid (below_tr HBM32.out hb)
  have OWz034 := Lib.hid (OWz0.out.keep hb)
  have KBp034 := Lib.hid (KBp032.out.below hb)
  have KBbx034 := Lib.hid (KBbx032.out.below hb)
  have ZZ34 : Hid (wc31.heap.size ≤ wf33.heap.size) := Lib.hid (by have := (hb).size; simpa using this)
  clear BE32 HBW32 HBM32 OWz0 KBp032 KBbx032
  obtain ⟨p0c0, p0c1, p0c2⟩ := tri.two_cells KBp034.out
  obtain ⟨bx0c0, bx0c1, bx0c2⟩ := tri.two_cells KBbx034.out
  have OWHh := Lib.hid (hu.mono (B' := wc31.heap.size) (by simp) (Nat.le_refl _))
  clear hu hb
  clear OWz034
  go_wp2_with fail
  refine (ints.eq_same _ _ ((tra.resA wh0 xss0).1) _ OWHh.out.ints (VWW.out.below HBW34.out) (tra.len_resA wh0 xss0)).mono ?_
  rintro e we35 ⟨rfl, hb⟩
  clear p0c0 p0c1 p0c2 bx0c0 bx0c1 bx0c2
  have BE36 := Lib.hid (below_tr BE34.out hb)
  have HBW36 := Lib.hid (below_tr HBW34.out hb)
  have HBM36 := Lib.hid (below_tr HBM34.out hb)
  have OWHh36 := Lib.hid (OWHh.out.keep hb)
  have KBp036 := Lib.hid (KBp034.out.below hb)
  have KBbx036 := Lib.hid (KBbx034.out.below hb)
  have ZZ36 : Hid (wf33.heap.size ≤ we35.heap.size) := Lib.hid (by have := (hb).size; simpa using this)
  clear BE34 HBW34 HBM34 OWHh KBp034 KBbx034
  obtain ⟨p0c0, p0c1, p0c2⟩ := tri.two_cells KBp036.out
  obtain ⟨bx0c0, bx0c1, bx0c2⟩ := tri.two_cells KBbx036.out
  clear hb
  go_wp2_with fail
  refine (ints.held_below _ ((tra.resA wh0 xss0).1).length 1 _ (VWM.out.below HBM36.out) (tra.len_resA wh0 xss0) (by omega) (by omega)).mono ?_
  rintro e wh37 ⟨rfl, hb⟩
  clear p0c0 p0c1 p0c2 bx0c0 bx0c1 bx0c2
  have BE38 := Lib.hid (below_tr BE36.out hb)
  have HBW38 := Lib.hid (below_tr HBW36.out hb)
  have HBM38 := Lib.hid (below_tr HBM36.out hb)
  have OWHh38 := Lib.hid (OWHh36.out.keep hb)
  have KBp038 := Lib.hid (KBp036.out.below hb)
  have KBbx038 := Lib.hid (KBbx036.out.below hb)
  have ZZ38 : Hid (we35.heap.size ≤ wh37.heap.size) := Lib.hid (by have := (hb).size; simpa using this)
  clear BE36 HBW36 HBM36 OWHh36 KBp036 KBbx036
  obtain ⟨p0c0, p0c1, p0c2⟩ := tri.two_cells KBp038.out
  obtain ⟨bx0c0, bx0c1, bx0c2⟩ := tri.two_cells KBbx038.out
  clear hb
  go_wp2_with fail
  go_ret
  exact ⟨rfl, BE38.out⟩

/-! ### the frame of the row -/
theorem own : ownKnob Try.prog.godebug = none := by kernel_rfl
theorem laidOut : laidOutB Try.prog = true := by kernel_rfl
set_option maxRecDepth 100000 in
theorem lifted (os : Os) (started : os.Started) (H : Type) (enc : TypeId × Value → H) :
    ReturnsInHanded {} Try.checked os 9 .any (Rows.fnExactTripleAgreementsSpec.pre6 enc Try.prog Try.f9 Rows.fnExactTripleAgreementsRow.domain false) (Rows.fnExactTripleAgreementsSpec.post enc Try.prog Try.f9 false true false false) := by
  refine returnsInHanded_of_change (C := Try.checked) own started (by kernel_rfl) Try.func9
    (ChangeSpec.witness6 (enc := enc) (C := Try.checked) false ⟨#[], #[.agg #[.int .i64 0, .slice none 0 0]], []⟩ 8 (by kernel_rfl) (by kernel_rfl) (by kernel_rfl) (by kernel_rfl)) ?_
  intro W base args ds gs before hval0 hW _ _
  have hval : ∀ (j : Nat) t v, Try.f9.params[j]? = some t → args[j]? = some v → Value.okWide Try.prog W .any base t v := hval0
  have hW' := hW
  obtain ⟨p, q, hA0, hV, rfl, hfz, hnd⟩ := hW
  have hA : DataW.TrodAll enc Try.prog W 0 (fun _ => true) true Try.f9.params.toList args.toList ds p := hA0
  rw [Try.params9] at hA hval
  obtain ⟨v0, vs0, d0, ds0, p0, q0, hargs, rfl, rfl, h0, r0⟩ := trodAll_cons hA
  obtain ⟨rfl, rfl, rfl⟩ := trodAll_nil r0
  obtain rfl : args = #[v0] := by cases args; simp_all
  obtain ⟨rfl, rfl⟩ := trodVars_none hV
  have lt0 : ∀ x ∈ p0, x.block < W.heap.size := by obtain ⟨m, hm⟩ := h0; exact DataW.trod_lt m _ _ _ hm
  obtain ⟨wh0, u0, xss0, rfl, g0⟩ := opnt.trio_of_trod Try.underlying24 (by kernel_rfl) (by kernel_rfl) Try.underlying3 Try.underlying22 Try.underlying33 Try.underlying3 (by kernel_rfl) (by kernel_rfl) (hval 0 24 v0 rfl rfl) h0
  clear hA0 hval0
  refine (walk wh0 u0 xss0 W g0).mono fun e W' ⟨he, bel⟩ => ?_
  subst he
  exact ⟨_, rfl, _, _, _, [], _, [], hW', trodAll_mk1 (shut_bool Try.underlying4 _), (trodAll_cons_mk (Below.trod laidOut (by kernel_rfl) (of_decide_eq_true (by kernel_rfl)) h0 bel lt0) trodAll_mk0), rfl, bel.frame _, fun h => by cases h⟩

theorem over : Rows.fnExactTripleAgreementsRow.holds Try.pinned (OpenSpec.ofChange Rows.fnExactTripleAgreementsSpec) :=
  OpenClaim.holds_of_wide 9 Try.f9 rfl rfl rfl rfl rfl rfl rfl ⟨rfl, rfl, rfl, rfl, rfl⟩ rfl rfl rfl rfl rfl (by kernel_rfl) Try.func9 (by kernel_rfl)
    (of_decide_eq_true (by kernel_rfl)) (by unfold Func.isWrapper; first | (rw [if_pos (by decide +kernel)]; kernel_rfl) | (rw [if_neg (by decide +kernel)]; exact ⟨rfl, rfl⟩))
    (fun os started H enc _ => lifted os started H enc)

theorem proved : Rows.FnExactTripleAgreementsSaid := over
#print axioms proved
end Go.Proofs.Ytomofmmecpdalaa.lawTripleAgreements
