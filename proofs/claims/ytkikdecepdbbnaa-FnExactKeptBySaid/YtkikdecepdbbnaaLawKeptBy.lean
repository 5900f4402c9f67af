/- Proved here: for all arguments, the law FnExactKeptBy returns true: the program's function answers as its model in every field, leaves its arguments as they were, and its answer owns its memory. Conditions: none beyond the row. -/
import Derived.Test.YtkikdecepdbbnaaScene
import Derived.Test.YtkikdecepdbbnaaSckb
import Derived.Test.YtkikdecepdbbnaaOpens
import Derived.Test.YtkikdecepdbbnaaRows
import Derived.Deep.RegionHeld3
namespace Go.Proofs.Ytkikdecepdbbnaa.lawKeptBy
open Go.ChangeShapes Go.WideShapes Go.ChangeAt Go.RowKit Go.Deep Go.Proofs.Ytkikdecepdbbnaa.base
open Go.ChangeMaps (open_string shut_string)

set_option maxRecDepth 100000 in
set_option maxHeartbeats 4000000 in
theorem walk (x0 : Int) (u0 : Value) (xss0 : List (List Int)) (wv0 : Value) (ws0 : List Int) (v1 : Value) (xs1 : List Int) (w : World) (h0 : scene.GV w wv0 ws0 u0 xss0) (h1 : Ints w v1 xs1) :
    Calls Try.prog 4 #[.agg #[.int .i64 x0, u0, wv0], v1] w fun e w' => e = .returned (.bool true) ∧ Below w.heap.size w w' := by
  obtain ⟨wa0, wn0, wc0, va0, vn0, vc0, rfl, rfl⟩ := h0.shape
  obtain ⟨va1, vc1, hv1⟩ : ∃ A c, v1 = .slice A xs1.length c := by obtain ⟨A, c, hv, _⟩ := h1; exact ⟨A, c, by rw [hv, len_i64s]⟩
  subst hv1
  have H0 := Lib.hid h0
  have H1 := Lib.hid h1
  clear h0 h1
  by_cases hs1 : 1048576 < (xs1.length : Int)
  · skip
    go_enter Try.func4, Try.ntmps4
    have BE0 := Lib.hid (Below.refl w.heap.size w)
    have BE1 := Lib.hid (below_al BE0.out (.cells #[.int .i64 x0, .slice va0 vn0 vc0, .slice wa0 wn0 wc0] 25))
    have KBp01 := Lib.hid (Blk.new w 25 #[.int .i64 x0, .slice va0 vn0 vc0, .slice wa0 wn0 wc0])
    clear BE0
    go_wp2_with fail
    go_ret
    exact ⟨rfl, BE1.out⟩
  have hn1 : xs1.length ≤ 1048576 := by omega
  by_cases hs0 : scene.sz xss0 ws0 (1048576) < 0
  · skip
    go_enter Try.func4, Try.ntmps4
    have BE0 := Lib.hid (Below.refl w.heap.size w)
    have BE2 := Lib.hid (below_al BE0.out (.cells #[.int .i64 x0, .slice va0 vn0 vc0, .slice wa0 wn0 wc0] 25))
    have KBp02 := Lib.hid (Blk.new w 25 #[.int .i64 x0, .slice va0 vn0 vc0, .slice wa0 wn0 wc0])
    clear BE0
    go_wp2_with fail
    refine (scene.sz_any x0 _ xss0 _ ws0 (1048576) _ (H0.out.below BE2.out) (by omega) (by omega)).mono ?_
    rintro e wz3 ⟨rfl, hb⟩
    have BE4 := Lib.hid (below_tr BE2.out hb)
    have KBp04 := Lib.hid (KBp02.out.below hb)
    have ZZ4 : Hid (w.heap.size + 1 ≤ wz3.heap.size) := Lib.hid (by have := (hb).size; simpa using this)
    clear BE2 KBp02
    obtain ⟨p0c0, p0c1, p0c2, p0c3⟩ := scene.three_cells KBp04.out
    clear hb
    go_wp2_with fail
    go_ret
    exact ⟨rfl, BE4.out⟩
  have hq0 := scene.sz_bound hs0
  have hn0 : ws0.length ≤ 1048576 := by omega
  have hm0 : rws.total xss0 ≤ 1048576 := by omega
  go_enter Try.func4, Try.ntmps4
  have BE0 := Lib.hid (Below.refl w.heap.size w)
  have BE5 := Lib.hid (below_al BE0.out (.cells #[.int .i64 x0, .slice va0 vn0 vc0, .slice wa0 wn0 wc0] 25))
  have KBp05 := Lib.hid (Blk.new w 25 #[.int .i64 x0, .slice va0 vn0 vc0, .slice wa0 wn0 wc0])
  clear BE0
  go_wp2_with fail
  refine (scene.sz_any x0 _ xss0 _ ws0 (1048576) _ (H0.out.below BE5.out) (by omega) (by omega)).mono ?_
  rintro e wz6 ⟨rfl, hb⟩
  have BE7 := Lib.hid (below_tr BE5.out hb)
  have KBp07 := Lib.hid (KBp05.out.below hb)
  have ZZ7 : Hid (w.heap.size + 1 ≤ wz6.heap.size) := Lib.hid (by have := (hb).size; simpa using this)
  clear BE5 KBp05
  obtain ⟨p0c0, p0c1, p0c2, p0c3⟩ := scene.three_cells KBp07.out
  clear hb
  go_wp2_with fail
  refine (scene.to_any x0 _ xss0 _ ws0 _ (H0.out.below BE7.out) hn0 hm0).mono ?_
  rintro e wc8 ⟨vs0, us0, rfl, hu, hb⟩
  obtain ⟨s0a, s0n, s0c, s0d, s0m, s0e, rfl, rfl⟩ := hu.view.shape
  clear p0c0 p0c1 p0c2 p0c3
  have BE9 := Lib.hid (below_tr BE7.out hb)
  have KBp09 := Lib.hid (KBp07.out.below hb)
  have ZZ9 : Hid (wz6.heap.size ≤ wc8.heap.size) := Lib.hid (by have := (hb).size; simpa using this)
  clear BE7 KBp07
  obtain ⟨p0c0, p0c1, p0c2, p0c3⟩ := scene.three_cells KBp09.out
  have OWs0 := Lib.hid (hu.mono (B' := wz6.heap.size) (by simp) (Nat.le_refl _))
  clear hu hb
  go_wp2_with fail
  refine (ints.to_any _ xs1 _ (H1.out.below BE9.out) hn1).mono ?_
  rintro e wc10 ⟨us1, rfl, hu, hb⟩
  obtain ⟨s1a, s1n, s1c, rfl⟩ := hu.ints.shape
  clear p0c0 p0c1 p0c2 p0c3
  have BE11 := Lib.hid (below_tr BE9.out hb)
  have OWs011 := Lib.hid (OWs0.out.keep hb)
  have KBp011 := Lib.hid (KBp09.out.below hb)
  have ZZ11 : Hid (wc8.heap.size ≤ wc10.heap.size) := Lib.hid (by have := (hb).size; simpa using this)
  clear BE9 OWs0 KBp09
  obtain ⟨p0c0, p0c1, p0c2, p0c3⟩ := scene.three_cells KBp011.out
  have OWs1 := Lib.hid (hu.mono (B' := wc8.heap.size) (by simp) (Nat.le_refl _))
  clear hu hb
  go_wp2_with fail
  refine (sckb.spec_KeptBy x0 (.slice s0d s0m s0e) xss0 (.slice s0a s0n s0c) ws0 (.slice s1a s1n s1c) xs1 _ OWs011.out.view OWs1.out.ints hm0).mono ?_
  rintro e wf12 ⟨uW, rfl, hu, hb⟩
  obtain ⟨Wa, Wn, Wc, rfl⟩ := hu.shape
  clear p0c0 p0c1 p0c2 p0c3
  have BE13 := Lib.hid (below_tr BE11.out hb)
  have OWs013 := Lib.hid (OWs011.out.keep hb)
  have OWs113 := Lib.hid (OWs1.out.keep hb)
  have KBp013 := Lib.hid (KBp011.out.below hb)
  have ZZ13 : Hid (wc10.heap.size ≤ wf12.heap.size) := Lib.hid (by have := (hb).size; simpa using this)
  clear BE11 OWs011 OWs1 KBp011
  obtain ⟨p0c0, p0c1, p0c2, p0c3⟩ := scene.three_cells KBp013.out
  have VWW := Lib.hid hu
  have HBW := Lib.hid (Below.refl wf12.heap.size wf12)
  clear hu hb
  go_wp2_with fail
  refine (scene.to_any x0 _ xss0 _ ws0 _ (H0.out.below BE13.out) hn0 hm0).mono ?_
  rintro e wc14 ⟨vx0, ux0, rfl, hu, hb⟩
  obtain ⟨x0a, x0n, x0c, x0d, x0m, x0e, rfl, rfl⟩ := hu.view.shape
  clear p0c0 p0c1 p0c2 p0c3
  have BE15 := Lib.hid (below_tr BE13.out hb)
  have HBW15 := Lib.hid (below_tr HBW.out hb)
  have KBp015 := Lib.hid (KBp013.out.below hb)
  have ZZ15 : Hid (wf12.heap.size ≤ wc14.heap.size) := Lib.hid (by have := (hb).size; simpa using this)
  clear BE13 HBW KBp013
  obtain ⟨p0c0, p0c1, p0c2, p0c3⟩ := scene.three_cells KBp015.out
  have OWx0 := Lib.hid (hu.mono (B' := wf12.heap.size) (by simp) (Nat.le_refl _))
  clear hu hb
  go_wp2_with fail
  have BE16 := Lib.hid (below_al BE15.out (.cells #[.int .i64 x0, .slice x0d x0m x0e, .slice x0a x0n x0c] 28))
  have HBW16 := Lib.hid (below_al HBW15.out (.cells #[.int .i64 x0, .slice x0d x0m x0e, .slice x0a x0n x0c] 28))
  have OWx016 := Lib.hid (OWx0.out.keep (below_al (Below.refl _ _) (.cells #[.int .i64 x0, .slice x0d x0m x0e, .slice x0a x0n x0c] 28)))
  have KBp016 := Lib.hid (KBp015.out.alloc (.cells #[.int .i64 x0, .slice x0d x0m x0e, .slice x0a x0n x0c] 28))
  have KBbx016 := Lib.hid (Blk.new wc14 28 #[.int .i64 x0, .slice x0d x0m x0e, .slice x0a x0n x0c])
  clear BE15 HBW15 OWx0 KBp015
  go_wp2_with fail
  refine (ints.to_any _ xs1 _ (H1.out.below BE16.out) hn1).mono ?_
  rintro e wc17 ⟨ux1, rfl, hu, hb⟩
  obtain ⟨x1a, x1n, x1c, rfl⟩ := hu.ints.shape
  clear p0c0 p0c1 p0c2 p0c3
  have BE18 := Lib.hid (below_tr BE16.out hb)
  have HBW18 := Lib.hid (below_tr HBW16.out hb)
  have OWx018 := Lib.hid (OWx016.out.keep hb)
  have KBp018 := Lib.hid (KBp016.out.below hb)
  have KBbx018 := Lib.hid (KBbx016.out.below hb)
  have ZZ18 : Hid (wc14.heap.size + 1 ≤ wc17.heap.size) := Lib.hid (by have := (hb).size; simpa using this)
  clear BE16 HBW16 OWx016 KBp016 KBbx016
  obtain ⟨p0c0, p0c1, p0c2, p0c3⟩ := scene.three_cells KBp018.out
  obtain ⟨bx0c0, bx0c1, bx0c2, bx0c3⟩ := scene.three_cells KBbx018.out
  have OWx1 := Lib.hid (hu.mono (B' := wc14.heap.size + 1) (by simp) (Nat.le_refl _))
  clear hu hb
  go_wp2_with fail
  refine (ptq.impl_KeptBy x0 (.slice x0d x0m x0e) xss0 (.slice x0a x0n x0c) ws0 (.slice x1a x1n x1c) xs1 _ OWx018.out.view OWx1.out.ints hm0).mono ?_
  rintro e wf19 ⟨uG, rfl, hu, hb⟩
  obtain ⟨Ga, Gn, Gc, rfl⟩ := hu.ints.shape
  clear p0c0 p0c1 p0c2 p0c3 bx0c0 bx0c1 bx0c2 bx0c3
  have BE20 := Lib.hid (below_tr BE18.out hb)
  have HBW20 := Lib.hid (below_tr HBW18.out hb)
  have OWx020 := Lib.hid (OWx018.out.keep hb)
  have OWx120 := Lib.hid (OWx1.out.keep hb)
  have KBp020 := Lib.hid (KBp018.out.below hb)
  have KBbx020 := Lib.hid (KBbx018.out.below hb)
  have ZZ20 : Hid (wc17.heap.size ≤ wf19.heap.size) := Lib.hid (by have := (hb).size; simpa using this)
  clear BE18 HBW18 OWx018 OWx1 KBp018 KBbx018
  obtain ⟨p0c0, p0c1, p0c2, p0c3⟩ := scene.three_cells KBp020.out
  obtain ⟨bx0c0, bx0c1, bx0c2, bx0c3⟩ := scene.three_cells KBbx020.out
  have OWG := Lib.hid (hu.mono (B' := wc17.heap.size) (by simp) (Nat.le_refl _))
  clear hu hb
  have tk0 : (((ptq.keptR x0 xss0 ws0 xs1).2) != ((ptq.keptR x0 xss0 ws0 xs1).2)) = false := bne_self_eq_false _
  go_wp2_with fail
  refine (ints.eq_same _ _ ((ptq.keptR x0 xss0 ws0 xs1).1) _ OWG.out.ints (VWW.out.below HBW20.out) (ptq.len_keptR x0 xss0 ws0 xs1)).mono ?_
  rintro e we21 ⟨rfl, hb⟩
  clear p0c0 p0c1 p0c2 p0c3 bx0c0 bx0c1 bx0c2 bx0c3
  have BE22 := Lib.hid (below_tr BE20.out hb)
  have HBW22 := Lib.hid (below_tr HBW20.out hb)
  have OWx022 := Lib.hid (OWx020.out.keep hb)
  have OWx122 := Lib.hid (OWx120.out.keep hb)
  have OWG22 := Lib.hid (OWG.out.keep hb)
  have KBp022 := Lib.hid (KBp020.out.below hb)
  have KBbx022 := Lib.hid (KBbx020.out.below hb)
  have ZZ22 : Hid (wf19.heap.size ≤ we21.heap.size) := Lib.hid (by have := (hb).size; simpa using this)
  clear BE20 HBW20 OWx020 OWx120 OWG KBp020 KBbx020
  obtain ⟨p0c0, p0c1, p0c2, p0c3⟩ := scene.three_cells KBp022.out
  obtain ⟨bx0c0, bx0c1, bx0c2, bx0c3⟩ := scene.three_cells KBbx022.out
  clear hb
  go_wp2_with fail
  have HA := Lib.hid (H0.out.below BE22.out)
  have HX := Lib.hid (OWx022.out.view)
  go_region_held3 (fun w' => w'.cell? ⟨w.heap.size, 0, none⟩ = some (.int .i64 x0) ∧ w'.cell? ⟨w.heap.size, 1, none⟩ = some (.slice va0 vn0 vc0) ∧ w'.cell? ⟨w.heap.size, 2, none⟩ = some (.slice wa0 wn0 wc0) ∧ w'.cell? ⟨wc14.heap.size, 0, none⟩ = some (.int .i64 x0) ∧ w'.cell? ⟨wc14.heap.size, 1, none⟩ = some (.slice x0d x0m x0e) ∧ w'.cell? ⟨wc14.heap.size, 2, none⟩ = some (.slice x0a x0n x0c) ∧ Below we21.heap.size we21 w')
    ((refine scene.held6c p0c0 p0c1 p0c2 bx0c0 bx0c1 bx0c2 ?_; repeat (first | exact Below.refl _ _ | assumption | refine below_dr ?_ | refine below_tr ?_ (by assumption))))
    (first | (go_at_call 17; refine (scene.to_any x0 _ xss0 _ ws0 _ (HA.out.below ?_) hn0 hm0).mono ?_; (simp [*]); rintro e wq ⟨vq, uq, rfl, huq, hbq⟩) | (go_at_call 19; refine (scene.eq_same x0 _ _ xss0 _ _ ws0 _ (HX.out.below (below_tr (below_dr (Below.refl _ _)) hbq)) huq.view hn0 hm0).mono ?_; rintro e wd23 ⟨rfl, hbr⟩))
  have hbt := below_tr (below_tr (below_dr (Below.refl _ _)) hbq) hbr
  clear HA HX huq hbq hbr
  clear p0c0 p0c1 p0c2 p0c3 bx0c0 bx0c1 bx0c2 bx0c3
  have BE24 := Lib.hid (below_tr BE22.out hbt)
  have HBW24 := Lib.hid (below_tr HBW22.out hbt)
  have OWx024 := Lib.hid (OWx022.out.keep hbt)
  have OWx124 := Lib.hid (OWx122.out.keep hbt)
  have OWG24 := Lib.hid (OWG22.out.keep hbt)
  have KBp024 := Lib.hid (KBp022.out.below hbt)
  have KBbx024 := Lib.hid (KBbx022.out.below hbt)
  have ZZ24 : Hid (we21.heap.size ≤ wd23.heap.size) := Lib.hid (by have := (hbt).size; simpa using this)
  clear BE22 HBW22 OWx022 OWx122 OWG22 KBp022 KBbx022
  obtain ⟨p0c0, p0c1, p0c2, p0c3⟩ := scene.three_cells KBp024.out
  obtain ⟨bx0c0, bx0c1, bx0c2, bx0c3⟩ := scene.three_cells KBbx024.out
  clear hbt
  go_wp2_with fail
  go_wp2_with fail
  refine (ints.to_any _ xs1 _ (H1.out.below BE24.out) hn1).mono ?_
  rintro e wc25 ⟨uy1, rfl, hu, hb⟩
  obtain ⟨y1a, y1n, y1c, rfl⟩ := hu.ints.shape
  clear p0c0 p0c1 p0c2 p0c3 bx0c0 bx0c1 bx0c2 bx0c3
  have BE26 := Lib.hid (below_tr BE24.out hb)
  have HBW26 := Lib.hid (below_tr HBW24.out hb)
  have OWx026 := Lib.hid (OWx024.out.keep hb)
  have OWx126 := Lib.hid (OWx124.out.keep hb)
  have OWG26 := Lib.hid (OWG24.out.keep hb)
  have KBp026 := Lib.hid (KBp024.out.below hb)
  have KBbx026 := Lib.hid (KBbx024.out.below hb)
  have ZZ26 : Hid (wd23.heap.size ≤ wc25.heap.size) := Lib.hid (by have := (hb).size; simpa using this)
  clear BE24 HBW24 OWx024 OWx124 OWG24 KBp024 KBbx024
  obtain ⟨p0c0, p0c1, p0c2, p0c3⟩ := scene.three_cells KBp026.out
  obtain ⟨bx0c0, bx0c1, bx0c2, bx0c3⟩ := scene.three_cells KBbx026.out
  have OWy1 := Lib.hid (hu.mono (B' := wd23.heap.size) (by simp) (Nat.le_refl _))
  clear hu hb
  go_wp2_with fail
  refine (ints.eq_same _ _ xs1 _ OWx126.out.ints OWy1.out.ints hn1).mono ?_
  rintro e we27 ⟨rfl, hb⟩
  clear p0c0 p0c1 p0c2 p0c3 bx0c0 bx0c1 bx0c2 bx0c3
  have BE28 := Lib.hid (below_tr BE26.out hb)
  have HBW28 := Lib.hid (below_tr HBW26.out hb)
  have OWx028 := Lib.hid (OWx026.out.keep hb)
  have OWx128 := Lib.hid (OWx126.out.keep hb)
  have OWG28 := Lib.hid (OWG26.out.keep hb)
  have OWy128 := Lib.hid (OWy1.out.keep hb)
  have KBp028 := Lib.hid (KBp026.out.below hb)
  have KBbx028 := Lib.hid (KBbx026.out.below hb)
  have ZZ28 : Hid (wc25.heap.size ≤ we27.heap.size) := Lib.hid (by have := (hb).size; simpa using this)
  clear BE26 HBW26 OWx026 OWx126 OWG26 OWy1 KBp026 KBbx026
  obtain ⟨p0c0, p0c1, p0c2, p0c3⟩ := scene.three_cells KBp028.out
  obtain ⟨bx0c0, bx0c1, bx0c2, bx0c3⟩ := scene.three_cells KBbx028.out
  clear hb
  clear OWy128
  have bl0 := rws.before_le xss0 xss0.length
  go_wp2_with fail
  refine (scene.mark_any x0 _ xss0 _ ws0 (1) (wf12.heap.size) (wc14.heap.size) _ OWx028.out (by have := ZZ7.out; have := ZZ9.out; have := ZZ11.out; have := ZZ13.out; have := ZZ15.out; have := ZZ18.out; have := ZZ20.out; have := ZZ22.out; have := ZZ24.out; have := ZZ26.out; have := ZZ28.out; omega) hn0 hm0 (by omega) (by omega)).mono ?_
  rintro e wm29 ⟨rfl, hi, S, wl30, hb, hw, hs⟩
  clear OWx028
  clear p0c0 p0c1 p0c2 p0c3 bx0c0 bx0c1 bx0c2 bx0c3
  have BE31 := Lib.hid (below_tr BE28.out hb)
  have HBW31 := Lib.hid (below_tr HBW28.out hb)
  have OWx131 := Lib.hid (OWx128.out.keep hb)
  have OWG31 := Lib.hid (OWG28.out.keep hb)
  have KBp031 := Lib.hid (KBp028.out.below hb)
  have KBbx031 := Lib.hid (KBbx028.out.below hb)
  have ZZ31 : Hid (we27.heap.size ≤ wl30.heap.size) := Lib.hid (by have := (hb).size; simpa using this)
  clear BE28 HBW28 OWx128 OWG28 KBp028 KBbx028
  obtain ⟨p0c0, p0c1, p0c2, p0c3⟩ := scene.three_cells KBp031.out
  obtain ⟨bx0c0, bx0c1, bx0c2, bx0c3⟩ := scene.three_cells KBbx031.out
  clear p0c0 p0c1 p0c2 p0c3 bx0c0 bx0c1 bx0c2 bx0c3
  have BE32 := Lib.hid (BE31.out.trans (hw.below (fun p hp => by have := (hs p hp).1; have := ZZ7.out; have := ZZ9.out; have := ZZ11.out; have := ZZ13.out; have := ZZ15.out; have := ZZ18.out; have := ZZ20.out; have := ZZ22.out; have := ZZ24.out; have := ZZ26.out; have := ZZ28.out; have := ZZ31.out; omega)))
  have HBW32 := Lib.hid (HBW31.out.trans (hw.below (fun p hp => by have := (hs p hp).1; have := ZZ7.out; have := ZZ9.out; have := ZZ11.out; have := ZZ13.out; have := ZZ15.out; have := ZZ18.out; have := ZZ20.out; have := ZZ22.out; have := ZZ24.out; have := ZZ26.out; have := ZZ28.out; have := ZZ31.out; omega)))
  have OWx132 := Lib.hid (OWx131.out.wrote hw (fun p hp => by have := hs p hp; have := ZZ7.out; have := ZZ9.out; have := ZZ11.out; have := ZZ13.out; have := ZZ15.out; have := ZZ18.out; have := ZZ20.out; have := ZZ22.out; have := ZZ24.out; have := ZZ26.out; have := ZZ28.out; have := ZZ31.out; omega))
  have OWG32 := Lib.hid (OWG31.out.wrote hw (fun p hp => by have := hs p hp; have := ZZ7.out; have := ZZ9.out; have := ZZ11.out; have := ZZ13.out; have := ZZ15.out; have := ZZ18.out; have := ZZ20.out; have := ZZ22.out; have := ZZ24.out; have := ZZ26.out; have := ZZ28.out; have := ZZ31.out; omega))
  have KBp032 := Lib.hid (KBp031.out.wrote hw (fun p hp e => by have := hs p hp; have := ZZ7.out; have := ZZ9.out; have := ZZ11.out; have := ZZ13.out; have := ZZ15.out; have := ZZ18.out; have := ZZ20.out; have := ZZ22.out; have := ZZ24.out; have := ZZ26.out; have := ZZ28.out; have := ZZ31.out; omega))
  have KBbx032 := Lib.hid (KBbx031.out.wrote hw (fun p hp e => by have := hs p hp; have := ZZ7.out; have := ZZ9.out; have := ZZ11.out; have := ZZ13.out; have := ZZ15.out; have := ZZ18.out; have := ZZ20.out; have := ZZ22.out; have := ZZ24.out; have := ZZ26.out; have := ZZ28.out; have := ZZ31.out; omega))
  have ZZ32 : Hid (wl30.heap.size ≤ wm29.heap.size) := Lib.hid (by have := hw.size; omega)
  clear BE31 HBW31 OWx131 OWG31 KBp031 KBbx031
  obtain ⟨p0c0, p0c1, p0c2, p0c3⟩ := scene.three_cells KBp032.out
  obtain ⟨bx0c0, bx0c1, bx0c2, bx0c3⟩ := scene.three_cells KBbx032.out
  clear hb
  clear hw hs
  clear hi
  go_wp2_with fail
  refine (ints.mark_own _ xs1 (1 + (rws.before xss0 xss0.length : Int) + (ws0.length : Int)) (wc14.heap.size + 1) (wc17.heap.size) _ OWx132.out hn1 (by omega) (by omega)).mono ?_
  rintro e wm33 ⟨rfl, hi, S, hw, hs⟩
  clear OWx132
  clear p0c0 p0c1 p0c2 p0c3 bx0c0 bx0c1 bx0c2 bx0c3
  have BE35 := Lib.hid (BE32.out.trans (hw.below (fun p hp => by have := (hs p hp).1; have := ZZ7.out; have := ZZ9.out; have := ZZ11.out; have := ZZ13.out; have := ZZ15.out; have := ZZ18.out; have := ZZ20.out; have := ZZ22.out; have := ZZ24.out; have := ZZ26.out; have := ZZ28.out; have := ZZ31.out; have := ZZ32.out; omega)))
  have HBW35 := Lib.hid (HBW32.out.trans (hw.below (fun p hp => by have := (hs p hp).1; have := ZZ7.out; have := ZZ9.out; have := ZZ11.out; have := ZZ13.out; have := ZZ15.out; have := ZZ18.out; have := ZZ20.out; have := ZZ22.out; have := ZZ24.out; have := ZZ26.out; have := ZZ28.out; have := ZZ31.out; have := ZZ32.out; omega)))
  have OWG35 := Lib.hid (OWG32.out.wrote hw (fun p hp => by have := hs p hp; have := ZZ7.out; have := ZZ9.out; have := ZZ11.out; have := ZZ13.out; have := ZZ15.out; have := ZZ18.out; have := ZZ20.out; have := ZZ22.out; have := ZZ24.out; have := ZZ26.out; have := ZZ28.out; have := ZZ31.out; have := ZZ32.out; omega))
  have KBp035 := Lib.hid (KBp032.out.wrote hw (fun p hp e => by have := hs p hp; have := ZZ7.out; have := ZZ9.out; have := ZZ11.out; have := ZZ13.out; have := ZZ15.out; have := ZZ18.out; have := ZZ20.out; have := ZZ22.out; have := ZZ24.out; have := ZZ26.out; have := ZZ28.out; have := ZZ31.out; have := ZZ32.out; omega))
  have KBbx035 := Lib.hid (KBbx032.out.wrote hw (fun p hp e => by have := hs p hp; have := ZZ7.out; have := ZZ9.out; have := ZZ11.out; have := ZZ13.out; have := ZZ15.out; have := ZZ18.out; have := ZZ20.out; have := ZZ22.out; have := ZZ24.out; have := ZZ26.out; have := ZZ28.out; have := ZZ31.out; have := ZZ32.out; omega))
  have ZZ35 : Hid (wm29.heap.size ≤ wm33.heap.size) := Lib.hid (by have := hw.size; omega)
  clear BE32 HBW32 OWG32 KBp032 KBbx032
  obtain ⟨p0c0, p0c1, p0c2, p0c3⟩ := scene.three_cells KBp035.out
  obtain ⟨bx0c0, bx0c1, bx0c2, bx0c3⟩ := scene.three_cells KBbx035.out
  clear hw hs
  clear hi
  have dk : decide (1 + (rws.before xss0 xss0.length : Int) + (ws0.length : Int) + (xs1.length : Int) < 0) = false := by simp; omega
  have dk' : ¬ (1 + (rws.before xss0 xss0.length : Int) + (ws0.length : Int) + (xs1.length : Int) < 0) := by omega
  go_wp2_with fail
  refine (ints.eq_same _ _ ((ptq.keptR x0 xss0 ws0 xs1).1) _ OWG35.out.ints (VWW.out.below HBW35.out) (ptq.len_keptR x0 xss0 ws0 xs1)).mono ?_
  rintro e we36 ⟨rfl, hb⟩
  clear p0c0 p0c1 p0c2 p0c3 bx0c0 bx0c1 bx0c2 bx0c3
  have BE37 := Lib.hid (below_tr BE35.out hb)
  have HBW37 := Lib.hid (below_tr HBW35.out hb)
  have OWG37 := Lib.hid (OWG35.out.keep hb)
  have KBp037 := Lib.hid (KBp035.out.below hb)
  have KBbx037 := Lib.hid (KBbx035.out.below hb)
  have ZZ37 : Hid (wm33.heap.size ≤ we36.heap.size) := Lib.hid (by have := (hb).size; simpa using this)
  clear BE35 HBW35 OWG35 KBp035 KBbx035
  obtain ⟨p0c0, p0c1, p0c2, p0c3⟩ := scene.three_cells KBp037.out
  obtain ⟨bx0c0, bx0c1, bx0c2, bx0c3⟩ := scene.three_cells KBbx037.out
  clear hb
  have blr := (ptq.len_keptR x0 xss0 ws0 xs1)
  have dq : ¬ (1 + (((ptq.keptR x0 xss0 ws0 xs1).1).length : Int) < 0) := by omega
  have tq : ((1 + (((ptq.keptR x0 xss0 ws0 xs1).1).length : Int)) != (1 + (((ptq.keptR x0 xss0 ws0 xs1).1).length : Int))) = false := bne_self_eq_false _
  go_wp2_with fail
  refine (ints.mark_own _ ((ptq.keptR x0 xss0 ws0 xs1).1) (1) (wc17.heap.size) (wf19.heap.size) _ OWG37.out (ptq.len_keptR x0 xss0 ws0 xs1) (by omega) (by omega)).mono ?_
  rintro e wm38 ⟨rfl, hi, S, hw, hs⟩
  clear OWG37
  clear p0c0 p0c1 p0c2 p0c3 bx0c0 bx0c1 bx0c2 bx0c3
  have BE40 := Lib.hid (BE37.out.trans (hw.below (fun p hp => by have := (hs p hp).1; have := ZZ7.out; have := ZZ9.out; have := ZZ11.out; have := ZZ13.out; have := ZZ15.out; have := ZZ18.out; have := ZZ20.out; have := ZZ22.out; have := ZZ24.out; have := ZZ26.out; have := ZZ28.out; have := ZZ31.out; have := ZZ32.out; have := ZZ35.out; have := ZZ37.out; omega)))
  have HBW40 := Lib.hid (HBW37.out.trans (hw.below (fun p hp => by have := (hs p hp).1; have := ZZ7.out; have := ZZ9.out; have := ZZ11.out; have := ZZ13.out; have := ZZ15.out; have := ZZ18.out; have := ZZ20.out; have := ZZ22.out; have := ZZ24.out; have := ZZ26.out; have := ZZ28.out; have := ZZ31.out; have := ZZ32.out; have := ZZ35.out; have := ZZ37.out; omega)))
  have KBp040 := Lib.hid (KBp037.out.wrote hw (fun p hp e => by have := hs p hp; have := ZZ7.out; have := ZZ9.out; have := ZZ11.out; have := ZZ13.out; have := ZZ15.out; have := ZZ18.out; have := ZZ20.out; have := ZZ22.out; have := ZZ24.out; have := ZZ26.out; have := ZZ28.out; have := ZZ31.out; have := ZZ32.out; have := ZZ35.out; have := ZZ37.out; omega))
  have KBbx040 := Lib.hid (KBbx037.out.wrote hw (fun p hp e => by have := hs p hp; have := ZZ7.out; have := ZZ9.out; have := ZZ11.out; have := ZZ13.out; have := ZZ15.out; have := ZZ18.out; have := ZZ20.out; have := ZZ22.out; have := ZZ24.out; have := ZZ26.out; have := ZZ28.out; have := ZZ31.out; have := ZZ32.out; have := ZZ35.out; have := ZZ37.out; omega))
  have ZZ40 : Hid (we36.heap.size ≤ wm38.heap.size) := Lib.hid (by have := hw.size; omega)
  clear BE37 HBW37 KBp037 KBbx037
  obtain ⟨p0c0, p0c1, p0c2, p0c3⟩ := scene.three_cells KBp040.out
  obtain ⟨bx0c0, bx0c1, bx0c2, bx0c3⟩ := scene.three_cells KBbx040.out
  clear hw hs
  have VWM := Lib.hid hi
  have HBM := Lib.hid (Below.refl wm38.heap.size wm38)
  clear hi
  go_wp2_with fail
  refine (ints.held_below _ ((ptq.keptR x0 xss0 ws0 xs1).1).length 1 _ (VWM.out.below HBM.out) (ptq.len_keptR x0 xss0 ws0 xs1) (by omega) (by omega)).mono ?_
  rintro e wh41 ⟨rfl, hb⟩
  clear p0c0 p0c1 p0c2 p0c3 bx0c0 bx0c1 bx0c2 bx0c3
  have BE42 := Lib.hid (below_tr BE40.out hb)
  have HBW42 := Lib.hid (below_tr HBW40.out hb)
  have HBM42 := Lib.hid (below_tr HBM.out hb)
  have KBp042 := Lib.hid (KBp040.out.below hb)
  have KBbx042 := Lib.hid (KBbx040.out.below hb)
  have ZZ42 : Hid (wm38.heap.size ≤ wh41.heap.size) := Lib.hid (by have := (hb).size; simpa using this)
  clear BE40 HBW40 HBM KBp040 KBbx040
  obtain ⟨p0c0, p0c1, p0c2, p0c3⟩ := scene.three_cells KBp042.out
  obtain ⟨bx0c0, bx0c1, bx0c2, bx0c3⟩ := scene.three_cells KBbx042.out
  clear hb
  go_wp2_with fail
  refine (scene.to_any x0 _ xss0 _ ws0 _ (H0.out.below BE42.out) hn0 hm0).mono ?_
  rintro e wc43 ⟨vz0, uz0, rfl, hu, hb⟩
  obtain ⟨z0a, z0n, z0c, z0d, z0m, z0e, rfl, rfl⟩ := hu.view.shape
  clear p0c0 p0c1 p0c2 p0c3 bx0c0 bx0c1 bx0c2 bx0c3
  have BE44 := Lib.hid (below_tr BE42.out hb)
  have HBW44 := Lib.hid (below_tr HBW42.out hb)
  have HBM44 := Lib.hid (below_tr HBM42.out hb)
  have KBp044 := Lib.hid (KBp042.out.below hb)
  have KBbx044 := Lib.hid (KBbx042.out.below hb)
  have ZZ44 : Hid (wh41.heap.size ≤ wc43.heap.size) := Lib.hid (by have := (hb).size; simpa using this)
  clear BE42 HBW42 HBM42 KBp042 KBbx042
  obtain ⟨p0c0, p0c1, p0c2, p0c3⟩ := scene.three_cells KBp044.out
  obtain ⟨bx0c0, bx0c1, bx0c2, bx0c3⟩ := scene.three_cells KBbx044.out
  have OWz0 := Lib.hid (hu.mono (B' := wh41.heap.size) (by simp) (Nat.le_refl _))
  clear hu hb
  go_wp2_with fail
  refine (ints.to_any _ xs1 _ (H1.out.below BE44.out) hn1).mono ?_
  rintro e wc45 ⟨uz1, rfl, hu, hb⟩
  obtain ⟨z1a, z1n, z1c, rfl⟩ := hu.ints.shape
  clear p0c0 p0c1 p0c2 p0c3 bx0c0 bx0c1 bx0c2 bx0c3
  have BE46 := Lib.hid (below_tr BE44.out hb)
  have HBW46 := Lib.hid (below_tr HBW44.out hb)
  have HBM46 := Lib.hid (below_tr HBM44.out hb)
  have OWz046 := Lib.hid (OWz0.out.keep hb)
  have KBp046 := Lib.hid (KBp044.out.below hb)
  have KBbx046 := Lib.hid (KBbx044.out.below hb)
  have ZZ46 : Hid (wc43.heap.size ≤ wc45.heap.size) := Lib.hid (by have := (hb).size; simpa using this)
  clear BE44 HBW44 HBM44 OWz0 KBp044 KBbx044
  obtain ⟨p0c0, p0c1, p0c2, p0c3⟩ := scene.three_cells KBp046.out
  obtain ⟨bx0c0, bx0c1, bx0c2, bx0c3⟩ := scene.three_cells KBbx046.out
  have OWz1 := Lib.hid (hu.mono (B' := wc43.heap.size) (by simp) (Nat.le_refl _))
  clear hu hb
  go_wp2_with fail
  refine (ptq.impl_KeptBy x0 (.slice z0d z0m z0e) xss0 (.slice z0a z0n z0c) ws0 (.slice z1a z1n z1c) xs1 _ OWz046.out.view OWz1.out.ints hm0).mono ?_
  rintro e wf47 ⟨uHh, rfl, hu, hb⟩
  obtain ⟨Hha, Hhn, Hhc, rfl⟩ := hu.ints.shape
  clear p0c0 p0c1 p0c2 p0c3 bx0c0 bx0c1 bx0c2 bx0c3
  have BE48 := Lib.hid (below_tr BE46.out hb)
  have HBW48 := Lib.hid (below_tr HBW46.out hb)
  have HBM48 := Lib.hid (below_tr HBM46.out hb)
  have OWz048 := Lib.hid (OWz046.out.keep hb)
  have OWz148 := Lib.hid (OWz1.out.keep hb)
  have KBp048 := Lib.hid (KBp046.out.below hb)
  have KBbx048 := Lib.hid (KBbx046.out.below hb)
  have ZZ48 : Hid (wc45.heap.size ≤ wf47.heap.size) := Lib.hid (by have := (hb).size; simpa using this)
  clear BE46 HBW46 HBM46 OWz046 OWz1 KBp046 KBbx046
  obtain ⟨p0c0, p0c1, p0c2, p0c3⟩ := scene.three_cells KBp048.out
  obtain ⟨bx0c0, bx0c1, bx0c2, bx0c3⟩ := scene.three_cells KBbx048.out
  have OWHh := Lib.hid (hu.mono (B' := wc45.heap.size) (by simp) (Nat.le_refl _))
  clear hu hb
  clear OWz048
  clear OWz148
  go_wp2_with fail
  refine (ints.eq_same _ _ ((ptq.keptR x0 xss0 ws0 xs1).1) _ OWHh.out.ints (VWW.out.below HBW48.out) (ptq.len_keptR x0 xss0 ws0 xs1)).mono ?_
  rintro e we49 ⟨rfl, hb⟩
  clear p0c0 p0c1 p0c2 p0c3 bx0c0 bx0c1 bx0c2 bx0c3
  have BE50 := Lib.hid (below_tr BE48.out hb)
  have HBW50 := Lib.hid (below_tr HBW48.out hb)
  have HBM50 := Lib.hid (below_tr HBM48.out hb)
  have OWHh50 := Lib.hid (OWHh.out.keep hb)
  have KBp050 := Lib.hid (KBp048.out.below hb)
  have KBbx050 := Lib.hid (KBbx048.out.below hb)
  have ZZ50 : Hid (wf47.heap.size ≤ we49.heap.size) := Lib.hid (by have := (hb).size; simpa using this)
  clear BE48 HBW48 HBM48 OWHh KBp048 KBbx048
  obtain ⟨p0c0, p0c1, p0c2, p0c3⟩ := scene.three_cells KBp050.out
  obtain ⟨bx0c0, bx0c1, bx0c2, bx0c3⟩ := scene.three_cells KBbx050.out
  clear hb
  go_wp2_with fail
  refine (ints.held_below _ ((ptq.keptR x0 xss0 ws0 xs1).1).length 1 _ (VWM.out.below HBM50.out) (ptq.len_keptR x0 xss0 ws0 xs1) (by omega) (by omega)).mono ?_
  rintro e wh51 ⟨rfl, hb⟩
  clear p0c0 p0c1 p0c2 p0c3 bx0c0 bx0c1 bx0c2 bx0c3
  have BE52 := Lib.hid (below_tr BE50.out hb)
  have HBW52 := Lib.hid (below_tr HBW50.out hb)
  have HBM52 := Lib.hid (below_tr HBM50.out hb)
  have OWHh52 := Lib.hid (OWHh50.out.keep hb)
  have KBp052 := Lib.hid (KBp050.out.below hb)
  have KBbx052 := Lib.hid (KBbx050.out.below hb)
  have ZZ52 : Hid (we49.heap.size ≤ wh51.heap.size) := Lib.hid (by have := (hb).size; simpa using this)
  clear BE50 HBW50 HBM50 OWHh50 KBp050 KBbx050
  obtain ⟨p0c0, p0c1, p0c2, p0c3⟩ := scene.three_cells KBp052.out
  obtain ⟨bx0c0, bx0c1, bx0c2, bx0c3⟩ := scene.three_cells KBbx052.out
  clear hb
  go_wp2_with fail
  go_ret
  exact ⟨rfl, BE52.out⟩

/-! ### the frame of the row -/
theorem own : ownKnob Try.prog.godebug = none := by kernel_rfl
theorem laidOut : laidOutB Try.prog = true := by kernel_rfl
set_option maxRecDepth 100000 in
theorem lifted (os : Os) (started : os.Started) (H : Type) (enc : TypeId × Value → H) :
    ReturnsInHanded {} Try.checked os 4 .any (Rows.fnExactKeptBySpec.pre6 enc Try.prog Try.f4 Rows.fnExactKeptByRow.domain false) (Rows.fnExactKeptBySpec.post enc Try.prog Try.f4 false true false false) := by
  refine returnsInHanded_of_change (C := Try.checked) own started (by kernel_rfl) Try.func4
    (ChangeSpec.witness6 (enc := enc) (C := Try.checked) false ⟨#[], #[.agg #[.int .i64 0, .slice none 0 0, .slice none 0 0], .slice none 0 0], []⟩ 8 (by kernel_rfl) (by kernel_rfl) (by kernel_rfl) (by kernel_rfl)) ?_
  intro W base args ds gs before hval0 hW _ _
  have hval : ∀ (j : Nat) t v, Try.f4.params[j]? = some t → args[j]? = some v → Value.okWide Try.prog W .any base t v := hval0
  have hW' := hW
  obtain ⟨p, q, hA0, hV, rfl, hfz, hnd⟩ := hW
  have hA : DataW.TrodAll enc Try.prog W 0 (fun _ => true) true Try.f4.params.toList args.toList ds p := hA0
  rw [Try.params4] at hA hval
  obtain ⟨v0, vs0, d0, ds0, p0, q0, hargs, rfl, rfl, h0, r0⟩ := trodAll_cons hA
  obtain ⟨v1, vs1, d1, ds1, p1, q1, rfl, rfl, rfl, h1, r1⟩ := trodAll_cons r0
  obtain ⟨rfl, rfl, rfl⟩ := trodAll_nil r1
  obtain rfl : args = #[v0, v1] := by cases args; simp_all
  obtain ⟨rfl, rfl⟩ := trodVars_none hV
  have lt0 : ∀ x ∈ p0, x.block < W.heap.size := by obtain ⟨m, hm⟩ := h0; exact DataW.trod_lt m _ _ _ hm
  obtain ⟨x0, u0, xss0, wv0, ws0, rfl, g10, g20⟩ := opns.scene_of_trod Try.underlying25 (by kernel_rfl) (by kernel_rfl) Try.underlying3 Try.underlying22 Try.underlying23 Try.underlying23 Try.underlying3 (by kernel_rfl) (by kernel_rfl) (hval 0 25 v0 rfl rfl) h0
  have g0 : scene.GV W wv0 ws0 u0 xss0 := ⟨g10, g20⟩
  have lt1 : ∀ x ∈ p1, x.block < W.heap.size := by obtain ⟨m, hm⟩ := h1; exact DataW.trod_lt m _ _ _ hm
  obtain ⟨xs1, g1⟩ := opn.ints_of_trod Try.underlying23 Try.underlying3 (by kernel_rfl) (hval 1 23 v1 rfl rfl) h1
  clear hA0 hval0
  refine (walk x0 u0 xss0 wv0 ws0 v1 xs1 W g0 g1).mono fun e W' ⟨he, bel⟩ => ?_
  subst he
  exact ⟨_, rfl, _, _, _, [], _, [], hW', trodAll_mk1 (shut_bool Try.underlying4 _), (trodAll_cons_mk (Below.trod laidOut (by kernel_rfl) (of_decide_eq_true (by kernel_rfl)) h0 bel lt0) (trodAll_cons_mk (Below.trod laidOut (by kernel_rfl) (of_decide_eq_true (by kernel_rfl)) h1 bel lt1) trodAll_mk0)), rfl, bel.frame _, fun h => by cases h⟩

theorem over : Rows.fnExactKeptByRow.holds Try.pinned (OpenSpec.ofChange Rows.fnExactKeptBySpec) :=
  OpenClaim.holds_of_wide 4 Try.f4 rfl rfl rfl rfl rfl rfl rfl ⟨rfl, rfl, rfl, rfl, rfl⟩ rfl rfl rfl rfl rfl (by kernel_rfl) Try.func4 (by kernel_rfl)
    (of_decide_eq_true (by kernel_rfl)) (by unfold Func.isWrapper; first | (rw [if_pos (by decide +kernel)]; kernel_rfl) | (rw [if_neg (by decide +kernel)]; exact ⟨rfl, rfl⟩))
    (fun os started H enc _ => lifted os started H enc)

theorem proved : Rows.FnExactKeptBySaid := over
#print axioms proved
end Go.Proofs.Ytkikdecepdbbnaa.lawKeptBy
