/- Proved here: for all arguments, the law FnExactPlayThrough returns true: the program's function answers as its model in every field, leaves its arguments as they were, and its answer owns its memory. Conditions: none beyond the row. -/
import Derived.Test.YtneonebgneonkaaRule
import Derived.Test.YtneonebgneonkaaThr
import Derived.Test.YtneonebgneonkaaOpenr
import Derived.Test.YtneonebgneonkaaRows
import Derived.Deep.RegionHeld3
namespace Go.Proofs.Ytneonebgneonkaa.lawPlayThrough
open Go.ChangeShapes Go.WideShapes Go.ChangeAt Go.RowKit Go.Deep Go.Proofs.Ytneonebgneonkaa.base
open Go.ChangeMaps (open_string shut_string)

set_option maxRecDepth 100000 in
set_option maxHeartbeats 4000000 in
theorem walk (sv0 : Value) (ss0 : List Int) (u0 : Value) (xss0 : List (List Int)) (nv0 : Value) (yss0 : List (List Int)) (v1 : Value) (xs1 : List Int) (v2 : Value) (xs2 : List Int) (w : World) (h0 : rule.RV w sv0 ss0 u0 xss0 nv0 yss0) (h1 : Ints w v1 xs1) (h2 : Ints w v2 xs2) :
    Calls Try.prog 7 #[.agg #[sv0, u0, nv0], v1, v2] w fun e w' => e = .returned (.bool true) ∧ Below w.heap.size w w' := by
  obtain ⟨wa0, wn0, wc0, va0, vn0, vc0, na0, nn0, nc0, rfl, rfl, rfl⟩ := h0.shape
  obtain ⟨va1, vc1, hv1⟩ : ∃ A c, v1 = .slice A xs1.length c := by obtain ⟨A, c, hv, _⟩ := h1; exact ⟨A, c, by rw [hv, len_i64s]⟩
  subst hv1
  obtain ⟨va2, vc2, hv2⟩ : ∃ A c, v2 = .slice A xs2.length c := by obtain ⟨A, c, hv, _⟩ := h2; exact ⟨A, c, by rw [hv, len_i64s]⟩
  subst hv2
  have H0 := Lib.hid h0
  have H1 := Lib.hid h1
  have H2 := Lib.hid h2
  clear h0 h1 h2
  by_cases hs1 : 1048576 < (xs1.length : Int)
  · skip
    go_enter Try.func7, Try.ntmps7
    have BE0 := Lib.hid (Below.refl w.heap.size w)
    have BE1 := Lib.hid (below_al BE0.out (.cells #[.slice wa0 wn0 wc0, .slice va0 vn0 vc0, .slice na0 nn0 nc0] 25))
    have KBp01 := Lib.hid (Blk.new w 25 #[.slice wa0 wn0 wc0, .slice va0 vn0 vc0, .slice na0 nn0 nc0])
    clear BE0
    go_wp2_with fail
    go_ret
    exact ⟨rfl, BE1.out⟩
  have hn1 : xs1.length ≤ 1048576 := by omega
  by_cases hs2 : 1048576 < (xs2.length : Int)
  · skip
    go_enter Try.func7, Try.ntmps7
    have BE0 := Lib.hid (Below.refl w.heap.size w)
    have BE2 := Lib.hid (below_al BE0.out (.cells #[.slice wa0 wn0 wc0, .slice va0 vn0 vc0, .slice na0 nn0 nc0] 25))
    have KBp02 := Lib.hid (Blk.new w 25 #[.slice wa0 wn0 wc0, .slice va0 vn0 vc0, .slice na0 nn0 nc0])
    clear BE0
    go_wp2_with fail
    go_ret
    exact ⟨rfl, BE2.out⟩
  have hn2 : xs2.length ≤ 1048576 := by omega
  by_cases hs0 : rule.sz ss0 xss0 yss0 (1048576) < 0
  · skip
    go_enter Try.func7, Try.ntmps7
    have BE0 := Lib.hid (Below.refl w.heap.size w)
    have BE3 := Lib.hid (below_al BE0.out (.cells #[.slice wa0 wn0 wc0, .slice va0 vn0 vc0, .slice na0 nn0 nc0] 25))
    have KBp03 := Lib.hid (Blk.new w 25 #[.slice wa0 wn0 wc0, .slice va0 vn0 vc0, .slice na0 nn0 nc0])
    clear BE0
    go_wp2_with fail
    refine (rule.sz_any _ ss0 _ xss0 _ yss0 (1048576) _ (H0.out.below BE3.out) (by omega) (by omega)).mono ?_
    rintro e wz4 ⟨rfl, hb⟩
    have BE5 := Lib.hid (below_tr BE3.out hb)
    have KBp05 := Lib.hid (KBp03.out.below hb)
    have ZZ5 : Hid (w.heap.size + 1 ≤ wz4.heap.size) := Lib.hid (by have := (hb).size; simpa using this)
    clear BE3 KBp03
    obtain ⟨p0c0, p0c1, p0c2, p0c3⟩ := scene.three_cells KBp05.out
    clear hb
    go_wp2_with fail
    go_ret
    exact ⟨rfl, BE5.out⟩
  have hq0 := rule.sz_bound hs0
  have hn0 : ss0.length ≤ 1048576 := by omega
  have hm0 : rws.total xss0 ≤ 1048576 := by omega
  have hk0 : rws.total yss0 ≤ 1048576 := by omega
  go_enter Try.func7, Try.ntmps7
  have BE0 := Lib.hid (Below.refl w.heap.size w)
  have BE6 := Lib.hid (below_al BE0.out (.cells #[.slice wa0 wn0 wc0, .slice va0 vn0 vc0, .slice na0 nn0 nc0] 25))
  have KBp06 := Lib.hid (Blk.new w 25 #[.slice wa0 wn0 wc0, .slice va0 vn0 vc0, .slice na0 nn0 nc0])
  clear BE0
  go_wp2_with fail
  refine (rule.sz_any _ ss0 _ xss0 _ yss0 (1048576) _ (H0.out.below BE6.out) (by omega) (by omega)).mono ?_
  rintro e wz7 ⟨rfl, hb⟩
  have BE8 := Lib.hid (below_tr BE6.out hb)
  have KBp08 := Lib.hid (KBp06.out.below hb)
  have ZZ8 : Hid (w.heap.size + 1 ≤ wz7.heap.size) := Lib.hid (by have := (hb).size; simpa using this)
  clear BE6 KBp06
  obtain ⟨p0c0, p0c1, p0c2, p0c3⟩ := scene.three_cells KBp08.out
  clear hb
  go_wp2_with fail
  refine (rule.to_any _ ss0 _ xss0 _ yss0 _ (H0.out.below BE8.out) hn0 hm0 hk0).mono ?_
  rintro e wc9 ⟨vs0, us0, ns0, rfl, hu, hb⟩
  obtain ⟨s0a, s0n, s0c, s0d, s0m, s0e, s0f, s0o, s0g, rfl, rfl, rfl⟩ := hu.view.shape
  clear p0c0 p0c1 p0c2 p0c3
  have BE10 := Lib.hid (below_tr BE8.out hb)
  have KBp010 := Lib.hid (KBp08.out.below hb)
  have ZZ10 : Hid (wz7.heap.size ≤ wc9.heap.size) := Lib.hid (by have := (hb).size; simpa using this)
  clear BE8 KBp08
  obtain ⟨p0c0, p0c1, p0c2, p0c3⟩ := scene.three_cells KBp010.out
  have OWs0 := Lib.hid (hu.mono (B' := wz7.heap.size) (by simp) (Nat.le_refl _))
  clear hu hb
  go_wp2_with fail
  refine (ints.to_any _ xs1 _ (H1.out.below BE10.out) hn1).mono ?_
  rintro e wc11 ⟨us1, rfl, hu, hb⟩
  obtain ⟨s1a, s1n, s1c, rfl⟩ := hu.ints.shape
  clear p0c0 p0c1 p0c2 p0c3
  have BE12 := Lib.hid (below_tr BE10.out hb)
  have OWs012 := Lib.hid (OWs0.out.keep hb)
  have KBp012 := Lib.hid (KBp010.out.below hb)
  have ZZ12 : Hid (wc9.heap.size ≤ wc11.heap.size) := Lib.hid (by have := (hb).size; simpa using this)
  clear BE10 OWs0 KBp010
  obtain ⟨p0c0, p0c1, p0c2, p0c3⟩ := scene.three_cells KBp012.out
  have OWs1 := Lib.hid (hu.mono (B' := wc9.heap.size) (by simp) (Nat.le_refl _))
  clear hu hb
  go_wp2_with fail
  refine (ints.to_any _ xs2 _ (H2.out.below BE12.out) hn2).mono ?_
  rintro e wc13 ⟨us2, rfl, hu, hb⟩
  obtain ⟨s2a, s2n, s2c, rfl⟩ := hu.ints.shape
  clear p0c0 p0c1 p0c2 p0c3
  have BE14 := Lib.hid (below_tr BE12.out hb)
  have OWs014 := Lib.hid (OWs012.out.keep hb)
  have OWs114 := Lib.hid (OWs1.out.keep hb)
  have KBp014 := Lib.hid (KBp012.out.below hb)
  have ZZ14 : Hid (wc11.heap.size ≤ wc13.heap.size) := Lib.hid (by have := (hb).size; simpa using this)
  clear BE12 OWs012 OWs1 KBp012
  obtain ⟨p0c0, p0c1, p0c2, p0c3⟩ := scene.three_cells KBp014.out
  have OWs2 := Lib.hid (hu.mono (B' := wc11.heap.size) (by simp) (Nat.le_refl _))
  clear hu hb
  go_wp2_with fail
  refine (thr.spec_any (.slice s0a s0n s0c) ss0 (.slice s0d s0m s0e) xss0 (.slice s0f s0o s0g) yss0 (.slice s1a s1n s1c) xs1 (.slice s2a s2n s2c) xs2 _ OWs014.out.view OWs114.out.ints OWs2.out.ints).mono ?_
  rintro e wf15 ⟨uW, rfl, hu, hb⟩
  obtain ⟨Wa, Wn, Wc, rfl⟩ := hu.shape
  clear p0c0 p0c1 p0c2 p0c3
  have BE16 := Lib.hid (below_tr BE14.out hb)
  have OWs016 := Lib.hid (OWs014.out.keep hb)
  have OWs116 := Lib.hid (OWs114.out.keep hb)
  have OWs216 := Lib.hid (OWs2.out.keep hb)
  have KBp016 := Lib.hid (KBp014.out.below hb)
  have ZZ16 : Hid (wc13.heap.size ≤ wf15.heap.size) := Lib.hid (by have := (hb).size; simpa using this)
  clear BE14 OWs014 OWs114 OWs2 KBp014
  obtain ⟨p0c0, p0c1, p0c2, p0c3⟩ := scene.three_cells KBp016.out
  have VWW := Lib.hid hu
  have HBW := Lib.hid (Below.refl wf15.heap.size wf15)
  clear hu hb
  go_wp2_with fail
  refine (rule.to_any _ ss0 _ xss0 _ yss0 _ (H0.out.below BE16.out) hn0 hm0 hk0).mono ?_
  rintro e wc17 ⟨vx0, ux0, nx0, rfl, hu, hb⟩
  obtain ⟨x0a, x0n, x0c, x0d, x0m, x0e, x0f, x0o, x0g, rfl, rfl, rfl⟩ := hu.view.shape
  clear p0c0 p0c1 p0c2 p0c3
  have BE18 := Lib.hid (below_tr BE16.out hb)
  have HBW18 := Lib.hid (below_tr HBW.out hb)
  have KBp018 := Lib.hid (KBp016.out.below hb)
  have ZZ18 : Hid (wf15.heap.size ≤ wc17.heap.size) := Lib.hid (by have := (hb).size; simpa using this)
  clear BE16 HBW KBp016
  obtain ⟨p0c0, p0c1, p0c2, p0c3⟩ := scene.three_cells KBp018.out
  have OWx0 := Lib.hid (hu.mono (B' := wf15.heap.size) (by simp) (Nat.le_refl _))
  clear hu hb
  go_wp2_with fail
  have BE19 := Lib.hid (below_al BE18.out (.cells #[.slice x0a x0n x0c, .slice x0d x0m x0e, .slice x0f x0o x0g] 28))
  have HBW19 := Lib.hid (below_al HBW18.out (.cells #[.slice x0a x0n x0c, .slice x0d x0m x0e, .slice x0f x0o x0g] 28))
  have OWx019 := Lib.hid (OWx0.out.keep (below_al (Below.refl _ _) (.cells #[.slice x0a x0n x0c, .slice x0d x0m x0e, .slice x0f x0o x0g] 28)))
  have KBp019 := Lib.hid (KBp018.out.alloc (.cells #[.slice x0a x0n x0c, .slice x0d x0m x0e, .slice x0f x0o x0g] 28))
  have KBbx019 := Lib.hid (Blk.new wc17 28 #[.slice x0a x0n x0c, .slice x0d x0m x0e, .slice x0f x0o x0g])
  clear BE18 HBW18 OWx0 KBp018
  go_wp2_with fail
  refine (ints.to_any _ xs1 _ (H1.out.below BE19.out) hn1).mono ?_
  rintro e wc20 ⟨ux1, rfl, hu, hb⟩
  obtain ⟨x1a, x1n, x1c, rfl⟩ := hu.ints.shape
  clear p0c0 p0c1 p0c2 p0c3
  have BE21 := Lib.hid (below_tr BE19.out hb)
  have HBW21 := Lib.hid (below_tr HBW19.out hb)
  have OWx021 := Lib.hid (OWx019.out.keep hb)
  have KBp021 := Lib.hid (KBp019.out.below hb)
  have KBbx021 := Lib.hid (KBbx019.out.below hb)
  have ZZ21 : Hid (wc17.heap.size + 1 ≤ wc20.heap.size) := Lib.hid (by have := (hb).size; simpa using this)
  clear BE19 HBW19 OWx019 KBp019 KBbx019
  obtain ⟨p0c0, p0c1, p0c2, p0c3⟩ := scene.three_cells KBp021.out
  obtain ⟨bx0c0, bx0c1, bx0c2, bx0c3⟩ := scene.three_cells KBbx021.out
  have OWx1 := Lib.hid (hu.mono (B' := wc17.heap.size + 1) (by simp) (Nat.le_refl _))
  clear hu hb
  go_wp2_with fail
  refine (ints.to_any _ xs2 _ (H2.out.below BE21.out) hn2).mono ?_
  rintro e wc22 ⟨ux2, rfl, hu, hb⟩
  obtain ⟨x2a, x2n, x2c, rfl⟩ := hu.ints.shape
  clear p0c0 p0c1 p0c2 p0c3 bx0c0 bx0c1 bx0c2 bx0c3
  have BE23 := Lib.hid (below_tr BE21.out hb)
  have HBW23 := Lib.hid (below_tr HBW21.out hb)
  have OWx023 := Lib.hid (OWx021.out.keep hb)
  have OWx123 := Lib.hid (OWx1.out.keep hb)
  have KBp023 := Lib.hid (KBp021.out.below hb)
  have KBbx023 := Lib.hid (KBbx021.out.below hb)
  have ZZ23 : Hid (wc20.heap.size ≤ wc22.heap.size) := Lib.hid (by have := (hb).size; simpa using this)
  clear BE21 HBW21 OWx021 OWx1 KBp021 KBbx021
  obtain ⟨p0c0, p0c1, p0c2, p0c3⟩ := scene.three_cells KBp023.out
  obtain ⟨bx0c0, bx0c1, bx0c2, bx0c3⟩ := scene.three_cells KBbx023.out
  have OWx2 := Lib.hid (hu.mono (B' := wc20.heap.size) (by simp) (Nat.le_refl _))
  clear hu hb
  go_wp2_with fail
  refine (thr.impl_any (.slice x0a x0n x0c) ss0 (.slice x0d x0m x0e) xss0 (.slice x0f x0o x0g) yss0 (.slice x1a x1n x1c) xs1 (.slice x2a x2n x2c) xs2 _ OWx023.out.view OWx123.out.ints OWx2.out.ints).mono ?_
  rintro e wf24 ⟨uG, rfl, hu, hb⟩
  obtain ⟨Ga, Gn, Gc, rfl⟩ := hu.ints.shape
  clear p0c0 p0c1 p0c2 p0c3 bx0c0 bx0c1 bx0c2 bx0c3
  have BE25 := Lib.hid (below_tr BE23.out hb)
  have HBW25 := Lib.hid (below_tr HBW23.out hb)
  have OWx025 := Lib.hid (OWx023.out.keep hb)
  have OWx125 := Lib.hid (OWx123.out.keep hb)
  have OWx225 := Lib.hid (OWx2.out.keep hb)
  have KBp025 := Lib.hid (KBp023.out.below hb)
  have KBbx025 := Lib.hid (KBbx023.out.below hb)
  have ZZ25 : Hid (wc22.heap.size ≤ wf24.heap.size) := Lib.hid (by have := (hb).size; simpa using this)
  clear BE23 HBW23 OWx023 OWx123 OWx2 KBp023 KBbx023
  obtain ⟨p0c0, p0c1, p0c2, p0c3⟩ := scene.three_cells KBp025.out
  obtain ⟨bx0c0, bx0c1, bx0c2, bx0c3⟩ := scene.three_cells KBbx025.out
  have OWG := Lib.hid (hu.mono (B' := wc22.heap.size) (by simp) (Nat.le_refl _))
  clear hu hb
  have tk0 : (((thr.res ss0 xss0 yss0 xs1 xs2).2) != ((thr.res ss0 xss0 yss0 xs1 xs2).2)) = false := bne_self_eq_false _
  go_wp2_with fail
  refine (ints.eq_same _ _ ((thr.res ss0 xss0 yss0 xs1 xs2).1) _ OWG.out.ints (VWW.out.below HBW25.out) (thr.len_res ss0 xss0 yss0 xs1 xs2)).mono ?_
  rintro e we26 ⟨rfl, hb⟩
  clear p0c0 p0c1 p0c2 p0c3 bx0c0 bx0c1 bx0c2 bx0c3
  have BE27 := Lib.hid (below_tr BE25.out hb)
  have HBW27 := Lib.hid (below_tr HBW25.out hb)
  have OWx027 := Lib.hid (OWx025.out.keep hb)
  have OWx127 := Lib.hid (OWx125.out.keep hb)
  have OWx227 := Lib.hid (OWx225.out.keep hb)
  have OWG27 := Lib.hid (OWG.out.keep hb)
  have KBp027 := Lib.hid (KBp025.out.below hb)
  have KBbx027 := Lib.hid (KBbx025.out.below hb)
  have ZZ27 : Hid (wf24.heap.size ≤ we26.heap.size) := Lib.hid (by have := (hb).size; simpa using this)
  clear BE25 HBW25 OWx025 OWx125 OWx225 OWG KBp025 KBbx025
  obtain ⟨p0c0, p0c1, p0c2, p0c3⟩ := scene.three_cells KBp027.out
  obtain ⟨bx0c0, bx0c1, bx0c2, bx0c3⟩ := scene.three_cells KBbx027.out
  clear hb
  go_wp2_with fail
  have HA := Lib.hid (H0.out.below BE27.out)
  have HX := Lib.hid (OWx027.out.view)
  go_region_held3 (fun w' => w'.cell? ⟨w.heap.size, 0, none⟩ = some (.slice wa0 wn0 wc0) ∧ w'.cell? ⟨w.heap.size, 1, none⟩ = some (.slice va0 vn0 vc0) ∧ w'.cell? ⟨w.heap.size, 2, none⟩ = some (.slice na0 nn0 nc0) ∧ w'.cell? ⟨wc17.heap.size, 0, none⟩ = some (.slice x0a x0n x0c) ∧ w'.cell? ⟨wc17.heap.size, 1, none⟩ = some (.slice x0d x0m x0e) ∧ w'.cell? ⟨wc17.heap.size, 2, none⟩ = some (.slice x0f x0o x0g) ∧ Below we26.heap.size we26 w')
    ((refine scene.held6c p0c0 p0c1 p0c2 bx0c0 bx0c1 bx0c2 ?_; repeat (first | exact Below.refl _ _ | assumption | refine below_dr ?_ | refine below_tr ?_ (by assumption))))
    (first | (go_at_call 17; refine (rule.to_any _ ss0 _ xss0 _ yss0 _ (HA.out.below ?_) hn0 hm0 hk0).mono ?_; (simp [*]); rintro e wq ⟨vq, uq, nq, rfl, huq, hbq⟩) | (go_at_call 19; refine (rule.eq_same _ _ ss0 _ _ xss0 _ _ yss0 _ (HX.out.below (below_tr (below_dr (Below.refl _ _)) hbq)) huq.view hn0 hm0 hk0).mono ?_; rintro e wd28 ⟨rfl, hbr⟩))
  have hbt := below_tr (below_tr (below_dr (Below.refl _ _)) hbq) hbr
  clear HA HX huq hbq hbr
  clear p0c0 p0c1 p0c2 p0c3 bx0c0 bx0c1 bx0c2 bx0c3
  have BE29 := Lib.hid (below_tr BE27.out hbt)
  have HBW29 := Lib.hid (below_tr HBW27.out hbt)
  have OWx029 := Lib.hid (OWx027.out.keep hbt)
  have OWx129 := Lib.hid (OWx127.out.keep hbt)
  have OWx229 := Lib.hid (OWx227.out.keep hbt)
  have OWG29 := Lib.hid (OWG27.out.keep hbt)
  have KBp029 := Lib.hid (KBp027.out.below hbt)
  have KBbx029 := Lib.hid (KBbx027.out.below hbt)
  have ZZ29 : Hid (we26.heap.size ≤ wd28.heap.size) := Lib.hid (by have := (hbt).size; simpa using this)
  clear BE27 HBW27 OWx027 OWx127 OWx227 OWG27 KBp027 KBbx027
  obtain ⟨p0c0, p0c1, p0c2, p0c3⟩ := scene.three_cells KBp029.out
  obtain ⟨bx0c0, bx0c1, bx0c2, bx0c3⟩ := scene.three_cells KBbx029.out
  clear hbt
  go_wp2_with fail
  go_wp2_with fail
  refine (ints.to_any _ xs1 _ (H1.out.below BE29.out) hn1).mono ?_
  rintro e wc30 ⟨uy1, rfl, hu, hb⟩
  obtain ⟨y1a, y1n, y1c, rfl⟩ := hu.ints.shape
  clear p0c0 p0c1 p0c2 p0c3 bx0c0 bx0c1 bx0c2 bx0c3
  have BE31 := Lib.hid (below_tr BE29.out hb)
  have HBW31 := Lib.hid (below_tr HBW29.out hb)
  have OWx031 := Lib.hid (OWx029.out.keep hb)
  have OWx131 := Lib.hid (OWx129.out.keep hb)
  have OWx231 := Lib.hid (OWx229.out.keep hb)
  have OWG31 := Lib.hid (OWG29.out.keep hb)
  have KBp031 := Lib.hid (KBp029.out.below hb)
  have KBbx031 := Lib.hid (KBbx029.out.below hb)
  have ZZ31 : Hid (wd28.heap.size ≤ wc30.heap.size) := Lib.hid (by have := (hb).size; simpa using this)
  clear BE29 HBW29 OWx029 OWx129 OWx229 OWG29 KBp029 KBbx029
  obtain ⟨p0c0, p0c1, p0c2, p0c3⟩ := scene.three_cells KBp031.out
  obtain ⟨bx0c0, bx0c1, bx0c2, bx0c3⟩ := scene.three_cells KBbx031.out
  have OWy1 := Lib.hid (hu.mono (B' := wd28.heap.size) (by simp) (Nat.le_refl _))
  clear hu hb
  go_wp2_with fail
  refine (ints.eq_same _ _ xs1 _ OWx131.out.ints OWy1.out.ints hn1).mono ?_
  rintro e we32 ⟨rfl, hb⟩
  clear p0c0 p0c1 p0c2 p0c3 bx0c0 bx0c1 bx0c2 bx0c3
  have BE33 := Lib.hid (below_tr BE31.out hb)
  have HBW33 := Lib.hid (below_tr HBW31.out hb)
  have OWx033 := Lib.hid (OWx031.out.keep hb)
  have OWx133 := Lib.hid (OWx131.out.keep hb)
  have OWx233 := Lib.hid (OWx231.out.keep hb)
  have OWG33 := Lib.hid (OWG31.out.keep hb)
  have OWy133 := Lib.hid (OWy1.out.keep hb)
  have KBp033 := Lib.hid (KBp031.out.below hb)
  have KBbx033 := Lib.hid (KBbx031.out.below hb)
  have ZZ33 : Hid (wc30.heap.size ≤ we32.heap.size) := Lib.hid (by have := (hb).size; simpa using this)
  clear BE31 HBW31 OWx031 OWx131 OWx231 OWG31 OWy1 KBp031 KBbx031
  obtain ⟨p0c0, p0c1, p0c2, p0c3⟩ := scene.three_cells KBp033.out
  obtain ⟨bx0c0, bx0c1, bx0c2, bx0c3⟩ := scene.three_cells KBbx033.out
  clear hb
  clear OWy133
  go_wp2_with fail
  go_wp2_with fail
  refine (ints.to_any _ xs2 _ (H2.out.below BE33.out) hn2).mono ?_
  rintro e wc34 ⟨uy2, rfl, hu, hb⟩
  obtain ⟨y2a, y2n, y2c, rfl⟩ := hu.ints.shape
  clear p0c0 p0c1 p0c2 p0c3 bx0c0 bx0c1 bx0c2 bx0c3
  have BE35 := Lib.hid (below_tr BE33.out hb)
  have HBW35 := Lib.hid (below_tr HBW33.out hb)
  have OWx035 := Lib.hid (OWx033.out.keep hb)
  have OWx135 := Lib.hid (OWx133.out.keep hb)
  have OWx235 := Lib.hid (OWx233.out.keep hb)
  have OWG35 := Lib.hid (OWG33.out.keep hb)
  have KBp035 := Lib.hid (KBp033.out.below hb)
  have KBbx035 := Lib.hid (KBbx033.out.below hb)
  have ZZ35 : Hid (we32.heap.size ≤ wc34.heap.size) := Lib.hid (by have := (hb).size; simpa using this)
  clear BE33 HBW33 OWx033 OWx133 OWx233 OWG33 KBp033 KBbx033
  obtain ⟨p0c0, p0c1, p0c2, p0c3⟩ := scene.three_cells KBp035.out
  obtain ⟨bx0c0, bx0c1, bx0c2, bx0c3⟩ := scene.three_cells KBbx035.out
  have OWy2 := Lib.hid (hu.mono (B' := we32.heap.size) (by simp) (Nat.le_refl _))
  clear hu hb
  go_wp2_with fail
  refine (ints.eq_same _ _ xs2 _ OWx235.out.ints OWy2.out.ints hn2).mono ?_
  rintro e we36 ⟨rfl, hb⟩
  clear p0c0 p0c1 p0c2 p0c3 bx0c0 bx0c1 bx0c2 bx0c3
  have BE37 := Lib.hid (below_tr BE35.out hb)
  have HBW37 := Lib.hid (below_tr HBW35.out hb)
  have OWx037 := Lib.hid (OWx035.out.keep hb)
  have OWx137 := Lib.hid (OWx135.out.keep hb)
  have OWx237 := Lib.hid (OWx235.out.keep hb)
  have OWG37 := Lib.hid (OWG35.out.keep hb)
  have OWy237 := Lib.hid (OWy2.out.keep hb)
  have KBp037 := Lib.hid (KBp035.out.below hb)
  have KBbx037 := Lib.hid (KBbx035.out.below hb)
  have ZZ37 : Hid (wc34.heap.size ≤ we36.heap.size) := Lib.hid (by have := (hb).size; simpa using this)
  clear BE35 HBW35 OWx035 OWx135 OWx235 OWG35 OWy2 KBp035 KBbx035
  obtain ⟨p0c0, p0c1, p0c2, p0c3⟩ := scene.three_cells KBp037.out
  obtain ⟨bx0c0, bx0c1, bx0c2, bx0c3⟩ := scene.three_cells KBbx037.out
  clear hb
  clear OWy237
  have bm0 := rws.before_le yss0 yss0.length
  have bl0 := rws.before_le xss0 xss0.length
  go_wp2_with fail
  refine (rule.mark_any _ ss0 _ xss0 _ yss0 (1) (wf15.heap.size) (wc17.heap.size) _ OWx037.out (by have := ZZ8.out; have := ZZ10.out; have := ZZ12.out; have := ZZ14.out; have := ZZ16.out; have := ZZ18.out; have := ZZ21.out; have := ZZ23.out; have := ZZ25.out; have := ZZ27.out; have := ZZ29.out; have := ZZ31.out; have := ZZ33.out; have := ZZ35.out; have := ZZ37.out; omega) hn0 hm0 hk0 (by omega) (by omega)).mono ?_
  rintro e wm38 ⟨rfl, hi, S, wl39, hb, hw, hs⟩
  clear OWx037
  clear p0c0 p0c1 p0c2 p0c3 bx0c0 bx0c1 bx0c2 bx0c3
  have BE40 := Lib.hid (below_tr BE37.out hb)
  have HBW40 := Lib.hid (below_tr HBW37.out hb)
  have OWx140 := Lib.hid (OWx137.out.keep hb)
  have OWx240 := Lib.hid (OWx237.out.keep hb)
  have OWG40 := Lib.hid (OWG37.out.keep hb)
  have KBp040 := Lib.hid (KBp037.out.below hb)
  have KBbx040 := Lib.hid (KBbx037.out.below hb)
  have ZZ40 : Hid (we36.heap.size ≤ wl39.heap.size) := Lib.hid (by have := (hb).size; simpa using this)
  clear BE37 HBW37 OWx137 OWx237 OWG37 KBp037 KBbx037
  obtain ⟨p0c0, p0c1, p0c2, p0c3⟩ := scene.three_cells KBp040.out
  obtain ⟨bx0c0, bx0c1, bx0c2, bx0c3⟩ := scene.three_cells KBbx040.out
  clear p0c0 p0c1 p0c2 p0c3 bx0c0 bx0c1 bx0c2 bx0c3
  have BE41 := Lib.hid (BE40.out.trans (hw.below (fun p hp => by have := (hs p hp).1; have := ZZ8.out; have := ZZ10.out; have := ZZ12.out; have := ZZ14.out; have := ZZ16.out; have := ZZ18.out; have := ZZ21.out; have := ZZ23.out; have := ZZ25.out; have := ZZ27.out; have := ZZ29.out; have := ZZ31.out; have := ZZ33.out; have := ZZ35.out; have := ZZ37.out; have := ZZ40.out; omega)))
  have HBW41 := Lib.hid (HBW40.out.trans (hw.below (fun p hp => by have := (hs p hp).1; have := ZZ8.out; have := ZZ10.out; have := ZZ12.out; have := ZZ14.out; have := ZZ16.out; have := ZZ18.out; have := ZZ21.out; have := ZZ23.out; have := ZZ25.out; have := ZZ27.out; have := ZZ29.out; have := ZZ31.out; have := ZZ33.out; have := ZZ35.out; have := ZZ37.out; have := ZZ40.out; omega)))
  have OWx141 := Lib.hid (OWx140.out.wrote hw (fun p hp => by have := hs p hp; have := ZZ8.out; have := ZZ10.out; have := ZZ12.out; have := ZZ14.out; have := ZZ16.out; have := ZZ18.out; have := ZZ21.out; have := ZZ23.out; have := ZZ25.out; have := ZZ27.out; have := ZZ29.out; have := ZZ31.out; have := ZZ33.out; have := ZZ35.out; have := ZZ37.out; have := ZZ40.out; omega))
  have OWx241 := Lib.hid (OWx240.out.wrote hw (fun p hp => by have := hs p hp; have := ZZ8.out; have := ZZ10.out; have := ZZ12.out; have := ZZ14.out; have := ZZ16.out; have := ZZ18.out; have := ZZ21.out; have := ZZ23.out; have := ZZ25.out; have := ZZ27.out; have := ZZ29.out; have := ZZ31.out; have := ZZ33.out; have := ZZ35.out; have := ZZ37.out; have := ZZ40.out; omega))
  have OWG41 := Lib.hid (OWG40.out.wrote hw (fun p hp => by have := hs p hp; have := ZZ8.out; have := ZZ10.out; have := ZZ12.out; have := ZZ14.out; have := ZZ16.out; have := ZZ18.out; have := ZZ21.out; have := ZZ23.out; have := ZZ25.out; have := ZZ27.out; have := ZZ29.out; have := ZZ31.out; have := ZZ33.out; have := ZZ35.out; have := ZZ37.out; have := ZZ40.out; omega))
  have KBp041 := Lib.hid (KBp040.out.wrote hw (fun p hp e => by have := hs p hp; have := ZZ8.out; have := ZZ10.out; have := ZZ12.out; have := ZZ14.out; have := ZZ16.out; have := ZZ18.out; have := ZZ21.out; have := ZZ23.out; have := ZZ25.out; have := ZZ27.out; have := ZZ29.out; have := ZZ31.out; have := ZZ33.out; have := ZZ35.out; have := ZZ37.out; have := ZZ40.out; omega))
  have KBbx041 := Lib.hid (KBbx040.out.wrote hw (fun p hp e => by have := hs p hp; have := ZZ8.out; have := ZZ10.out; have := ZZ12.out; have := ZZ14.out; have := ZZ16.out; have := ZZ18.out; have := ZZ21.out; have := ZZ23.out; have := ZZ25.out; have := ZZ27.out; have := ZZ29.out; have := ZZ31.out; have := ZZ33.out; have := ZZ35.out; have := ZZ37.out; have := ZZ40.out; omega))
  have ZZ41 : Hid (wl39.heap.size ≤ wm38.heap.size) := Lib.hid (by have := hw.size; omega)
  clear BE40 HBW40 OWx140 OWx240 OWG40 KBp040 KBbx040
  obtain ⟨p0c0, p0c1, p0c2, p0c3⟩ := scene.three_cells KBp041.out
  obtain ⟨bx0c0, bx0c1, bx0c2, bx0c3⟩ := scene.three_cells KBbx041.out
  clear hb
  clear hw hs
  clear hi
  go_wp2_with fail
  refine (ints.mark_own _ xs1 (1 + (ss0.length : Int) + (rws.before xss0 xss0.length : Int) + (rws.before yss0 yss0.length : Int)) (wc17.heap.size + 1) (wc20.heap.size) _ OWx141.out hn1 (by omega) (by omega)).mono ?_
  rintro e wm42 ⟨rfl, hi, S, hw, hs⟩
  clear OWx141
  clear p0c0 p0c1 p0c2 p0c3 bx0c0 bx0c1 bx0c2 bx0c3
  have BE44 := Lib.hid (BE41.out.trans (hw.below (fun p hp => by have := (hs p hp).1; have := ZZ8.out; have := ZZ10.out; have := ZZ12.out; have := ZZ14.out; have := ZZ16.out; have := ZZ18.out; have := ZZ21.out; have := ZZ23.out; have := ZZ25.out; have := ZZ27.out; have := ZZ29.out; have := ZZ31.out; have := ZZ33.out; have := ZZ35.out; have := ZZ37.out; have := ZZ40.out; have := ZZ41.out; omega)))
  have HBW44 := Lib.hid (HBW41.out.trans (hw.below (fun p hp => by have := (hs p hp).1; have := ZZ8.out; have := ZZ10.out; have := ZZ12.out; have := ZZ14.out; have := ZZ16.out; have := ZZ18.out; have := ZZ21.out; have := ZZ23.out; have := ZZ25.out; have := ZZ27.out; have := ZZ29.out; have := ZZ31.out; have := ZZ33.out; have := ZZ35.out; have := ZZ37.out; have := ZZ40.out; have := ZZ41.out; omega)))
  have OWx244 := Lib.hid (OWx241.out.wrote hw (fun p hp => by have := hs p hp; have := ZZ8.out; have := ZZ10.out; have := ZZ12.out; have := ZZ14.out; have := ZZ16.out; have := ZZ18.out; have := ZZ21.out; have := ZZ23.out; have := ZZ25.out; have := ZZ27.out; have := ZZ29.out; have := ZZ31.out; have := ZZ33.out; have := ZZ35.out; have := ZZ37.out; have := ZZ40.out; have := ZZ41.out; omega))
  have OWG44 := Lib.hid (OWG41.out.wrote hw (fun p hp => by have := hs p hp; have := ZZ8.out; have := ZZ10.out; have := ZZ12.out; have := ZZ14.out; have := ZZ16.out; have := ZZ18.out; have := ZZ21.out; have := ZZ23.out; have := ZZ25.out; have := ZZ27.out; have := ZZ29.out; have := ZZ31.out; have := ZZ33.out; have := ZZ35.out; have := ZZ37.out; have := ZZ40.out; have := ZZ41.out; omega))
  have KBp044 := Lib.hid (KBp041.out.wrote hw (fun p hp e => by have := hs p hp; have := ZZ8.out; have := ZZ10.out; have := ZZ12.out; have := ZZ14.out; have := ZZ16.out; have := ZZ18.out; have := ZZ21.out; have := ZZ23.out; have := ZZ25.out; have := ZZ27.out; have := ZZ29.out; have := ZZ31.out; have := ZZ33.out; have := ZZ35.out; have := ZZ37.out; have := ZZ40.out; have := ZZ41.out; omega))
  have KBbx044 := Lib.hid (KBbx041.out.wrote hw (fun p hp e => by have := hs p hp; have := ZZ8.out; have := ZZ10.out; have := ZZ12.out; have := ZZ14.out; have := ZZ16.out; have := ZZ18.out; have := ZZ21.out; have := ZZ23.out; have := ZZ25.out; have := ZZ27.out; have := ZZ29.out; have := ZZ31.out; have := ZZ33.out; have := ZZ35.out; have := ZZ37.out; have := ZZ40.out; have := ZZ41.out; omega))
  have ZZ44 : Hid (wm38.heap.size ≤ wm42.heap.size) := Lib.hid (by have := hw.size; omega)
  clear BE41 HBW41 OWx241 OWG41 KBp041 KBbx041
  obtain ⟨p0c0, p0c1, p0c2, p0c3⟩ := scene.three_cells KBp044.out
  obtain ⟨bx0c0, bx0c1, bx0c2, bx0c3⟩ := scene.three_cells KBbx044.out
  clear hw hs
  clear hi
  go_wp2_with fail
  refine (ints.mark_own _ xs2 (1 + (ss0.length : Int) + (rws.before xss0 xss0.length : Int) + (rws.before yss0 yss0.length : Int) + (xs1.length : Int)) (wc20.heap.size) (wc22.heap.size) _ OWx244.out hn2 (by omega) (by omega)).mono ?_
  rintro e wm45 ⟨rfl, hi, S, hw, hs⟩
  clear OWx244
  clear p0c0 p0c1 p0c2 p0c3 bx0c0 bx0c1 bx0c2 bx0c3
  have BE47 := Lib.hid (BE44.out.trans (hw.below (fun p hp => by have := (hs p hp).1; have := ZZ8.out; have := ZZ10.out; have := ZZ12.out; have := ZZ14.out; have := ZZ16.out; have := ZZ18.out; have := ZZ21.out; have := ZZ23.out; have := ZZ25.out; have := ZZ27.out; have := ZZ29.out; have := ZZ31.out; have := ZZ33.out; have := ZZ35.out; have := ZZ37.out; have := ZZ40.out; have := ZZ41.out; have := ZZ44.out; omega)))
  have HBW47 := Lib.hid (HBW44.out.trans (hw.below (fun p hp => by have := (hs p hp).1; have := ZZ8.out; have := ZZ10.out; have := ZZ12.out; have := ZZ14.out; have := ZZ16.out; have := ZZ18.out; have := ZZ21.out; have := ZZ23.out; have := ZZ25.out; have := ZZ27.out; have := ZZ29.out; have := ZZ31.out; have := ZZ33.out; have := ZZ35.out; have := ZZ37.out; have := ZZ40.out; have := ZZ41.out; have := ZZ44.out; omega)))
  have OWG47 := Lib.hid (OWG44.out.wrote hw (fun p hp => by have := hs p hp; have := ZZ8.out; have := ZZ10.out; have := ZZ12.out; have := ZZ14.out; have := ZZ16.out; have := ZZ18.out; have := ZZ21.out; have := ZZ23.out; have := ZZ25.out; have := ZZ27.out; have := ZZ29.out; have := ZZ31.out; have := ZZ33.out; have := ZZ35.out; have := ZZ37.out; have := ZZ40.out; have := ZZ41.out; have := ZZ44.out; omega))
  have KBp047 := Lib.hid (KBp044.out.wrote hw (fun p hp e => by have := hs p hp; have := ZZ8.out; have := ZZ10.out; have := ZZ12.out; have := ZZ14.out; have := ZZ16.out; have := ZZ18.out; have := ZZ21.out; have := ZZ23.out; have := ZZ25.out; have := ZZ27.out; have := ZZ29.out; have := ZZ31.out; have := ZZ33.out; have := ZZ35.out; have := ZZ37.out; have := ZZ40.out; have := ZZ41.out; have := ZZ44.out; omega))
  have KBbx047 := Lib.hid (KBbx044.out.wrote hw (fun p hp e => by have := hs p hp; have := ZZ8.out; have := ZZ10.out; have := ZZ12.out; have := ZZ14.out; have := ZZ16.out; have := ZZ18.out; have := ZZ21.out; have := ZZ23.out; have := ZZ25.out; have := ZZ27.out; have := ZZ29.out; have := ZZ31.out; have := ZZ33.out; have := ZZ35.out; have := ZZ37.out; have := ZZ40.out; have := ZZ41.out; have := ZZ44.out; omega))
  have ZZ47 : Hid (wm42.heap.size ≤ wm45.heap.size) := Lib.hid (by have := hw.size; omega)
  clear BE44 HBW44 OWG44 KBp044 KBbx044
  obtain ⟨p0c0, p0c1, p0c2, p0c3⟩ := scene.three_cells KBp047.out
  obtain ⟨bx0c0, bx0c1, bx0c2, bx0c3⟩ := scene.three_cells KBbx047.out
  clear hw hs
  clear hi
  have dk : decide (1 + (ss0.length : Int) + (rws.before xss0 xss0.length : Int) + (rws.before yss0 yss0.length : Int) + (xs1.length : Int) + (xs2.length : Int) < 0) = false := by simp; omega
  have dk' : ¬ (1 + (ss0.length : Int) + (rws.before xss0 xss0.length : Int) + (rws.before yss0 yss0.length : Int) + (xs1.length : Int) + (xs2.length : Int) < 0) := by omega
  go_wp2_with fail
  refine (ints.eq_same _ _ ((thr.res ss0 xss0 yss0 xs1 xs2).1) _ OWG47.out.ints (VWW.out.below HBW47.out) (thr.len_res ss0 xss0 yss0 xs1 xs2)).mono ?_
  rintro e we48 ⟨rfl, hb⟩
  clear p0c0 p0c1 p0c2 p0c3 bx0c0 bx0c1 bx0c2 bx0c3
  have BE49 := Lib.hid (below_tr BE47.out hb)
  have HBW49 := Lib.hid (below_tr HBW47.out hb)
  have OWG49 := Lib.hid (OWG47.out.keep hb)
  have KBp049 := Lib.hid (KBp047.out.below hb)
  have KBbx049 := Lib.hid (KBbx047.out.below hb)
  have ZZ49 : Hid (wm45.heap.size ≤ we48.heap.size) := Lib.hid (by have := (hb).size; simpa using this)
  clear BE47 HBW47 OWG47 KBp047 KBbx047
  obtain ⟨p0c0, p0c1, p0c2, p0c3⟩ := scene.three_cells KBp049.out
  obtain ⟨bx0c0, bx0c1, bx0c2, bx0c3⟩ := scene.three_cells KBbx049.out
  clear hb
  have blr := (thr.len_res ss0 xss0 yss0 xs1 xs2)
  have dq : ¬ (1 + (((thr.res ss0 xss0 yss0 xs1 xs2).1).length : Int) < 0) := by omega
  have tq : ((1 + (((thr.res ss0 xss0 yss0 xs1 xs2).1).length : Int)) != (1 + (((thr.res ss0 xss0 yss0 xs1 xs2).1).length : Int))) = false := bne_self_eq_false _
  go_wp2_with fail
  refine (ints.mark_own _ ((thr.res ss0 xss0 yss0 xs1 xs2).1) (1) (wc22.heap.size) (wf24.heap.size) _ OWG49.out (thr.len_res ss0 xss0 yss0 xs1 xs2) (by omega) (by omega)).mono ?_
  rintro e wm50 ⟨rfl, hi, S, hw, hs⟩
  clear OWG49
  clear p0c0 p0c1 p0c2 p0c3 bx0c0 bx0c1 bx0c2 bx0c3
  have BE52 := Lib.hid (BE49.out.trans (hw.below (fun p hp => by have := (hs p hp).1; have := ZZ8.out; have := ZZ10.out; have := ZZ12.out; have := ZZ14.out; have := ZZ16.out; have := ZZ18.out; have := ZZ21.out; have := ZZ23.out; have := ZZ25.out; have := ZZ27.out; have := ZZ29.out; have := ZZ31.out; have := ZZ33.out; have := ZZ35.out; have := ZZ37.out; have := ZZ40.out; have := ZZ41.out; have := ZZ44.out; have := ZZ47.out; have := ZZ49.out; omega)))
  have HBW52 := Lib.hid (HBW49.out.trans (hw.below (fun p hp => by have := (hs p hp).1; have := ZZ8.out; have := ZZ10.out; have := ZZ12.out; have := ZZ14.out; have := ZZ16.out; have := ZZ18.out; have := ZZ21.out; have := ZZ23.out; have := ZZ25.out; have := ZZ27.out; have := ZZ29.out; have := ZZ31.out; have := ZZ33.out; have := ZZ35.out; have := ZZ37.out; have := ZZ40.out; have := ZZ41.out; have := ZZ44.out; have := ZZ47.out; have := ZZ49.out; omega)))
  have KBp052 := Lib.hid (KBp049.out.wrote hw (fun p hp e => by have := hs p hp; have := ZZ8.out; have := ZZ10.out; have := ZZ12.out; have := ZZ14.out; have := ZZ16.out; have := ZZ18.out; have := ZZ21.out; have := ZZ23.out; have := ZZ25.out; have := ZZ27.out; have := ZZ29.out; have := ZZ31.out; have := ZZ33.out; have := ZZ35.out; have := ZZ37.out; have := ZZ40.out; have := ZZ41.out; have := ZZ44.out; have := ZZ47.out; have := ZZ49.out; omega))
  have KBbx052 := Lib.hid (KBbx049.out.wrote hw (fun p hp e => by have := hs p hp; have := ZZ8.out; have := ZZ10.out; have := ZZ12.out; have := ZZ14.out; have := ZZ16.out; have := ZZ18.out; have := ZZ21.out; have := ZZ23.out; have := ZZ25.out; have := ZZ27.out; have := ZZ29.out; have := ZZ31.out; have := ZZ33.out; have := ZZ35.out; have := ZZ37.out; have := ZZ40.out; have := ZZ41.out; have := ZZ44.out; have := ZZ47.out; have := ZZ49.out; omega))
  have ZZ52 : Hid (we48.heap.size ≤ wm50.heap.size) := Lib.hid (by have := hw.size; omega)
  clear BE49 HBW49 KBp049 KBbx049
  obtain ⟨p0c0, p0c1, p0c2, p0c3⟩ := scene.three_cells KBp052.out
  obtain ⟨bx0c0, bx0c1, bx0c2, bx0c3⟩ := scene.three_cells KBbx052.out
  clear hw hs
  have VWM := Lib.hid hi
  have HBM := Lib.hid (Below.refl wm50.heap.size wm50)
  clear hi
  go_wp2_with fail
  refine (ints.held_below _ ((thr.res ss0 xss0 yss0 xs1 xs2).1).length 1 _ (VWM.out.below HBM.out) (thr.len_res ss0 xss0 yss0 xs1 xs2) (by omega) (by omega)).mono ?_
  rintro e wh53 ⟨rfl, hb⟩
  clear p0c0 p0c1 p0c2 p0c3 bx0c0 bx0c1 bx0c2 bx0c3
  have BE54 := Lib.hid (below_tr BE52.out hb)
  have HBW54 := Lib.hid (below_tr HBW52.out hb)
  have HBM54 := Lib.hid (below_tr HBM.out hb)
  have KBp054 := Lib.hid (KBp052.out.below hb)
  have KBbx054 := Lib.hid (KBbx052.out.below hb)
  have ZZ54 : Hid (wm50.heap.size ≤ wh53.heap.size) := Lib.hid (by have := (hb).size; simpa using this)
  clear BE52 HBW52 HBM KBp052 KBbx052
  obtain ⟨p0c0, p0c1, p0c2, p0c3⟩ := scene.three_cells KBp054.out
  obtain ⟨bx0c0, bx0c1, bx0c2, bx0c3⟩ := scene.three_cells KBbx054.out
  clear hb
  go_wp2_with fail
  refine (rule.to_any _ ss0 _ xss0 _ yss0 _ (H0.out.below BE54.out) hn0 hm0 hk0).mono ?_
  rintro e wc55 ⟨vz0, uz0, nz0, rfl, hu, hb⟩
  obtain ⟨z0a, z0n, z0c, z0d, z0m, z0e, z0f, z0o, z0g, rfl, rfl, rfl⟩ := hu.view.shape
  clear p0c0 p0c1 p0c2 p0c3 bx0c0 bx0c1 bx0c2 bx0c3
  have BE56 := Lib.hid (below_tr BE54.out hb)
  have HBW56 := Lib.hid (below_tr HBW54.out hb)
  have HBM56 := Lib.hid (below_tr HBM54.out hb)
  have KBp056 := Lib.hid (KBp054.out.below hb)
  have KBbx056 := Lib.hid (KBbx054.out.below hb)
  have ZZ56 : Hid (wh53.heap.size ≤ wc55.heap.size) := Lib.hid (by have := (hb).size; simpa using this)
  clear BE54 HBW54 HBM54 KBp054 KBbx054
  obtain ⟨p0c0, p0c1, p0c2, p0c3⟩ := scene.three_cells KBp056.out
  obtain ⟨bx0c0, bx0c1, bx0c2, bx0c3⟩ := scene.three_cells KBbx056.out
  have OWz0 := Lib.hid (hu.mono (B' := wh53.heap.size) (by simp) (Nat.le_refl _))
  clear hu hb
  go_wp2_with fail
  refine (ints.to_any _ xs1 _ (H1.out.below BE56.out) hn1).mono ?_
  rintro e wc57 ⟨uz1, rfl, hu, hb⟩
  obtain ⟨z1a, z1n, z1c, rfl⟩ := hu.ints.shape
  clear p0c0 p0c1 p0c2 p0c3 bx0c0 bx0c1 bx0c2 bx0c3
  have BE58 := Lib.hid (below_tr BE56.out hb)
  have HBW58 := Lib.hid (below_tr HBW56.out hb)
  have HBM58 := Lib.hid (below_tr HBM56.out hb)
  have OWz058 := Lib.hid (OWz0.out.keep hb)
  have KBp058 := Lib.hid (KBp056.out.below hb)
  have KBbx058 := Lib.hid (KBbx056.out.below hb)
  have ZZ58 : Hid (wc55.heap.size ≤ wc57.heap.size) := Lib.hid (by have := (hb).size; simpa using this)
  clear BE56 HBW56 HBM56 OWz0 KBp056 KBbx056
  obtain ⟨p0c0, p0c1, p0c2, p0c3⟩ := scene.three_cells KBp058.out
  obtain ⟨bx0c0, bx0c1, bx0c2, bx0c3⟩ := scene.three_cells KBbx058.out
  have OWz1 := Lib.hid (hu.mono (B' := wc55.heap.size) (by simp) (Nat.le_refl _))
  clear hu hb
  go_wp2_with fail
  refine (ints.to_any _ xs2 _ (H2.out.below BE58.out) hn2).mono ?_
  rintro e wc59 ⟨uz2, rfl, hu, hb⟩
  obtain ⟨z2a, z2n, z2c, rfl⟩ := hu.ints.shape
  clear p0c0 p0c1 p0c2 p0c3 bx0c0 bx0c1 bx0c2 bx0c3
  have BE60 := Lib.hid (below_tr BE58.out hb)
  have HBW60 := Lib.hid (below_tr HBW58.out hb)
  have HBM60 := Lib.hid (below_tr HBM58.out hb)
  have OWz060 := Lib.hid (OWz058.out.keep hb)
  have OWz160 := Lib.hid (OWz1.out.keep hb)
  have KBp060 := Lib.hid (KBp058.out.below hb)
  have KBbx060 := Lib.hid (KBbx058.out.below hb)
  have ZZ60 : Hid (wc57.heap.size ≤ wc59.heap.size) := Lib.hid (by have := (hb).size; simpa using this)
  clear BE58 HBW58 HBM58 OWz058 OWz1 KBp058 KBbx058
  obtain ⟨p0c0, p0c1, p0c2, p0c3⟩ := scene.three_cells KBp060.out
  obtain ⟨bx0c0, bx0c1, bx0c2, bx0c3⟩ := scene.three_cells KBbx060.out
  have OWz2 := Lib.hid (hu.mono (B' := wc57.heap.size) (by simp) (Nat.le_refl _))
  clear hu hb
  go_wp2_with fail
  refine (thr.impl_any (.slice z0a z0n z0c) ss0 (.slice z0d z0m z0e) xss0 (.slice z0f z0o z0g) yss0 (.slice z1a z1n z1c) xs1 (.slice z2a z2n z2c) xs2 _ OWz060.out.view OWz160.out.ints OWz2.out.ints).mono ?_
  rintro e wf61 ⟨uHh, rfl, hu, hb⟩
  obtain ⟨Hha, Hhn, Hhc, rfl⟩ := hu.ints.shape
  clear p0c0 p0c1 p0c2 p0c3 bx0c0 bx0c1 bx0c2 bx0c3
  have BE62 := Lib.hid (below_tr BE60.out hb)
  have HBW62 := Lib.hid (below_tr HBW60.out hb)
  have HBM62 := Lib.hid (below_tr HBM60.out hb)
  have OWz062 := Lib.hid (OWz060.out.keep hb)
  have OWz162 := Lib.hid (OWz160.out.keep hb)
  have OWz262 := Lib.hid (OWz2.out.keep hb)
  have KBp062 := Lib.hid (KBp060.out.below hb)
  have KBbx062 := Lib.hid (KBbx060.out.below hb)
  have ZZ62 : Hid (wc59.heap.size ≤ wf61.heap.size) := Lib.hid (by have := (hb).size; simpa using this)
  clear BE60 HBW60 HBM60 OWz060 OWz160 OWz2 KBp060 KBbx060
  obtain ⟨p0c0, p0c1, p0c2, p0c3⟩ := scene.three_cells KBp062.out
  obtain ⟨bx0c0, bx0c1, bx0c2, bx0c3⟩ := scene.three_cells KBbx062.out
  have OWHh := Lib.hid (hu.mono (B' := wc59.heap.size) (by simp) (Nat.le_refl _))
  clear hu hb
  clear OWz062
  clear OWz162
  clear OWz262
  go_wp2_with fail
  refine (ints.eq_same _ _ ((thr.res ss0 xss0 yss0 xs1 xs2).1) _ OWHh.out.ints (VWW.out.below HBW62.out) (thr.len_res ss0 xss0 yss0 xs1 xs2)).mono ?_
  rintro e we63 ⟨rfl, hb⟩
  clear p0c0 p0c1 p0c2 p0c3 bx0c0 bx0c1 bx0c2 bx0c3
  have BE64 := Lib.hid (below_tr BE62.out hb)
  have HBW64 := Lib.hid (below_tr HBW62.out hb)
  have HBM64 := Lib.hid (below_tr HBM62.out hb)
  have OWHh64 := Lib.hid (OWHh.out.keep hb)
  have KBp064 := Lib.hid (KBp062.out.below hb)
  have KBbx064 := Lib.hid (KBbx062.out.below hb)
  have ZZ64 : Hid (wf61.heap.size ≤ we63.heap.size) := Lib.hid (by have := (hb).size; simpa using this)
  clear BE62 HBW62 HBM62 OWHh KBp062 KBbx062
  obtain ⟨p0c0, p0c1, p0c2, p0c3⟩ := scene.three_cells KBp064.out
  obtain ⟨bx0c0, bx0c1, bx0c2, bx0c3⟩ := scene.three_cells KBbx064.out
  clear hb
  go_wp2_with fail
  refine (ints.held_below _ ((thr.res ss0 xss0 yss0 xs1 xs2).1).length 1 _ (VWM.out.below HBM64.out) (thr.len_res ss0 xss0 yss0 xs1 xs2) (by omega) (by omega)).mono ?_
  rintro e wh65 ⟨rfl, hb⟩
  clear p0c0 p0c1 p0c2 p0c3 bx0c0 bx0c1 bx0c2 bx0c3
  have BE66 := Lib.hid (below_tr BE64.out hb)
  have HBW66 := Lib.hid (below_tr HBW64.out hb)
  have HBM66 := Lib.hid (below_tr HBM64.out hb)
  have OWHh66 := Lib.hid (OWHh64.out.keep hb)
  have KBp066 := Lib.hid (KBp064.out.below hb)
  have KBbx066 := Lib.hid (KBbx064.out.below hb)
  have ZZ66 : Hid (we63.heap.size ≤ wh65.heap.size) := Lib.hid (by have := (hb).size; simpa using this)
  clear BE64 HBW64 HBM64 OWHh64 KBp064 KBbx064
  obtain ⟨p0c0, p0c1, p0c2, p0c3⟩ := scene.three_cells KBp066.out
  obtain ⟨bx0c0, bx0c1, bx0c2, bx0c3⟩ := scene.three_cells KBbx066.out
  clear hb
  go_wp2_with fail
  go_ret
  exact ⟨rfl, BE66.out⟩

/-! ### the frame of the row -/
theorem own : ownKnob Try.prog.godebug = none := by kernel_rfl
theorem laidOut : laidOutB Try.prog = true := by kernel_rfl
set_option maxRecDepth 100000 in
theorem lifted (os : Os) (started : os.Started) (H : Type) (enc : TypeId × Value → H) :
    ReturnsInHanded {} Try.checked os 7 .any (Rows.fnExactPlayThroughSpec.pre6 enc Try.prog Try.f7 Rows.fnExactPlayThroughRow.domain false) (Rows.fnExactPlayThroughSpec.post enc Try.prog Try.f7 false true false false) := by
  refine returnsInHanded_of_change (C := Try.checked) own started (by kernel_rfl) Try.func7
    (ChangeSpec.witness6 (enc := enc) (C := Try.checked) false ⟨#[], #[.agg #[.slice none 0 0, .slice none 0 0, .slice none 0 0], .slice none 0 0, .slice none 0 0], []⟩ 8 (by kernel_rfl) (by kernel_rfl) (by kernel_rfl) (by kernel_rfl)) ?_
  intro W base args ds gs before hval0 hW _ _
  have hval : ∀ (j : Nat) t v, Try.f7.params[j]? = some t → args[j]? = some v → Value.okWide Try.prog W .any base t v := hval0
  have hW' := hW
  obtain ⟨p, q, hA0, hV, rfl, hfz, hnd⟩ := hW
  have hA : DataW.TrodAll enc Try.prog W 0 (fun _ => true) true Try.f7.params.toList args.toList ds p := hA0
  rw [Try.params7] at hA hval
  obtain ⟨v0, vs0, d0, ds0, p0, q0, hargs, rfl, rfl, h0, r0⟩ := trodAll_cons hA
  obtain ⟨v1, vs1, d1, ds1, p1, q1, rfl, rfl, rfl, h1, r1⟩ := trodAll_cons r0
  obtain ⟨v2, vs2, d2, ds2, p2, q2, rfl, rfl, rfl, h2, r2⟩ := trodAll_cons r1
  obtain ⟨rfl, rfl, rfl⟩ := trodAll_nil r2
  obtain rfl : args = #[v0, v1, v2] := by cases args; simp_all
  obtain ⟨rfl, rfl⟩ := trodVars_none hV
  have lt0 : ∀ x ∈ p0, x.block < W.heap.size := by obtain ⟨m, hm⟩ := h0; exact DataW.trod_lt m _ _ _ hm
  obtain ⟨sv0, ss0, u0, xss0, nv0, yss0, rfl, g10, g20, g30⟩ := opnr.rule_of_trod Try.underlying25 (by kernel_rfl) (by kernel_rfl) Try.underlying22 Try.underlying23 Try.underlying23 Try.underlying22 Try.underlying3 (by kernel_rfl) (by kernel_rfl) (hval 0 25 v0 rfl rfl) h0
  have g0 : rule.RV W sv0 ss0 u0 xss0 nv0 yss0 := ⟨g10, g20, g30⟩
  have lt1 : ∀ x ∈ p1, x.block < W.heap.size := by obtain ⟨m, hm⟩ := h1; exact DataW.trod_lt m _ _ _ hm
  obtain ⟨xs1, g1⟩ := opn.ints_of_trod Try.underlying22 Try.underlying3 (by kernel_rfl) (hval 1 22 v1 rfl rfl) h1
  have lt2 : ∀ x ∈ p2, x.block < W.heap.size := by obtain ⟨m, hm⟩ := h2; exact DataW.trod_lt m _ _ _ hm
  obtain ⟨xs2, g2⟩ := opn.ints_of_trod Try.underlying22 Try.underlying3 (by kernel_rfl) (hval 2 22 v2 rfl rfl) h2
  clear hA0 hval0
  refine (walk sv0 ss0 u0 xss0 nv0 yss0 v1 xs1 v2 xs2 W g0 g1 g2).mono fun e W' ⟨he, bel⟩ => ?_
  subst he
  exact ⟨_, rfl, _, _, _, [], _, [], hW', trodAll_mk1 (shut_bool Try.underlying4 _), (trodAll_cons_mk (Below.trod laidOut (by kernel_rfl) (of_decide_eq_true (by kernel_rfl)) h0 bel lt0) (trodAll_cons_mk (Below.trod laidOut (by kernel_rfl) (of_decide_eq_true (by kernel_rfl)) h1 bel lt1) (trodAll_cons_mk (Below.trod laidOut (by kernel_rfl) (of_decide_eq_true (by kernel_rfl)) h2 bel lt2) trodAll_mk0))), rfl, bel.frame _, fun h => by cases h⟩

theorem over : Rows.fnExactPlayThroughRow.holds Try.pinned (OpenSpec.ofChange Rows.fnExactPlayThroughSpec) :=
  OpenClaim.holds_of_wide 7 Try.f7 rfl rfl rfl rfl rfl rfl rfl ⟨rfl, rfl, rfl, rfl, rfl⟩ rfl rfl rfl rfl rfl (by kernel_rfl) Try.func7 (by kernel_rfl)
    (of_decide_eq_true (by kernel_rfl)) (by unfold Func.isWrapper; first | (rw [if_pos (by decide +kernel)]; kernel_rfl) | (rw [if_neg (by decide +kernel)]; exact ⟨rfl, rfl⟩))
    (fun os started H enc _ => lifted os started H enc)

theorem proved : Rows.FnExactPlayThroughSaid := over
#print axioms proved
end Go.Proofs.Ytneonebgneonkaa.lawPlayThrough
