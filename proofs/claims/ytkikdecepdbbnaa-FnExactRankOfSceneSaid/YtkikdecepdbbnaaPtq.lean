/- allPass of the program; KeptBy, SolvesScene and Picks of the program. -/
import Derived.Test.YtkikdecepdbbnaaPtp
import Derived.Deep.RegionHeld3
namespace Go.Proofs.Ytkikdecepdbbnaa.ptq
open Go.RowKit Go.Deep Go.Proofs.Ytkikdecepdbbnaa.base
open Go.Proofs.Ytkikdecepdbbnaa.ints (ret_int ret_no ret_yes infoInt)
open Go.Proofs.Ytkikdecepdbbnaa.rws (total len_le_total)
open Go.Proofs.Ytkikdecepdbbnaa.val (ret_b)
open Go.Proofs.Ytkikdecepdbbnaa.play (within withinB withinB_yes withinB_no ret_bb)
open Go.Proofs.Ytkikdecepdbbnaa.scm
open Go.Proofs.Ytkikdecepdbbnaa.sgs

def full (f : Nat → Bool) (n : Nat) : Bool := (((pass f n).length : Int) == (n : Int))
theorem full_iff (f : Nat → Bool) (n : Nat) : full f n = true ↔ ∀ k, k < n → f k = true := by
  rw [← pass_full]; unfold full; simp; constructor <;> intro h <;> omega
open Classical in
noncomputable def allR (f : Nat → Bool) (x : Int) (xss : List (List Int)) (ws a : List Int) : Bool × Bool := if okScene x xss ws then (withinB x 0 1 a && full f xss.length, true) else (false, false)
theorem allR_no {f : Nat → Bool} {x : Int} {xss : List (List Int)} {ws a : List Int} (h : ¬ okScene x xss ws) : allR f x xss ws a = (false, false) := if_neg h
theorem allR_out {f : Nat → Bool} {x : Int} {xss : List (List Int)} {ws a : List Int} (h : okScene x xss ws) (hb : ¬ within x 0 1 a) : allR f x xss ws a = (false, true) := by unfold allR; rw [if_pos h, withinB_no hb]; rfl
theorem allR_in {f : Nat → Bool} {x : Int} {xss : List (List Int)} {ws a : List Int} (h : okScene x xss ws) (hb : within x 0 1 a) : allR f x xss ws a = (full f xss.length, true) := by unfold allR; rw [if_pos h, withinB_yes hb]; rfl
open Classical in
noncomputable def keptR (x : Int) (xss : List (List Int)) (ws a : List Int) : List Int × Bool := if okScene x xss ws ∧ within x 0 1 a then (kept xss ws a, true) else ([], false)
theorem keptR_yes {x : Int} {xss : List (List Int)} {ws a : List Int} (h : okScene x xss ws ∧ within x 0 1 a) : keptR x xss ws a = (kept xss ws a, true) := if_pos h
theorem keptR_no {x : Int} {xss : List (List Int)} {ws a : List Int} (h : ¬ (okScene x xss ws ∧ within x 0 1 a)) : keptR x xss ws a = ([], false) := if_neg h
theorem len_keptR (x : Int) (xss : List (List Int)) (ws a : List Int) : (keptR x xss ws a).1.length ≤ 1048576 := by
  by_cases h : okScene x xss ws ∧ within x 0 1 a
  · rw [keptR_yes h]
    have := len_pass (keptAt xss ws a) xss.length
    have := h.1.len
    show (pass _ _).length ≤ _
    omega
  · rw [keptR_no h]; simp


set_option maxRecDepth 100000 in
set_option maxHeartbeats 8000000 in
theorem all_kept (x : Int) (u : Value) (xss : List (List Int)) (v : Value) (ws : List Int) (av : Value) (a : List Int) (w : World) (h : scene.GV w v ws u xss) (ha : Ints w av a) (hm : total xss ≤ 1048576) :
    Calls Try.prog 62 #[.agg #[.int .i64 x, u, v], av, .func (.func 59) #[] #[]] w fun e w' => e = .returned (.tuple #[.bool (allR (keptAt xss ws a) x xss ws a).1, .bool (allR (keptAt xss ws a) x xss ws a).2]) ∧ Below w.heap.size w w' := by
  obtain ⟨A, cap, rfl⟩ : ∃ A c, u = .slice A xss.length c := by obtain ⟨A, b, o, cap, R, hu, _⟩ := h.rows.form; exact ⟨A, cap, hu⟩
  obtain ⟨C, cap', rfl⟩ : ∃ A c, v = .slice A ws.length c := by obtain ⟨A, c, hv, _⟩ := h.ints; exact ⟨A, c, by rw [hv, len_i64s]⟩
  obtain ⟨va, vn, vc, rfl⟩ := ha.shape
  have H := Lib.hid h
  have HA := Lib.hid ha
  have K0 := Lib.hid (Blk.new w 28 #[.int .i64 x, .slice A xss.length cap, .slice C ws.length cap'])
  have HI := Lib.hid (scv.impl_scene x _ xss _ ws (w.alloc (.cells #[.int .i64 x, .slice A xss.length cap, .slice C ws.length cap'] 28)) (h.below (below_al (Below.refl _ _) _)) hm)
  clear h ha
  by_cases hok : okScene x xss ws
  · have HI := HI
    rw [sceneB_yes hok] at HI
    by_cases hb : within x 0 1 a
    · have HR : Hid (allR (keptAt xss ws a) x xss ws a = (full (keptAt xss ws a) xss.length, true)) := Lib.hid (allR_in hok hb)
      have HB := Lib.hid (fun W hW => play.impl_bits _ a x W (HA.out.below hW))
      have HBB := Lib.hid (withinB_yes hb)
      have HP := Lib.hid (fun W hW => ptp.places_kept x _ xss _ ws a W (H.out.below hW) hok hb)
      have HSI := Lib.hid (fun W hW => signsOf _ a x W (HA.out.below hW) hb hok.ev1)
      obtain ⟨f, hf⟩ : ∃ f, f = (keptAt xss ws a) := ⟨_, rfl⟩
      rw [← hf] at HP HR ⊢
      clear hok hb hf
      obtain ⟨c0, c1, c2, c3⟩ := scene.three_cells K0.out
      go_enter Try.func62, Try.ntmps62
      go_wp2_with fail
      refine HI.out.mono ?_
      rintro e w1 ⟨rfl, hb1⟩
      have B1 := Lib.hid (below_tr (below_al (Below.refl w.heap.size w) _) hb1)
      have K1 := Lib.hid (K0.out.below hb1)
      clear c0 c1 c2 c3 hb1
      obtain ⟨c0, c1, c2, c3⟩ := scene.three_cells K1.out
      go_wp2_with fail
      refine (HB.out _ B1.out).mono ?_
      rintro e w' ⟨rfl, rfl⟩
      rw [HBB.out]
      go_wp2_with fail
      go_region_held3 (fun w' => w'.cell? ⟨w.heap.size, 0, none⟩ = some (.int .i64 x) ∧ w'.cell? ⟨w.heap.size, 1, none⟩ = some (.slice A xss.length cap) ∧ w'.cell? ⟨w.heap.size, 2, none⟩ = some (.slice C ws.length cap') ∧ Below w1.heap.size w1 w')
        (((with_reducible refine scene.held3c c0 c1 c2 ?_); (repeat (first | (with_reducible exact Below.refl _ _) | (with_reducible refine below_dr ?_) | (with_reducible refine below_tr ?_ (by assumption))))))
        (first | (go_at_call 58; (with_reducible refine (HSI.out _ (below_tr B1.out ?_)).mono ?_); (repeat (first | (with_reducible exact Below.refl _ _) | (with_reducible refine below_dr ?_) | (with_reducible refine below_tr ?_ (by assumption)))); rintro e wq1 ⟨rfl, hq1⟩) | (go_at_call 57; (with_reducible refine (HP.out _ (below_tr B1.out ?_)).mono ?_); (repeat (first | (with_reducible exact Below.refl _ _) | (with_reducible refine below_dr ?_) | (with_reducible refine below_tr ?_ (by assumption)))); rintro e wq2 ⟨u', rfl, hu', hq2⟩; (obtain ⟨ra, rc, rfl⟩ : ∃ A c, u' = .slice A (pass f xss.length).length c := by obtain ⟨A, c, hv, _⟩ := hu'.ints; exact ⟨A, c, by rw [hv, len_i64s]⟩)))
      have hbt : Below w1.heap.size w1 wq2 := by repeat (first | (with_reducible exact Below.refl _ _) | (with_reducible refine below_dr ?_) | (with_reducible refine below_tr ?_ (by assumption)))
      have B2 := Lib.hid (below_tr B1.out hbt)
      clear hu' hq1 hq2 hbt
      go_wp2_with fail
      go_ret2
      exact ⟨ret_bb (by rw [HR.out]; rfl), by first | exact B2.out | exact below_dr B2.out⟩
    · have HR := Lib.hid (allR_out (f := keptAt xss ws a) hok hb)
      have HB := Lib.hid (fun W hW => play.impl_bits _ a x W (HA.out.below hW))
      have HBB := Lib.hid (withinB_no hb)
      clear hok hb
      obtain ⟨c0, c1, c2, c3⟩ := scene.three_cells K0.out
      go_enter Try.func62, Try.ntmps62
      go_wp2_with fail
      refine HI.out.mono ?_
      rintro e w1 ⟨rfl, hb1⟩
      have B1 := Lib.hid (below_tr (below_al (Below.refl w.heap.size w) _) hb1)
      have K1 := Lib.hid (K0.out.below hb1)
      clear c0 c1 c2 c3 hb1
      obtain ⟨c0, c1, c2, c3⟩ := scene.three_cells K1.out
      go_wp2_with fail
      refine (HB.out _ B1.out).mono ?_
      rintro e w' ⟨rfl, rfl⟩
      rw [HBB.out]
      go_wp2_with fail
      go_ret2
      exact ⟨ret_bb (by rw [HR.out]), B1.out⟩
  · have HI := HI
    rw [sceneB_no hok] at HI
    have HR := Lib.hid (allR_no (f := keptAt xss ws a) (a := a) hok)
    clear hok
    obtain ⟨c0, c1, c2, c3⟩ := scene.three_cells K0.out
    go_enter Try.func62, Try.ntmps62
    go_wp2_with fail
    refine HI.out.mono ?_
    rintro e w1 ⟨rfl, hb1⟩
    have B1 := Lib.hid (below_tr (below_al (Below.refl w.heap.size w) _) hb1)
    clear c0 c1 c2 c3 hb1
    go_wp2_with fail
    go_ret2
    exact ⟨ret_bb (by rw [HR.out]), B1.out⟩



set_option maxRecDepth 100000 in
theorem impl_SolvesScene (x : Int) (u : Value) (xss : List (List Int)) (v : Value) (ws : List Int) (av : Value) (a : List Int) (w : World) (h : scene.GV w v ws u xss) (ha : Ints w av a) (hm : total xss ≤ 1048576) :
    Calls Try.prog 28 #[.agg #[.int .i64 x, u, v], av] w fun e w' => e = .returned (.tuple #[.bool (allR (keptAt xss ws a) x xss ws a).1, .bool (allR (keptAt xss ws a) x xss ws a).2]) ∧ Below w.heap.size w w' := by
  obtain ⟨A, cap, rfl⟩ : ∃ A c, u = .slice A xss.length c := by obtain ⟨A, b, o, cap, R, hu, _⟩ := h.rows.form; exact ⟨A, cap, hu⟩
  obtain ⟨C, cap', rfl⟩ : ∃ A c, v = .slice A ws.length c := by obtain ⟨A, c, hv, _⟩ := h.ints; exact ⟨A, c, by rw [hv, len_i64s]⟩
  obtain ⟨va, vn, vc, rfl⟩ := ha.shape
  have H := Lib.hid h
  have HA := Lib.hid ha
  have K0 := Lib.hid (Blk.new w 28 #[.int .i64 x, .slice A xss.length cap, .slice C ws.length cap'])
  have HI := Lib.hid (scv.impl_scene x _ xss _ ws (w.alloc (.cells #[.int .i64 x, .slice A xss.length cap, .slice C ws.length cap'] 28)) (h.below (below_al (Below.refl _ _) _)) hm)
  clear h ha
  have HP := Lib.hid (all_kept x _ xss _ ws _ a (w.alloc (.cells #[.int .i64 x, .slice A xss.length cap, .slice C ws.length cap'] 28)) (H.out.below (below_al (Below.refl _ _) _)) (HA.out.below (below_al (Below.refl _ _) _)) hm)
  obtain ⟨c0, c1, c2, c3⟩ := scene.three_cells K0.out
  obtain ⟨r, hr⟩ : ∃ r, r = allR (keptAt xss ws a) x xss ws a := ⟨_, rfl⟩
  rw [← hr] at HP ⊢
  obtain ⟨r1, r2⟩ := r
  clear hr HI
  go_enter Try.func28, Try.ntmps28
  go_wp2_with fail
  refine HP.out.mono ?_
  rintro e w1 ⟨rfl, hb1⟩
  have B1 := Lib.hid (below_tr (below_al (Below.refl w.heap.size w) _) hb1)
  clear hb1
  go_wp2_with fail
  go_ret2
  exact ⟨rfl, B1.out⟩



set_option maxRecDepth 100000 in
set_option maxHeartbeats 8000000 in
theorem impl_KeptBy (x : Int) (u : Value) (xss : List (List Int)) (v : Value) (ws : List Int) (av : Value) (a : List Int) (w : World) (h : scene.GV w v ws u xss) (ha : Ints w av a) (hm : total xss ≤ 1048576) :
    Calls Try.prog 22 #[.agg #[.int .i64 x, u, v], av] w fun e w' => ∃ u', e = .returned (.tuple #[u', .bool (keptR x xss ws a).2]) ∧ OwnInts w' w.heap.size w'.heap.size u' (keptR x xss ws a).1 ∧ Below w.heap.size w w' := by
  obtain ⟨A, cap, rfl⟩ : ∃ A c, u = .slice A xss.length c := by obtain ⟨A, b, o, cap, R, hu, _⟩ := h.rows.form; exact ⟨A, cap, hu⟩
  obtain ⟨C, cap', rfl⟩ : ∃ A c, v = .slice A ws.length c := by obtain ⟨A, c, hv, _⟩ := h.ints; exact ⟨A, c, by rw [hv, len_i64s]⟩
  obtain ⟨va, vn, vc, rfl⟩ := ha.shape
  have H := Lib.hid h
  have HA := Lib.hid ha
  have K0 := Lib.hid (Blk.new w 28 #[.int .i64 x, .slice A xss.length cap, .slice C ws.length cap'])
  have HI := Lib.hid (scv.impl_scene x _ xss _ ws (w.alloc (.cells #[.int .i64 x, .slice A xss.length cap, .slice C ws.length cap'] 28)) (h.below (below_al (Below.refl _ _) _)) hm)
  clear h ha
  by_cases hok : okScene x xss ws
  · have HI := HI
    rw [sceneB_yes hok] at HI
    by_cases hb : within x 0 1 a
    · rw [keptR_yes ⟨hok, hb⟩]
      have HB := Lib.hid (fun W hW => play.impl_bits _ a x W (HA.out.below hW))
      have HBB := Lib.hid (withinB_yes hb)
      have HP := Lib.hid (fun W hW => ptp.places_kept x _ xss _ ws a W (H.out.below hW) hok hb)
      have HSI := Lib.hid (fun W hW => signsOf _ a x W (HA.out.below hW) hb hok.ev1)
      clear hok hb
      obtain ⟨c0, c1, c2, c3⟩ := scene.three_cells K0.out
      go_enter Try.func22, Try.ntmps22
      go_wp2_with fail
      refine HI.out.mono ?_
      rintro e w1 ⟨rfl, hb1⟩
      have B1 := Lib.hid (below_tr (below_al (Below.refl w.heap.size w) _) hb1)
      have K1 := Lib.hid (K0.out.below hb1)
      clear c0 c1 c2 c3 hb1
      obtain ⟨c0, c1, c2, c3⟩ := scene.three_cells K1.out
      go_wp2_with fail
      refine (HB.out _ B1.out).mono ?_
      rintro e w' ⟨rfl, rfl⟩
      rw [HBB.out]
      go_wp2_with fail
      go_region_held3 (fun w' => w'.cell? ⟨w.heap.size, 0, none⟩ = some (.int .i64 x) ∧ w'.cell? ⟨w.heap.size, 1, none⟩ = some (.slice A xss.length cap) ∧ w'.cell? ⟨w.heap.size, 2, none⟩ = some (.slice C ws.length cap') ∧ Below w1.heap.size w1 w')
        (((with_reducible refine scene.held3c c0 c1 c2 ?_); (repeat (first | (with_reducible exact Below.refl _ _) | (with_reducible refine below_dr ?_) | (with_reducible refine below_tr ?_ (by assumption))))))
        (first | (go_at_call 58; (with_reducible refine (HSI.out _ (below_tr B1.out ?_)).mono ?_); (repeat (first | (with_reducible exact Below.refl _ _) | (with_reducible refine below_dr ?_) | (with_reducible refine below_tr ?_ (by assumption)))); rintro e wq1 ⟨rfl, hq1⟩) | (go_at_call 57; (with_reducible refine (HP.out _ (below_tr B1.out ?_)).mono ?_); (repeat (first | (with_reducible exact Below.refl _ _) | (with_reducible refine below_dr ?_) | (with_reducible refine below_tr ?_ (by assumption)))); rintro e wq2 ⟨u', rfl, hu', hq2⟩; (obtain ⟨ra, rn, rc, rfl⟩ := hu'.ints.shape)))
      have hbt : Below w1.heap.size w1 wq2 := by repeat (first | (with_reducible exact Below.refl _ _) | (with_reducible refine below_dr ?_) | (with_reducible refine below_tr ?_ (by assumption)))
      have B2 := Lib.hid (below_tr B1.out hbt)
      have HU : Hid (OwnInts wq2 w.heap.size wq2.heap.size (.slice ra rn rc) (kept xss ws a)) := Lib.hid (hu'.mono (by
        have h1 := B1.out.size
        have h2 := hq1.size
        simp at h1 h2 ⊢
        omega) (Nat.le_refl _))
      clear hu' hq1 hq2 hbt
      go_wp2_with fail
      go_ret2
      exact ⟨_, rfl, HU.out, B2.out⟩
    · rw [keptR_no (fun h => hb h.2)]
      have HB := Lib.hid (fun W hW => play.impl_bits _ a x W (HA.out.below hW))
      have HBB := Lib.hid (withinB_no hb)
      clear hok hb
      obtain ⟨c0, c1, c2, c3⟩ := scene.three_cells K0.out
      go_enter Try.func22, Try.ntmps22
      go_wp2_with fail
      refine HI.out.mono ?_
      rintro e w1 ⟨rfl, hb1⟩
      have B1 := Lib.hid (below_tr (below_al (Below.refl w.heap.size w) _) hb1)
      have K1 := Lib.hid (K0.out.below hb1)
      clear c0 c1 c2 c3 hb1
      obtain ⟨c0, c1, c2, c3⟩ := scene.three_cells K1.out
      go_wp2_with fail
      refine (HB.out _ B1.out).mono ?_
      rintro e w' ⟨rfl, rfl⟩
      rw [HBB.out]
      go_wp2_with fail
      go_ret2
      exact ⟨_, rfl, OwnInts.nil _ _ _, B1.out⟩
  · have HI := HI
    rw [sceneB_no hok] at HI
    rw [keptR_no (fun h => hok h.1)]
    clear hok
    obtain ⟨c0, c1, c2, c3⟩ := scene.three_cells K0.out
    go_enter Try.func22, Try.ntmps22
    go_wp2_with fail
    refine HI.out.mono ?_
    rintro e w1 ⟨rfl, hb1⟩
    have B1 := Lib.hid (below_tr (below_al (Below.refl w.heap.size w) _) hb1)
    clear c0 c1 c2 c3 hb1
    go_wp2_with fail
    go_ret2
    exact ⟨_, rfl, OwnInts.nil _ _ _, B1.out⟩



set_option maxRecDepth 100000 in
set_option maxHeartbeats 8000000 in
theorem all_picked (x : Int) (u : Value) (xss : List (List Int)) (v : Value) (ws : List Int) (av : Value) (a : List Int) (w : World) (h : scene.GV w v ws u xss) (ha : Ints w av a) (hm : total xss ≤ 1048576) :
    Calls Try.prog 62 #[.agg #[.int .i64 x, u, v], av, .func (.func 83) #[] #[]] w fun e w' => e = .returned (.tuple #[.bool (allR (pickedAt xss a) x xss ws a).1, .bool (allR (pickedAt xss a) x xss ws a).2]) ∧ Below w.heap.size w w' := by
  obtain ⟨A, cap, rfl⟩ : ∃ A c, u = .slice A xss.length c := by obtain ⟨A, b, o, cap, R, hu, _⟩ := h.rows.form; exact ⟨A, cap, hu⟩
  obtain ⟨C, cap', rfl⟩ : ∃ A c, v = .slice A ws.length c := by obtain ⟨A, c, hv, _⟩ := h.ints; exact ⟨A, c, by rw [hv, len_i64s]⟩
  obtain ⟨va, vn, vc, rfl⟩ := ha.shape
  have H := Lib.hid h
  have HA := Lib.hid ha
  have K0 := Lib.hid (Blk.new w 28 #[.int .i64 x, .slice A xss.length cap, .slice C ws.length cap'])
  have HI := Lib.hid (scv.impl_scene x _ xss _ ws (w.alloc (.cells #[.int .i64 x, .slice A xss.length cap, .slice C ws.length cap'] 28)) (h.below (below_al (Below.refl _ _) _)) hm)
  clear h ha
  by_cases hok : okScene x xss ws
  · have HI := HI
    rw [sceneB_yes hok] at HI
    by_cases hb : within x 0 1 a
    · have HR : Hid (allR (pickedAt xss a) x xss ws a = (full (pickedAt xss a) xss.length, true)) := Lib.hid (allR_in hok hb)
      have HB := Lib.hid (fun W hW => play.impl_bits _ a x W (HA.out.below hW))
      have HBB := Lib.hid (withinB_yes hb)
      have HP := Lib.hid (fun W hW => ptp.places_picked x _ xss _ ws a W (H.out.below hW) hok hb)
      have HSI := Lib.hid (fun W hW => signsOf _ a x W (HA.out.below hW) hb hok.ev1)
      obtain ⟨f, hf⟩ : ∃ f, f = (pickedAt xss a) := ⟨_, rfl⟩
      rw [← hf] at HP HR ⊢
      clear hok hb hf
      obtain ⟨c0, c1, c2, c3⟩ := scene.three_cells K0.out
      go_enter Try.func62, Try.ntmps62
      go_wp2_with fail
      refine HI.out.mono ?_
      rintro e w1 ⟨rfl, hb1⟩
      have B1 := Lib.hid (below_tr (below_al (Below.refl w.heap.size w) _) hb1)
      have K1 := Lib.hid (K0.out.below hb1)
      clear c0 c1 c2 c3 hb1
      obtain ⟨c0, c1, c2, c3⟩ := scene.three_cells K1.out
      go_wp2_with fail
      refine (HB.out _ B1.out).mono ?_
      rintro e w' ⟨rfl, rfl⟩
      rw [HBB.out]
      go_wp2_with fail
      go_region_held3 (fun w' => w'.cell? ⟨w.heap.size, 0, none⟩ = some (.int .i64 x) ∧ w'.cell? ⟨w.heap.size, 1, none⟩ = some (.slice A xss.length cap) ∧ w'.cell? ⟨w.heap.size, 2, none⟩ = some (.slice C ws.length cap') ∧ Below w1.heap.size w1 w')
        (((with_reducible refine scene.held3c c0 c1 c2 ?_); (repeat (first | (with_reducible exact Below.refl _ _) | (with_reducible refine below_dr ?_) | (with_reducible refine below_tr ?_ (by assumption))))))
        (first | (go_at_call 58; (with_reducible refine (HSI.out _ (below_tr B1.out ?_)).mono ?_); (repeat (first | (with_reducible exact Below.refl _ _) | (with_reducible refine below_dr ?_) | (with_reducible refine below_tr ?_ (by assumption)))); rintro e wq1 ⟨rfl, hq1⟩) | (go_at_call 57; (with_reducible refine (HP.out _ (below_tr B1.out ?_)).mono ?_); (repeat (first | (with_reducible exact Below.refl _ _) | (with_reducible refine below_dr ?_) | (with_reducible refine below_tr ?_ (by assumption)))); rintro e wq2 ⟨u', rfl, hu', hq2⟩; (obtain ⟨ra, rc, rfl⟩ : ∃ A c, u' = .slice A (pass f xss.length).length c := by obtain ⟨A, c, hv, _⟩ := hu'.ints; exact ⟨A, c, by rw [hv, len_i64s]⟩)))
      have hbt : Below w1.heap.size w1 wq2 := by repeat (first | (with_reducible exact Below.refl _ _) | (with_reducible refine below_dr ?_) | (with_reducible refine below_tr ?_ (by assumption)))
      have B2 := Lib.hid (below_tr B1.out hbt)
      clear hu' hq1 hq2 hbt
      go_wp2_with fail
      go_ret2
      exact ⟨ret_bb (by rw [HR.out]; rfl), by first | exact B2.out | exact below_dr B2.out⟩
    · have HR := Lib.hid (allR_out (f := pickedAt xss a) hok hb)
      have HB := Lib.hid (fun W hW => play.impl_bits _ a x W (HA.out.below hW))
      have HBB := Lib.hid (withinB_no hb)
      clear hok hb
      obtain ⟨c0, c1, c2, c3⟩ := scene.three_cells K0.out
      go_enter Try.func62, Try.ntmps62
      go_wp2_with fail
      refine HI.out.mono ?_
      rintro e w1 ⟨rfl, hb1⟩
      have B1 := Lib.hid (below_tr (below_al (Below.refl w.heap.size w) _) hb1)
      have K1 := Lib.hid (K0.out.below hb1)
      clear c0 c1 c2 c3 hb1
      obtain ⟨c0, c1, c2, c3⟩ := scene.three_cells K1.out
      go_wp2_with fail
      refine (HB.out _ B1.out).mono ?_
      rintro e w' ⟨rfl, rfl⟩
      rw [HBB.out]
      go_wp2_with fail
      go_ret2
      exact ⟨ret_bb (by rw [HR.out]), B1.out⟩
  · have HI := HI
    rw [sceneB_no hok] at HI
    have HR := Lib.hid (allR_no (f := pickedAt xss a) (a := a) hok)
    clear hok
    obtain ⟨c0, c1, c2, c3⟩ := scene.three_cells K0.out
    go_enter Try.func62, Try.ntmps62
    go_wp2_with fail
    refine HI.out.mono ?_
    rintro e w1 ⟨rfl, hb1⟩
    have B1 := Lib.hid (below_tr (below_al (Below.refl w.heap.size w) _) hb1)
    clear c0 c1 c2 c3 hb1
    go_wp2_with fail
    go_ret2
    exact ⟨ret_bb (by rw [HR.out]), B1.out⟩



set_option maxRecDepth 100000 in
theorem impl_Picks (x : Int) (u : Value) (xss : List (List Int)) (v : Value) (ws : List Int) (av : Value) (a : List Int) (w : World) (h : scene.GV w v ws u xss) (ha : Ints w av a) (hm : total xss ≤ 1048576) :
    Calls Try.prog 45 #[.agg #[.int .i64 x, u, v], av] w fun e w' => e = .returned (.tuple #[.bool (allR (pickedAt xss a) x xss ws a).1, .bool (allR (pickedAt xss a) x xss ws a).2]) ∧ Below w.heap.size w w' := by
  obtain ⟨A, cap, rfl⟩ : ∃ A c, u = .slice A xss.length c := by obtain ⟨A, b, o, cap, R, hu, _⟩ := h.rows.form; exact ⟨A, cap, hu⟩
  obtain ⟨C, cap', rfl⟩ : ∃ A c, v = .slice A ws.length c := by obtain ⟨A, c, hv, _⟩ := h.ints; exact ⟨A, c, by rw [hv, len_i64s]⟩
  obtain ⟨va, vn, vc, rfl⟩ := ha.shape
  have H := Lib.hid h
  have HA := Lib.hid ha
  have K0 := Lib.hid (Blk.new w 28 #[.int .i64 x, .slice A xss.length cap, .slice C ws.length cap'])
  have HI := Lib.hid (scv.impl_scene x _ xss _ ws (w.alloc (.cells #[.int .i64 x, .slice A xss.length cap, .slice C ws.length cap'] 28)) (h.below (below_al (Below.refl _ _) _)) hm)
  clear h ha
  have HP := Lib.hid (all_picked x _ xss _ ws _ a (w.alloc (.cells #[.int .i64 x, .slice A xss.length cap, .slice C ws.length cap'] 28)) (H.out.below (below_al (Below.refl _ _) _)) (HA.out.below (below_al (Below.refl _ _) _)) hm)
  obtain ⟨c0, c1, c2, c3⟩ := scene.three_cells K0.out
  obtain ⟨r, hr⟩ : ∃ r, r = allR (pickedAt xss a) x xss ws a := ⟨_, rfl⟩
  rw [← hr] at HP ⊢
  obtain ⟨r1, r2⟩ := r
  clear hr HI
  go_enter Try.func45, Try.ntmps45
  go_wp2_with fail
  refine HP.out.mono ?_
  rintro e w1 ⟨rfl, hb1⟩
  have B1 := Lib.hid (below_tr (below_al (Below.refl w.heap.size w) _) hb1)
  clear hb1
  go_wp2_with fail
  go_ret2
  exact ⟨rfl, B1.out⟩


end Go.Proofs.Ytkikdecepdbbnaa.ptq
