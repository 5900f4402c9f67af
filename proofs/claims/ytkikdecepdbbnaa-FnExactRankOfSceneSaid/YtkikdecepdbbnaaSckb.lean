/- KeptBy, SolvesScene and Picks of the model. -/
import Derived.Test.YtkikdecepdbbnaaPtq
namespace Go.Proofs.Ytkikdecepdbbnaa.sckb
open Go.RowKit Go.Deep Go.Proofs.Ytkikdecepdbbnaa.base
open Go.Proofs.Ytkikdecepdbbnaa.ints (ret_int ret_no ret_yes infoInt)
open Go.Proofs.Ytkikdecepdbbnaa.rws (total len_le_total)
open Go.Proofs.Ytkikdecepdbbnaa.val (ret_b)
open Go.Proofs.Ytkikdecepdbbnaa.play (within withinB withinB_yes withinB_no ret_bb)
open Go.Proofs.Ytkikdecepdbbnaa.scm
open Go.Proofs.Ytkikdecepdbbnaa.sck (at_ctx spec_ones spec_kept)
open Go.Proofs.Ytkikdecepdbbnaa.ptq (full full_iff allR allR_no allR_out allR_in keptR keptR_yes keptR_no len_keptR)


set_option maxHeartbeats 2000000 in
theorem spec_solves (x : Int) (u : Value) (xss : List (List Int)) (v : Value) (ws : List Int) (av : Value) (a : List Int) (w : World) (h : scene.GV w v ws u xss) (ha : Ints w av a) (hok : okScene x xss ws) (hb : within x 0 1 a) :
    Calls Try.prog 61 #[.agg #[.int .i64 x, u, v], av] w fun e w' => e = .returned (.bool (full (keptAt xss ws a) xss.length)) ∧ Below w.heap.size w w' := by
  obtain ⟨A, cap, rfl⟩ : ∃ A c, u = .slice A xss.length c := by obtain ⟨A, b, o, cap, R, hu, _⟩ := h.rows.form; exact ⟨A, cap, hu⟩
  obtain ⟨C, cap', rfl⟩ : ∃ A c, v = .slice A ws.length c := by obtain ⟨A, c, hv, _⟩ := h.ints; exact ⟨A, c, by rw [hv, len_i64s]⟩
  obtain ⟨va, vn, vc, rfl⟩ := ha.shape
  have H := Lib.hid h
  have HA := Lib.hid ha
  have K0 := Lib.hid (Blk.new w 28 #[.int .i64 x, .slice A xss.length cap, .slice C ws.length cap'])
  have HP := Lib.hid (fun W hW => spec_kept x _ xss _ ws _ a W (H.out.below hW) (HA.out.below hW) hok hb)
  clear h ha
  obtain ⟨c0, c1, c2, c3⟩ := scene.three_cells K0.out
  obtain ⟨w1, hw1⟩ : ∃ w1, w.alloc (.cells #[.int .i64 x, .slice A xss.length cap, .slice C ws.length cap'] 28) = w1 := ⟨_, rfl⟩
  have B1 : Hid (Below w.heap.size w w1) := Lib.hid (by rw [← hw1]; exact below_al (Below.refl _ _) _)
  rw [hw1] at c0 c1 c2 c3
  go_enter Try.func61, Try.ntmps61
  go_wp2_with fail
  go_region_held3 (fun w' => w'.cell? ⟨w.heap.size, 0, none⟩ = some (.int .i64 x) ∧ w'.cell? ⟨w.heap.size, 1, none⟩ = some (.slice A xss.length cap) ∧ w'.cell? ⟨w.heap.size, 2, none⟩ = some (.slice C ws.length cap') ∧ Below w1.heap.size w1 w')
    (((with_reducible refine scene.held3c c0 c1 c2 ?_); (repeat (first | (with_reducible exact Below.refl _ _) | (with_reducible refine below_dr ?_) | (with_reducible refine below_tr ?_ (by assumption))))))
    (first | (go_at_call 56; (with_reducible refine (HP.out _ (below_tr B1.out ?_)).mono ?_); (repeat (first | (with_reducible exact Below.refl _ _) | (with_reducible refine below_dr ?_) | (with_reducible refine below_tr ?_ (by assumption)))); rintro e wq2 ⟨u', rfl, hu', hq2⟩; (obtain ⟨ra, rc, rfl⟩ : ∃ A c, u' = .slice A (kept xss ws a).length c := by obtain ⟨A, c, hv, _⟩ := hu'.ints; exact ⟨A, c, by rw [hv, len_i64s]⟩)))
  have hbt : Below w1.heap.size w1 wq2 := by repeat (first | (with_reducible exact Below.refl _ _) | (with_reducible refine below_dr ?_) | (with_reducible refine below_tr ?_ (by assumption)))
  have B2 := Lib.hid (below_tr B1.out hbt)
  clear hu' hq2 hbt
  go_wp2_with fail
  go_ret
  exact ⟨rfl, by first | exact B2.out | exact below_dr B2.out⟩



set_option maxHeartbeats 2000000 in
theorem spec_picks (x : Int) (u : Value) (xss : List (List Int)) (v : Value) (ws : List Int) (av : Value) (a : List Int) (w : World) (h : scene.GV w v ws u xss) (ha : Ints w av a) (hok : okScene x xss ws) (hb : within x 0 1 a) :
    Calls Try.prog 82 #[.agg #[.int .i64 x, u, v], av] w fun e w' => e = .returned (.bool (full (pickedAt xss a) xss.length)) ∧ Below w.heap.size w w' := by
  have HON := Lib.hid (fun (W : World) (r : Value) (k : Nat) (hk : k < xss.length) (hr : Ints W r xss[k]) (hv : Ints W av a) => spec_ones x r av xss[k] a W hr hv (at_ctx hok hk).1 hb hok.ev0 hok.ev1)
  have HAV := Lib.hid ha
  obtain ⟨A, b, o, cap, R, rfl, hcap, hmax, hA, hc⟩ := h.rows.form
  obtain ⟨C, cap', rfl⟩ : ∃ A c, v = .slice A ws.length c := by obtain ⟨A, c, hv, _⟩ := h.ints; exact ⟨A, c, by rw [hv, len_i64s]⟩
  have hx10 : xss.length ≤ 10 := hok.len
  have HK : Hid (∀ k (hk : k < xss.length), pickedAt xss a k = (ones a xss[k] == 1)) := Lib.hid (fun k hk => by
    obtain ⟨_, e1, _⟩ := at_ctx hok hk
    unfold pickedAt; rw [e1]; rfl)
  obtain ⟨w1, hw1⟩ : ∃ w1, w.alloc (.cells #[.int .i64 x, .slice A xss.length cap, .slice C ws.length cap'] 28) = w1 := ⟨_, rfl⟩
  have K1 : Hid (Blk w1 w.heap.size 28 #[.int .i64 x, .slice A xss.length cap, .slice C ws.length cap']) := Lib.hid (by rw [← hw1]; exact Blk.new w _ _)
  have B1 : Hid (Below w.heap.size w w1) := Lib.hid (by rw [← hw1]; exact below_al (Below.refl _ _) _)
  clear h ha hmax hcap hb
  obtain ⟨c0, c1, c2, c3⟩ := scene.three_cells K1.out
  go_enter Try.func82, Try.ntmps82
  go_wp2_with fail
  go_loopw [4, 5] (fun q i wr => ∃ k : Nat, k ≤ xss.length ∧ i = .int .i64 k ∧ q = .bool false ∧ Hid (∀ j, j < k → pickedAt xss a j = true) ∧ w1 = wr) (fun _ i _ => xss.length - (intOf i).toNat)
  case atStart => exact ⟨0, Nat.zero_le _, rfl, rfl, fun j hj => by omega, rfl⟩
  case round =>
    obtain ⟨k, hk, rfl, rfl, hH, rfl⟩ := hrel
    by_cases hlt : k < xss.length
    · have hkz : (k : Int) < (xss.length : Int) := by omega
      obtain rfl := hA (by omega)
      have g0 := below_cell B1.out _ _ (hc k hlt).1
      have HF := Lib.hid (HON.out w1 (R k) k hlt ((hc k hlt).2.below B1.out) (HAV.out.below B1.out))
      have HKA := Lib.hid (HK.out k hlt)
      have HC := Lib.hid hc
      clear hc hA
      generalize ones a xss[k] = s at *
      by_cases hs : s = 1
      · have HP : Hid (pickedAt xss a k = true) := Lib.hid (by rw [HKA.out, hs]; rfl)
        have ds : (s != 1) = false := by simp [hs]
        clear hs
        go_wp2_with fail
        refine HF.out.mono ?_
        rintro e w' ⟨rfl, rfl⟩
        go_wp2_with fail
        go_roundw
        case rel =>
          refine ⟨k + 1, by omega, by go_num, rfl, fun j hj => ?_, by first | rfl | trivial⟩
          by_cases e : j = k
          · subst e; exact HP.out
          · exact hH.out j (by omega)
        case measure => simp [intOf]; omega
      · have HN : Hid (full (pickedAt xss a) xss.length = false) := Lib.hid (by
          rw [Bool.eq_false_iff]
          intro hf
          have := (full_iff _ _).1 hf k hlt
          rw [HKA.out] at this
          exact hs (by simpa using this))
        have ds : (s != 1) = true := by simp [hs]
        clear hs
        go_wp2_with fail
        refine HF.out.mono ?_
        rintro e w' ⟨rfl, rfl⟩
        go_wp2_with fail
        go_ret
        exact ⟨ret_b HN.out.symm, B1.out⟩
    · have hkz : ¬ (k : Int) < (xss.length : Int) := by omega
      have HN : Hid (full (pickedAt xss a) xss.length = true) := Lib.hid ((full_iff _ _).2 (fun j hj => hH.out j (by omega)))
      clear hc hA
      go_wp2_with fail
      go_ret
      exact ⟨ret_b HN.out.symm, B1.out⟩



set_option maxHeartbeats 2000000 in
theorem spec_SolvesScene (x : Int) (u : Value) (xss : List (List Int)) (v : Value) (ws : List Int) (av : Value) (a : List Int) (w : World) (h : scene.GV w v ws u xss) (ha : Ints w av a) (hm : total xss ≤ 1048576) :
    Calls Try.prog 27 #[.agg #[.int .i64 x, u, v], av] w fun e w' => e = .returned (.tuple #[.bool (allR (keptAt xss ws a) x xss ws a).1, .bool (allR (keptAt xss ws a) x xss ws a).2]) ∧ Below w.heap.size w w' := by
  obtain ⟨A, cap, rfl⟩ : ∃ A c, u = .slice A xss.length c := by obtain ⟨A, b, o, cap, R, hu, _⟩ := h.rows.form; exact ⟨A, cap, hu⟩
  obtain ⟨C, cap', rfl⟩ : ∃ A c, v = .slice A ws.length c := by obtain ⟨A, c, hv, _⟩ := h.ints; exact ⟨A, c, by rw [hv, len_i64s]⟩
  obtain ⟨va, vn, vc, rfl⟩ := ha.shape
  have H := Lib.hid h
  have HA := Lib.hid ha
  have K0 := Lib.hid (Blk.new w 28 #[.int .i64 x, .slice A xss.length cap, .slice C ws.length cap'])
  have HI := Lib.hid (scv.spec_good x _ xss _ ws (w.alloc (.cells #[.int .i64 x, .slice A xss.length cap, .slice C ws.length cap'] 28)) (h.below (below_al (Below.refl _ _) _)) hm)
  clear h ha
  by_cases hok : okScene x xss ws
  · have HI := HI
    rw [sceneB_yes hok] at HI
    have HB := Lib.hid (fun W hW => play.spec_bits _ a x W (HA.out.below hW))
    by_cases hb : within x 0 1 a
    · have HR : Hid (allR (keptAt xss ws a) x xss ws a = (full (keptAt xss ws a) xss.length, true)) := Lib.hid (allR_in hok hb)
      have HBB := Lib.hid (withinB_yes hb)
      have HP := Lib.hid (fun W hW => spec_solves x _ xss _ ws _ a W (H.out.below hW) (HA.out.below hW) hok hb)
      obtain ⟨f, hf⟩ : ∃ f, f = full (keptAt xss ws a) xss.length := ⟨_, rfl⟩
      rw [← hf] at HP HR
      clear hok hb hf
      obtain ⟨c0, c1, c2, c3⟩ := scene.three_cells K0.out
      go_enter Try.func27, Try.ntmps27
      go_wp2_with fail
      refine HI.out.mono ?_
      rintro e w1 ⟨rfl, hb1⟩
      have B1 := Lib.hid (below_tr (below_al (Below.refl w.heap.size w) _) hb1)
      have K1 := Lib.hid (K0.out.below hb1)
      clear c0 c1 c2 c3 hb1
      obtain ⟨c0, c1, c2, c3⟩ := scene.three_cells K1.out
      go_wp2_with fail
      refine (HB.out _ B1.out).mono ?_
      rintro e w' ⟨rfl, rfl⟩
      rw [HBB.out]
      go_wp2_with fail
      refine (HP.out _ B1.out).mono ?_
      rintro e w2 ⟨rfl, hb2⟩
      have B2 := Lib.hid (below_tr B1.out hb2)
      clear hb2
      go_wp2_with fail
      go_ret2
      exact ⟨ret_bb (by rw [HR.out]), B2.out⟩
    · have HR := Lib.hid (allR_out (f := keptAt xss ws a) hok hb)
      have HBB := Lib.hid (withinB_no hb)
      clear hok hb
      obtain ⟨c0, c1, c2, c3⟩ := scene.three_cells K0.out
      go_enter Try.func27, Try.ntmps27
      go_wp2_with fail
      refine HI.out.mono ?_
      rintro e w1 ⟨rfl, hb1⟩
      have B1 := Lib.hid (below_tr (below_al (Below.refl w.heap.size w) _) hb1)
      have K1 := Lib.hid (K0.out.below hb1)
      clear c0 c1 c2 c3 hb1
      obtain ⟨c0, c1, c2, c3⟩ := scene.three_cells K1.out
      go_wp2_with fail
      refine (HB.out _ B1.out).mono ?_
      rintro e w' ⟨rfl, rfl⟩
      rw [HBB.out]
      go_wp2_with fail
      go_ret2
      exact ⟨ret_bb (by rw [HR.out]), B1.out⟩
  · have HI := HI
    rw [sceneB_no hok] at HI
    have HR := Lib.hid (allR_no (f := keptAt xss ws a) (a := a) hok)
    clear hok
    obtain ⟨c0, c1, c2, c3⟩ := scene.three_cells K0.out
    go_enter Try.func27, Try.ntmps27
    go_wp2_with fail
    refine HI.out.mono ?_
    rintro e w1 ⟨rfl, hb1⟩
    have B1 := Lib.hid (below_tr (below_al (Below.refl w.heap.size w) _) hb1)
    have K1 := Lib.hid (K0.out.below hb1)
    clear c0 c1 c2 c3 hb1
    obtain ⟨c0, c1, c2, c3⟩ := scene.three_cells K1.out
    go_wp2_with fail
    go_ret2
    exact ⟨ret_bb (by rw [HR.out]), B1.out⟩



set_option maxHeartbeats 2000000 in
theorem spec_Picks (x : Int) (u : Value) (xss : List (List Int)) (v : Value) (ws : List Int) (av : Value) (a : List Int) (w : World) (h : scene.GV w v ws u xss) (ha : Ints w av a) (hm : total xss ≤ 1048576) :
    Calls Try.prog 44 #[.agg #[.int .i64 x, u, v], av] w fun e w' => e = .returned (.tuple #[.bool (allR (pickedAt xss a) x xss ws a).1, .bool (allR (pickedAt xss a) x xss ws a).2]) ∧ Below w.heap.size w w' := by
  obtain ⟨A, cap, rfl⟩ : ∃ A c, u = .slice A xss.length c := by obtain ⟨A, b, o, cap, R, hu, _⟩ := h.rows.form; exact ⟨A, cap, hu⟩
  obtain ⟨C, cap', rfl⟩ : ∃ A c, v = .slice A ws.length c := by obtain ⟨A, c, hv, _⟩ := h.ints; exact ⟨A, c, by rw [hv, len_i64s]⟩
  obtain ⟨va, vn, vc, rfl⟩ := ha.shape
  have H := Lib.hid h
  have HA := Lib.hid ha
  have K0 := Lib.hid (Blk.new w 28 #[.int .i64 x, .slice A xss.length cap, .slice C ws.length cap'])
  have HI := Lib.hid (scv.spec_good x _ xss _ ws (w.alloc (.cells #[.int .i64 x, .slice A xss.length cap, .slice C ws.length cap'] 28)) (h.below (below_al (Below.refl _ _) _)) hm)
  clear h ha
  by_cases hok : okScene x xss ws
  · have HI := HI
    rw [sceneB_yes hok] at HI
    have HB := Lib.hid (fun W hW => play.spec_bits _ a x W (HA.out.below hW))
    by_cases hb : within x 0 1 a
    · have HR : Hid (allR (pickedAt xss a) x xss ws a = (full (pickedAt xss a) xss.length, true)) := Lib.hid (allR_in hok hb)
      have HBB := Lib.hid (withinB_yes hb)
      have HP := Lib.hid (fun W hW => spec_picks x _ xss _ ws _ a W (H.out.below hW) (HA.out.below hW) hok hb)
      obtain ⟨f, hf⟩ : ∃ f, f = full (pickedAt xss a) xss.length := ⟨_, rfl⟩
      rw [← hf] at HP HR
      clear hok hb hf
      obtain ⟨c0, c1, c2, c3⟩ := scene.three_cells K0.out
      go_enter Try.func44, Try.ntmps44
      go_wp2_with fail
      refine HI.out.mono ?_
      rintro e w1 ⟨rfl, hb1⟩
      have B1 := Lib.hid (below_tr (below_al (Below.refl w.heap.size w) _) hb1)
      have K1 := Lib.hid (K0.out.below hb1)
      clear c0 c1 c2 c3 hb1
      obtain ⟨c0, c1, c2, c3⟩ := scene.three_cells K1.out
      go_wp2_with fail
      refine (HB.out _ B1.out).mono ?_
      rintro e w' ⟨rfl, rfl⟩
      rw [HBB.out]
      go_wp2_with fail
      refine (HP.out _ B1.out).mono ?_
      rintro e w2 ⟨rfl, hb2⟩
      have B2 := Lib.hid (below_tr B1.out hb2)
      clear hb2
      go_wp2_with fail
      go_ret2
      exact ⟨ret_bb (by rw [HR.out]), B2.out⟩
    · have HR := Lib.hid (allR_out (f := pickedAt xss a) hok hb)
      have HBB := Lib.hid (withinB_no hb)
      clear hok hb
      obtain ⟨c0, c1, c2, c3⟩ := scene.three_cells K0.out
      go_enter Try.func44, Try.ntmps44
      go_wp2_with fail
      refine HI.out.mono ?_
      rintro e w1 ⟨rfl, hb1⟩
      have B1 := Lib.hid (below_tr (below_al (Below.refl w.heap.size w) _) hb1)
      have K1 := Lib.hid (K0.out.below hb1)
      clear c0 c1 c2 c3 hb1
      obtain ⟨c0, c1, c2, c3⟩ := scene.three_cells K1.out
      go_wp2_with fail
      refine (HB.out _ B1.out).mono ?_
      rintro e w' ⟨rfl, rfl⟩
      rw [HBB.out]
      go_wp2_with fail
      go_ret2
      exact ⟨ret_bb (by rw [HR.out]), B1.out⟩
  · have HI := HI
    rw [sceneB_no hok] at HI
    have HR := Lib.hid (allR_no (f := pickedAt xss a) (a := a) hok)
    clear hok
    obtain ⟨c0, c1, c2, c3⟩ := scene.three_cells K0.out
    go_enter Try.func44, Try.ntmps44
    go_wp2_with fail
    refine HI.out.mono ?_
    rintro e w1 ⟨rfl, hb1⟩
    have B1 := Lib.hid (below_tr (below_al (Below.refl w.heap.size w) _) hb1)
    have K1 := Lib.hid (K0.out.below hb1)
    clear c0 c1 c2 c3 hb1
    obtain ⟨c0, c1, c2, c3⟩ := scene.three_cells K1.out
    go_wp2_with fail
    go_ret2
    exact ⟨ret_bb (by rw [HR.out]), B1.out⟩



set_option maxHeartbeats 2000000 in
theorem spec_KeptBy (x : Int) (u : Value) (xss : List (List Int)) (v : Value) (ws : List Int) (av : Value) (a : List Int) (w : World) (h : scene.GV w v ws u xss) (ha : Ints w av a) (hm : total xss ≤ 1048576) :
    Calls Try.prog 20 #[.agg #[.int .i64 x, u, v], av] w fun e w' => ∃ u', e = .returned (.tuple #[u', .bool (keptR x xss ws a).2]) ∧ Ints w' u' (keptR x xss ws a).1 ∧ Below w.heap.size w w' := by
  obtain ⟨A, cap, rfl⟩ : ∃ A c, u = .slice A xss.length c := by obtain ⟨A, b, o, cap, R, hu, _⟩ := h.rows.form; exact ⟨A, cap, hu⟩
  obtain ⟨C, cap', rfl⟩ : ∃ A c, v = .slice A ws.length c := by obtain ⟨A, c, hv, _⟩ := h.ints; exact ⟨A, c, by rw [hv, len_i64s]⟩
  obtain ⟨va, vn, vc, rfl⟩ := ha.shape
  have H := Lib.hid h
  have HA := Lib.hid ha
  have K0 := Lib.hid (Blk.new w 28 #[.int .i64 x, .slice A xss.length cap, .slice C ws.length cap'])
  have HI := Lib.hid (scv.spec_good x _ xss _ ws (w.alloc (.cells #[.int .i64 x, .slice A xss.length cap, .slice C ws.length cap'] 28)) (h.below (below_al (Below.refl _ _) _)) hm)
  clear h ha
  by_cases hok : okScene x xss ws
  · have HI := HI
    rw [sceneB_yes hok] at HI
    have HB := Lib.hid (fun W hW => play.spec_bits _ a x W (HA.out.below hW))
    by_cases hb : within x 0 1 a
    · rw [keptR_yes ⟨hok, hb⟩]
      have HBB := Lib.hid (withinB_yes hb)
      have HP := Lib.hid (fun W hW => spec_kept x _ xss _ ws _ a W (H.out.below hW) (HA.out.below hW) hok hb)
      clear hok hb
      obtain ⟨c0, c1, c2, c3⟩ := scene.three_cells K0.out
      go_enter Try.func20, Try.ntmps20
      go_wp2_with fail
      refine HI.out.mono ?_
      rintro e w1 ⟨rfl, hb1⟩
      have B1 := Lib.hid (below_tr (below_al (Below.refl w.heap.size w) _) hb1)
      have K1 := Lib.hid (K0.out.below hb1)
      clear c0 c1 c2 c3 hb1
      obtain ⟨c0, c1, c2, c3⟩ := scene.three_cells K1.out
      go_wp2_with fail
      refine (HB.out _ B1.out).mono ?_
      rintro e w' ⟨rfl, rfl⟩
      rw [HBB.out]
      go_wp2_with fail
      refine (HP.out _ B1.out).mono ?_
      rintro e w2 ⟨u', rfl, hu, hb2⟩
      obtain ⟨ra, rn, rc, rfl⟩ := hu.ints.shape
      have B2 := Lib.hid (below_tr B1.out hb2)
      have HU := Lib.hid hu.ints
      clear hb2 hu
      go_wp2_with fail
      go_ret2
      exact ⟨_, rfl, HU.out, B2.out⟩
    · rw [keptR_no (fun h => hb h.2)]
      have HBB := Lib.hid (withinB_no hb)
      clear hok hb
      obtain ⟨c0, c1, c2, c3⟩ := scene.three_cells K0.out
      go_enter Try.func20, Try.ntmps20
      go_wp2_with fail
      refine HI.out.mono ?_
      rintro e w1 ⟨rfl, hb1⟩
      have B1 := Lib.hid (below_tr (below_al (Below.refl w.heap.size w) _) hb1)
      have K1 := Lib.hid (K0.out.below hb1)
      clear c0 c1 c2 c3 hb1
      obtain ⟨c0, c1, c2, c3⟩ := scene.three_cells K1.out
      go_wp2_with fail
      refine (HB.out _ B1.out).mono ?_
      rintro e w' ⟨rfl, rfl⟩
      rw [HBB.out]
      go_wp2_with fail
      go_ret2
      exact ⟨_, rfl, app.empty _ _ _ (Nat.zero_le _), by first | exact B1.out | exact below_al B1.out _⟩
  · have HI := HI
    rw [sceneB_no hok] at HI
    rw [keptR_no (fun h => hok h.1)]
    clear hok
    obtain ⟨c0, c1, c2, c3⟩ := scene.three_cells K0.out
    go_enter Try.func20, Try.ntmps20
    go_wp2_with fail
    refine HI.out.mono ?_
    rintro e w1 ⟨rfl, hb1⟩
    have B1 := Lib.hid (below_tr (below_al (Below.refl w.heap.size w) _) hb1)
    have K1 := Lib.hid (K0.out.below hb1)
    clear c0 c1 c2 c3 hb1
    obtain ⟨c0, c1, c2, c3⟩ := scene.three_cells K1.out
    go_wp2_with fail
    go_ret2
    exact ⟨_, rfl, app.empty _ _ _ (Nat.zero_le _), by first | exact B1.out | exact below_al B1.out _⟩


end Go.Proofs.Ytkikdecepdbbnaa.sckb
