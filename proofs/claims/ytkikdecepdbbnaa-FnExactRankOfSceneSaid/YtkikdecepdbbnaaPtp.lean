/- placesThatPass and allPass of the program; KeptBy, SolvesScene and Picks. -/
import Derived.Test.YtkikdecepdbbnaaSgk
namespace Go.Proofs.Ytkikdecepdbbnaa.ptp
open Go.RowKit Go.Deep Go.Proofs.Ytkikdecepdbbnaa.base
open Go.Proofs.Ytkikdecepdbbnaa.ints (ret_int ret_no ret_yes infoInt)
open Go.Proofs.Ytkikdecepdbbnaa.rws (total len_le_total)
open Go.Proofs.Ytkikdecepdbbnaa.val (ret_b)
open Go.Proofs.Ytkikdecepdbbnaa.play (within withinB withinB_yes withinB_no ret_bb)
open Go.Proofs.Ytkikdecepdbbnaa.scm
open Go.Proofs.Ytkikdecepdbbnaa.sck (asg at_ctx)
open Go.Proofs.Ytkikdecepdbbnaa.sgs


set_option maxRecDepth 100000 in
set_option maxHeartbeats 8000000 in
theorem places_kept (x : Int) (u : Value) (xss : List (List Int)) (v : Value) (ws a : List Int) (w : World) (h : scene.GV w v ws u xss) (hok : okScene x xss ws) (hb : within x 0 1 a) :
    Calls Try.prog 57 #[.agg #[.int .i64 x, u, v], sv (sign a), .func (.func 59) #[] #[]] w fun e w' => ∃ u', e = .returned u' ∧ OwnInts w' w.heap.size w'.heap.size u' (pass (keptAt xss ws a) xss.length) ∧ Below w.heap.size w w' := by
  obtain ⟨i0, hi, hz0, hz1, hz2⟩ := info_parts infoInt
  have HT : Hid (∀ (W : World) (p : Nat), Below w.heap.size w W → p < xss.length → Calls Try.prog 59 #[.agg #[.int .i64 x, u, v], .int .i64 (p : Int), sv (sign a)] W fun e w' => e = .returned (.bool ((keptAt xss ws a) p)) ∧ Below W.heap.size W w') := Lib.hid (fun W p hW hp => sgk.isKept x u xss v ws a p W (h.below hW) hok hb hp)
  obtain ⟨f, hf⟩ : ∃ f, f = (keptAt xss ws a) := ⟨_, rfl⟩
  rw [← hf] at HT ⊢
  obtain ⟨A, cap, rfl⟩ : ∃ A c, u = .slice A xss.length c := by obtain ⟨A, b, o, cap, R, hu, _⟩ := h.rows.form; exact ⟨A, cap, hu⟩
  obtain ⟨C, cap', rfl⟩ : ∃ A c, v = .slice A ws.length c := by obtain ⟨A, c, hv, _⟩ := h.ints; exact ⟨A, c, by rw [hv, len_i64s]⟩
  have hx10 := hok.len
  obtain ⟨w2, hw2⟩ : ∃ w2, (w.alloc (.cells #[.int .i64 x, .slice A xss.length cap, .slice C ws.length cap'] 28)).alloc (.cells #[.int .i64 (sign a 0), .int .i64 (sign a 1), .int .i64 (sign a 2), .int .i64 (sign a 3), .int .i64 (sign a 4), .int .i64 (sign a 5), .int .i64 (sign a 6), .int .i64 (sign a 7), .int .i64 (sign a 8), .int .i64 (sign a 9), .int .i64 (sign a 10), .int .i64 (sign a 11)] 59) = w2 := ⟨_, rfl⟩
  have hsz : w2.heap.size = w.heap.size + 1 + 1 := by rw [← hw2]; simp
  have KB : Hid (Blk w2 w.heap.size 28 #[.int .i64 x, .slice A xss.length cap, .slice C ws.length cap']) := Lib.hid (by rw [← hw2]; exact (Blk.new w _ _).alloc _)
  have KS : Hid (Blk w2 (w.heap.size + 1) 59 #[.int .i64 (sign a 0), .int .i64 (sign a 1), .int .i64 (sign a 2), .int .i64 (sign a 3), .int .i64 (sign a 4), .int .i64 (sign a 5), .int .i64 (sign a 6), .int .i64 (sign a 7), .int .i64 (sign a 8), .int .i64 (sign a 9), .int .i64 (sign a 10), .int .i64 (sign a 11)]) := Lib.hid (by
    have := Blk.new (w.alloc (.cells #[.int .i64 x, .slice A xss.length cap, .slice C ws.length cap'] 28)) 59 #[.int .i64 (sign a 0), .int .i64 (sign a 1), .int .i64 (sign a 2), .int .i64 (sign a 3), .int .i64 (sign a 4), .int .i64 (sign a 5), .int .i64 (sign a 6), .int .i64 (sign a 7), .int .i64 (sign a 8), .int .i64 (sign a 9), .int .i64 (sign a 10), .int .i64 (sign a 11)]
    rw [← hw2]
    simpa using this)
  have BW : Hid (Below w.heap.size w w2) := Lib.hid (by rw [← hw2]; exact below_al (below_al (Below.refl _ _) _) _)
  have HSZ := Lib.hid hsz
  clear hsz
  have O0 : Hid ((w2.alloc (.cells (madeCells #[.int .i64 0] xss.length) 3)).ownsRow (w.heap.size + 1 + 1) 3 1 (.slice (some ⟨w2.heap.size, 0, none⟩) 0 xss.length) 0 (i64s (pass f 0))) := Lib.hid (by
    have := World.ownsRow_made (base := w.heap.size + 1 + 1) (e := 3) (size := 1) w2 (madeCells #[.int .i64 0] xss.length) xss.length (by rw [HSZ.out]; omega) (by unfold maxLen; omega) (by simp [madeCells])
    simpa [i64s, pass] using this)
  have B0 : Hid (Below w.heap.size w (w2.alloc (.cells (madeCells #[.int .i64 0] xss.length) 3))) := Lib.hid (below_al BW.out _)
  have KB1 := Lib.hid (KB.out.alloc (.cells (madeCells #[.int .i64 0] xss.length) 3))
  have KS1 := Lib.hid (KS.out.alloc (.cells (madeCells #[.int .i64 0] xss.length) 3))
  have hmk := app.mk0 xss.length (by omega) w2
  obtain ⟨c0, c1, c2, c3⟩ := scene.three_cells KB.out
  clear h hok hb hf
  unfold sv l12 at *
  go_enter Try.func57, Try.ntmps57
  go_wp2_with fail
  go_loopw [7, 8, 16] (fun out z i wr => ∃ k : Nat, k ≤ xss.length ∧ i = .int .i64 k ∧ (∃ z', z = z') ∧ ∃ m, Hid (wr.ownsRow (w.heap.size + 1 + 1) 3 1 out m (i64s (pass f k))) ∧ Hid (Below w.heap.size w wr) ∧ Hid (Blk wr w.heap.size 28 #[.int .i64 x, .slice A xss.length cap, .slice C ws.length cap']) ∧ Hid (Blk wr (w.heap.size + 1) 59 #[.int .i64 (sign a 0), .int .i64 (sign a 1), .int .i64 (sign a 2), .int .i64 (sign a 3), .int .i64 (sign a 4), .int .i64 (sign a 5), .int .i64 (sign a 6), .int .i64 (sign a 7), .int .i64 (sign a 8), .int .i64 (sign a 9), .int .i64 (sign a 10), .int .i64 (sign a 11)])) (fun _ _ i _ => xss.length - (intOf i).toNat)
  case atStart => exact ⟨0, Nat.zero_le _, rfl, ⟨_, rfl⟩, _, O0, B0, KB1, KS1⟩
  case round =>
    obtain ⟨k, hk, rfl, ⟨z', rfl⟩, m, hO, hB, hK, hS⟩ := hrel
    clear B0 KB1 KS1 O0 KB KS BW c0 c1 c2 c3 hw2
    obtain ⟨wi, rfl⟩ : ∃ wi : World, wi = wr := ⟨_, rfl⟩
    by_cases hlt : k < xss.length
    · have hkz : (k : Int) < (xss.length : Int) := by omega
      obtain rfl : m = (pass f k).length := by
        have := hO.out.1
        rw [len_i64s] at this; omega
      have HLE := Lib.hid (len_pass f k)
      have HF := Lib.hid (HT.out wi k hB.out hlt)
      obtain ⟨c0, c1, c2, c3⟩ := scene.three_cells hK.out
      obtain ⟨s0, s1, s2, s3, s4, s5, s6, s7, s8, s9, s10, s11, sl⟩ := cells12 hS.out
      cases hfk : f k with
      | true =>
        have HL : Hid (pass f (k + 1) = pass f k ++ [(k : Int)]) := Lib.hid (pass_yes hfk)
        rw [hfk] at HF
        clear hfk
        go_wp2_with fail
        refine HF.out.mono ?_
        rintro e w3 ⟨rfl, hb⟩
        have B2 := Lib.hid (below_tr hB.out hb)
        have K2 := Lib.hid (hK.out.below hb)
        have S2 := Lib.hid (hS.out.below hb)
        have O2 := Lib.hid (app.owns_below hO.out hb)
        clear hb c0 c1 c2 c3 s0 s1 s2 s3 s4 s5 s6 s7 s8 s9 s10 s11 sl
        have hsz2 := B2.out.size
        go_wp2_with (at_builtin; go_must (refine wpList_append_own _ rfl (.tmp 24) (.tmp 26) 23 rfl (w.heap.size + 1 + 1) 3 i0 (.int .i64 0) 1 8 Try.underlying23 hi hz0 hz1 hz2 rfl (by decide) _ _ _ rfl (O2.out.alloc _) ⟨w3.heap.size, 0, none⟩ 1 1 [.int .i64 (k : Int)] rfl rfl ?c1 ?c2 ?c3 ?c4 ?c5 ?_))
        case c1 => exact app.one_at _ _ _
        case c2 => intro u hu; simp at hu; subst hu; rfl
        case c3 => have := HLE.out; unfold maxLen; omega
        case c4 => have := HLE.out; omega
        case c5 => have := S2.out.lt; simp; omega
        intro v' w4 hown' hgrow _
        have O3 : Hid (w4.ownsRow (w.heap.size + 1 + 1) 3 1 v' (pass f (k + 1)).length (i64s (pass f (k + 1)))) := Lib.hid (by
          rw [HL.out, ← app.i64s_snoc, List.length_append]; exact hown')
        have B3 : Hid (Below w.heap.size w w4) := Lib.hid ((below_al B2.out _).grown hgrow (by have := B2.out.size; simp; omega) (fun j hj => by have := (O2.out.lt j hj).1; omega))
        have K3 : Hid (Blk w4 w.heap.size 28 #[.int .i64 x, .slice A xss.length cap, .slice C ws.length cap']) := Lib.hid ((hgrow.block _ (K2.out.alloc _).lt (fun e => by have := (O2.out.lt _ e.symm).1; omega)).trans (K2.out.alloc _))
        have S3 : Hid (Blk w4 (w.heap.size + 1) 59 #[.int .i64 (sign a 0), .int .i64 (sign a 1), .int .i64 (sign a 2), .int .i64 (sign a 3), .int .i64 (sign a 4), .int .i64 (sign a 5), .int .i64 (sign a 6), .int .i64 (sign a 7), .int .i64 (sign a 8), .int .i64 (sign a 9), .int .i64 (sign a 10), .int .i64 (sign a 11)]) := Lib.hid ((hgrow.block _ (S2.out.alloc _).lt (fun e => by have := (O2.out.lt _ e.symm).1; omega)).trans (S2.out.alloc _))
        obtain ⟨xa, xl, xc, rfl⟩ := make.shape hown'
        clear hown' hgrow B2 K2 O2 S2 hsz2
        go_wp2_with fail
        go_roundw
        case rel => exact ⟨k + 1, by omega, by go_num, ⟨_, rfl⟩, _, O3, B3, K3, S3⟩
        case measure => simp [intOf]; omega
      | false =>
        have HL : Hid (pass f (k + 1) = pass f k) := Lib.hid (pass_no hfk)
        rw [hfk] at HF
        clear hfk
        go_wp2_with fail
        refine HF.out.mono ?_
        rintro e w3 ⟨rfl, hb⟩
        have B2 := Lib.hid (below_tr hB.out hb)
        have K2 := Lib.hid (hK.out.below hb)
        have S2 := Lib.hid (hS.out.below hb)
        have O2 : Hid (w3.ownsRow (w.heap.size + 1 + 1) 3 1 _ _ (i64s (pass f (k + 1)))) := Lib.hid (by rw [HL.out]; exact app.owns_below hO.out hb)
        clear hb c0 c1 c2 c3 s0 s1 s2 s3 s4 s5 s6 s7 s8 s9 s10 s11 sl
        go_wp2_with fail
        go_roundw
        case rel => exact ⟨k + 1, by omega, by go_num, ⟨_, rfl⟩, _, O2, B2, K2, S2⟩
        case measure => simp [intOf]; omega
    · have hkz : ¬ (k : Int) < (xss.length : Int) := by omega
      obtain rfl : k = xss.length := by omega
      have O2 := Lib.hid (app.ints_of_owns hO.out)
      obtain ⟨ra, rn, rc, rfl⟩ := O2.out.ints.shape
      go_wp2_with fail
      go_ret
      exact ⟨_, rfl, O2.out.mono (by omega) (Nat.le_refl _), hB.out⟩



set_option maxRecDepth 100000 in
set_option maxHeartbeats 8000000 in
theorem places_picked (x : Int) (u : Value) (xss : List (List Int)) (v : Value) (ws a : List Int) (w : World) (h : scene.GV w v ws u xss) (hok : okScene x xss ws) (hb : within x 0 1 a) :
    Calls Try.prog 57 #[.agg #[.int .i64 x, u, v], sv (sign a), .func (.func 83) #[] #[]] w fun e w' => ∃ u', e = .returned u' ∧ OwnInts w' w.heap.size w'.heap.size u' (pass (pickedAt xss a) xss.length) ∧ Below w.heap.size w w' := by
  obtain ⟨i0, hi, hz0, hz1, hz2⟩ := info_parts infoInt
  have HT : Hid (∀ (W : World) (p : Nat), Below w.heap.size w W → p < xss.length → Calls Try.prog 83 #[.agg #[.int .i64 x, u, v], .int .i64 (p : Int), sv (sign a)] W fun e w' => e = .returned (.bool ((pickedAt xss a) p)) ∧ Below W.heap.size W w') := Lib.hid (fun W p hW hp => sgk.isPicked x u xss v ws a p W (h.below hW) hok hb hp)
  obtain ⟨f, hf⟩ : ∃ f, f = (pickedAt xss a) := ⟨_, rfl⟩
  rw [← hf] at HT ⊢
  obtain ⟨A, cap, rfl⟩ : ∃ A c, u = .slice A xss.length c := by obtain ⟨A, b, o, cap, R, hu, _⟩ := h.rows.form; exact ⟨A, cap, hu⟩
  obtain ⟨C, cap', rfl⟩ : ∃ A c, v = .slice A ws.length c := by obtain ⟨A, c, hv, _⟩ := h.ints; exact ⟨A, c, by rw [hv, len_i64s]⟩
  have hx10 := hok.len
  obtain ⟨w2, hw2⟩ : ∃ w2, (w.alloc (.cells #[.int .i64 x, .slice A xss.length cap, .slice C ws.length cap'] 28)).alloc (.cells #[.int .i64 (sign a 0), .int .i64 (sign a 1), .int .i64 (sign a 2), .int .i64 (sign a 3), .int .i64 (sign a 4), .int .i64 (sign a 5), .int .i64 (sign a 6), .int .i64 (sign a 7), .int .i64 (sign a 8), .int .i64 (sign a 9), .int .i64 (sign a 10), .int .i64 (sign a 11)] 59) = w2 := ⟨_, rfl⟩
  have hsz : w2.heap.size = w.heap.size + 1 + 1 := by rw [← hw2]; simp
  have KB : Hid (Blk w2 w.heap.size 28 #[.int .i64 x, .slice A xss.length cap, .slice C ws.length cap']) := Lib.hid (by rw [← hw2]; exact (Blk.new w _ _).alloc _)
  have KS : Hid (Blk w2 (w.heap.size + 1) 59 #[.int .i64 (sign a 0), .int .i64 (sign a 1), .int .i64 (sign a 2), .int .i64 (sign a 3), .int .i64 (sign a 4), .int .i64 (sign a 5), .int .i64 (sign a 6), .int .i64 (sign a 7), .int .i64 (sign a 8), .int .i64 (sign a 9), .int .i64 (sign a 10), .int .i64 (sign a 11)]) := Lib.hid (by
    have := Blk.new (w.alloc (.cells #[.int .i64 x, .slice A xss.length cap, .slice C ws.length cap'] 28)) 59 #[.int .i64 (sign a 0), .int .i64 (sign a 1), .int .i64 (sign a 2), .int .i64 (sign a 3), .int .i64 (sign a 4), .int .i64 (sign a 5), .int .i64 (sign a 6), .int .i64 (sign a 7), .int .i64 (sign a 8), .int .i64 (sign a 9), .int .i64 (sign a 10), .int .i64 (sign a 11)]
    rw [← hw2]
    simpa using this)
  have BW : Hid (Below w.heap.size w w2) := Lib.hid (by rw [← hw2]; exact below_al (below_al (Below.refl _ _) _) _)
  have HSZ := Lib.hid hsz
  clear hsz
  have O0 : Hid ((w2.alloc (.cells (madeCells #[.int .i64 0] xss.length) 3)).ownsRow (w.heap.size + 1 + 1) 3 1 (.slice (some ⟨w2.heap.size, 0, none⟩) 0 xss.length) 0 (i64s (pass f 0))) := Lib.hid (by
    have := World.ownsRow_made (base := w.heap.size + 1 + 1) (e := 3) (size := 1) w2 (madeCells #[.int .i64 0] xss.length) xss.length (by rw [HSZ.out]; omega) (by unfold maxLen; omega) (by simp [madeCells])
    simpa [i64s, pass] using this)
  have B0 : Hid (Below w.heap.size w (w2.alloc (.cells (madeCells #[.int .i64 0] xss.length) 3))) := Lib.hid (below_al BW.out _)
  have KB1 := Lib.hid (KB.out.alloc (.cells (madeCells #[.int .i64 0] xss.length) 3))
  have KS1 := Lib.hid (KS.out.alloc (.cells (madeCells #[.int .i64 0] xss.length) 3))
  have hmk := app.mk0 xss.length (by omega) w2
  obtain ⟨c0, c1, c2, c3⟩ := scene.three_cells KB.out
  clear h hok hb hf
  unfold sv l12 at *
  go_enter Try.func57, Try.ntmps57
  go_wp2_with fail
  go_loopw [7, 8, 16] (fun out z i wr => ∃ k : Nat, k ≤ xss.length ∧ i = .int .i64 k ∧ (∃ z', z = z') ∧ ∃ m, Hid (wr.ownsRow (w.heap.size + 1 + 1) 3 1 out m (i64s (pass f k))) ∧ Hid (Below w.heap.size w wr) ∧ Hid (Blk wr w.heap.size 28 #[.int .i64 x, .slice A xss.length cap, .slice C ws.length cap']) ∧ Hid (Blk wr (w.heap.size + 1) 59 #[.int .i64 (sign a 0), .int .i64 (sign a 1), .int .i64 (sign a 2), .int .i64 (sign a 3), .int .i64 (sign a 4), .int .i64 (sign a 5), .int .i64 (sign a 6), .int .i64 (sign a 7), .int .i64 (sign a 8), .int .i64 (sign a 9), .int .i64 (sign a 10), .int .i64 (sign a 11)])) (fun _ _ i _ => xss.length - (intOf i).toNat)
  case atStart => exact ⟨0, Nat.zero_le _, rfl, ⟨_, rfl⟩, _, O0, B0, KB1, KS1⟩
  case round =>
    obtain ⟨k, hk, rfl, ⟨z', rfl⟩, m, hO, hB, hK, hS⟩ := hrel
    clear B0 KB1 KS1 O0 KB KS BW c0 c1 c2 c3 hw2
    obtain ⟨wi, rfl⟩ : ∃ wi : World, wi = wr := ⟨_, rfl⟩
    by_cases hlt : k < xss.length
    · have hkz : (k : Int) < (xss.length : Int) := by omega
      obtain rfl : m = (pass f k).length := by
        have := hO.out.1
        rw [len_i64s] at this; omega
      have HLE := Lib.hid (len_pass f k)
      have HF := Lib.hid (HT.out wi k hB.out hlt)
      obtain ⟨c0, c1, c2, c3⟩ := scene.three_cells hK.out
      obtain ⟨s0, s1, s2, s3, s4, s5, s6, s7, s8, s9, s10, s11, sl⟩ := cells12 hS.out
      cases hfk : f k with
      | true =>
        have HL : Hid (pass f (k + 1) = pass f k ++ [(k : Int)]) := Lib.hid (pass_yes hfk)
        rw [hfk] at HF
        clear hfk
        go_wp2_with fail
        refine HF.out.mono ?_
        rintro e w3 ⟨rfl, hb⟩
        have B2 := Lib.hid (below_tr hB.out hb)
        have K2 := Lib.hid (hK.out.below hb)
        have S2 := Lib.hid (hS.out.below hb)
        have O2 := Lib.hid (app.owns_below hO.out hb)
        clear hb c0 c1 c2 c3 s0 s1 s2 s3 s4 s5 s6 s7 s8 s9 s10 s11 sl
        have hsz2 := B2.out.size
        go_wp2_with (at_builtin; go_must (refine wpList_append_own _ rfl (.tmp 24) (.tmp 26) 23 rfl (w.heap.size + 1 + 1) 3 i0 (.int .i64 0) 1 8 Try.underlying23 hi hz0 hz1 hz2 rfl (by decide) _ _ _ rfl (O2.out.alloc _) ⟨w3.heap.size, 0, none⟩ 1 1 [.int .i64 (k : Int)] rfl rfl ?c1 ?c2 ?c3 ?c4 ?c5 ?_))
        case c1 => exact app.one_at _ _ _
        case c2 => intro u hu; simp at hu; subst hu; rfl
        case c3 => have := HLE.out; unfold maxLen; omega
        case c4 => have := HLE.out; omega
        case c5 => have := S2.out.lt; simp; omega
        intro v' w4 hown' hgrow _
        have O3 : Hid (w4.ownsRow (w.heap.size + 1 + 1) 3 1 v' (pass f (k + 1)).length (i64s (pass f (k + 1)))) := Lib.hid (by
          rw [HL.out, ← app.i64s_snoc, List.length_append]; exact hown')
        have B3 : Hid (Below w.heap.size w w4) := Lib.hid ((below_al B2.out _).grown hgrow (by have := B2.out.size; simp; omega) (fun j hj => by have := (O2.out.lt j hj).1; omega))
        have K3 : Hid (Blk w4 w.heap.size 28 #[.int .i64 x, .slice A xss.length cap, .slice C ws.length cap']) := Lib.hid ((hgrow.block _ (K2.out.alloc _).lt (fun e => by have := (O2.out.lt _ e.symm).1; omega)).trans (K2.out.alloc _))
        have S3 : Hid (Blk w4 (w.heap.size + 1) 59 #[.int .i64 (sign a 0), .int .i64 (sign a 1), .int .i64 (sign a 2), .int .i64 (sign a 3), .int .i64 (sign a 4), .int .i64 (sign a 5), .int .i64 (sign a 6), .int .i64 (sign a 7), .int .i64 (sign a 8), .int .i64 (sign a 9), .int .i64 (sign a 10), .int .i64 (sign a 11)]) := Lib.hid ((hgrow.block _ (S2.out.alloc _).lt (fun e => by have := (O2.out.lt _ e.symm).1; omega)).trans (S2.out.alloc _))
        obtain ⟨xa, xl, xc, rfl⟩ := make.shape hown'
        clear hown' hgrow B2 K2 O2 S2 hsz2
        go_wp2_with fail
        go_roundw
        case rel => exact ⟨k + 1, by omega, by go_num, ⟨_, rfl⟩, _, O3, B3, K3, S3⟩
        case measure => simp [intOf]; omega
      | false =>
        have HL : Hid (pass f (k + 1) = pass f k) := Lib.hid (pass_no hfk)
        rw [hfk] at HF
        clear hfk
        go_wp2_with fail
        refine HF.out.mono ?_
        rintro e w3 ⟨rfl, hb⟩
        have B2 := Lib.hid (below_tr hB.out hb)
        have K2 := Lib.hid (hK.out.below hb)
        have S2 := Lib.hid (hS.out.below hb)
        have O2 : Hid (w3.ownsRow (w.heap.size + 1 + 1) 3 1 _ _ (i64s (pass f (k + 1)))) := Lib.hid (by rw [HL.out]; exact app.owns_below hO.out hb)
        clear hb c0 c1 c2 c3 s0 s1 s2 s3 s4 s5 s6 s7 s8 s9 s10 s11 sl
        go_wp2_with fail
        go_roundw
        case rel => exact ⟨k + 1, by omega, by go_num, ⟨_, rfl⟩, _, O2, B2, K2, S2⟩
        case measure => simp [intOf]; omega
    · have hkz : ¬ (k : Int) < (xss.length : Int) := by omega
      obtain rfl : k = xss.length := by omega
      have O2 := Lib.hid (app.ints_of_owns hO.out)
      obtain ⟨ra, rn, rc, rfl⟩ := O2.out.ints.shape
      go_wp2_with fail
      go_ret
      exact ⟨_, rfl, O2.out.mono (by omega) (Nat.le_refl _), hB.out⟩


end Go.Proofs.Ytkikdecepdbbnaa.ptp
