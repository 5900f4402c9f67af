/- isKept and isPicked of the program. -/
import Derived.Test.YtkikdecepdbbnaaSgs
namespace Go.Proofs.Ytkikdecepdbbnaa.sgk
open Go.RowKit Go.Deep Go.Proofs.Ytkikdecepdbbnaa.base
open Go.Proofs.Ytkikdecepdbbnaa.ints (ret_int ret_no ret_yes infoInt)
open Go.Proofs.Ytkikdecepdbbnaa.rws (total len_le_total)
open Go.Proofs.Ytkikdecepdbbnaa.val (ret_b)
open Go.Proofs.Ytkikdecepdbbnaa.play (within withinB withinB_yes withinB_no)
open Go.Proofs.Ytkikdecepdbbnaa.scm
open Go.Proofs.Ytkikdecepdbbnaa.sck (asg at_ctx)
open Go.Proofs.Ytkikdecepdbbnaa.sgs


set_option maxRecDepth 100000 in
set_option maxHeartbeats 8000000 in
theorem isKept (x : Int) (u : Value) (xss : List (List Int)) (v : Value) (ws a : List Int) (p : Nat) (w : World) (h : scene.GV w v ws u xss) (hok : okScene x xss ws) (hb : within x 0 1 a) (hp : p < xss.length) :
    Calls Try.prog 59 #[.agg #[.int .i64 x, u, v], .int .i64 (p : Int), sv (sign a)] w fun e w' => e = .returned (.bool (keptAt xss ws a p)) ∧ Below w.heap.size w w' := by
  obtain ⟨hr, hgd, hpw, hwd, hw01⟩ := at_ctx hok hp
  have HE := Lib.hid (fun k (hk : k < xss[p].length) => asg hb hr hk)
  have HBD := Lib.hid (fun k (hk : k ≤ xss[p].length) => ones_bound hb hr k hk)
  have HS := Lib.hid (fun k (hk : k < xss[p].length) => ones_succ a hk)
  have HSI := Lib.hid (fun k (hk : k < a.length) => sign_is hb hk)
  have HAL : Hid (a.length ≤ 12) := Lib.hid (by have := hb.1; have := hok.ev1; omega)
  have hl12 := hok.ctx_len hp
  have hx10 := hok.len
  obtain ⟨A, b, o, cap, R, rfl, hcap, hmax, hA, hc⟩ := h.rows.form
  obtain ⟨C, b', o', cap', rfl, hcap', hmax', hC, hcw⟩ := h.ints.form
  obtain rfl := hA (by omega)
  obtain rfl := hC (by omega)
  obtain ⟨g0, hi⟩ := hc p hp
  have g1 := hcw p hpw
  obtain ⟨A2, b2, o2, cap2, hv2, hcap2, hmax2, hA2, hc2⟩ := hi.form
  rw [hv2] at g0
  have hpz : (p : Int) < (xss.length : Int) := by omega
  have hpz2 : (p : Int) < (ws.length : Int) := by omega
  have HRES : Hid (keptAt xss ws a p = (sg (ones a xss[p]) == 1 + ws[p] * (-2))) := Lib.hid (by
    rw [sg_eq hw01]; unfold keptAt; rw [hgd, hwd])
  obtain ⟨w2, hw2⟩ : ∃ w2, (w.alloc (.cells #[.int .i64 x, .slice (some ⟨b, o, none⟩) xss.length cap, .slice (some ⟨b', o', none⟩) ws.length cap'] 28)).alloc (.cells #[.int .i64 (sign a 0), .int .i64 (sign a 1), .int .i64 (sign a 2), .int .i64 (sign a 3), .int .i64 (sign a 4), .int .i64 (sign a 5), .int .i64 (sign a 6), .int .i64 (sign a 7), .int .i64 (sign a 8), .int .i64 (sign a 9), .int .i64 (sign a 10), .int .i64 (sign a 11)] 59) = w2 := ⟨_, rfl⟩
  have KB : Hid (Blk w2 w.heap.size 28 #[.int .i64 x, .slice (some ⟨b, o, none⟩) xss.length cap, .slice (some ⟨b', o', none⟩) ws.length cap']) := Lib.hid (by rw [← hw2]; exact (Blk.new w _ _).alloc _)
  have KS : Hid (Blk w2 (w.heap.size + 1) 59 (l12 (sign a)).toArray) := Lib.hid (by
    have := Blk.new (w.alloc (.cells #[.int .i64 x, .slice (some ⟨b, o, none⟩) xss.length cap, .slice (some ⟨b', o', none⟩) ws.length cap'] 28)) 59 (l12 (sign a)).toArray
    rw [← hw2]
    simpa [l12] using this)
  have BW : Hid (Below w.heap.size w w2) := Lib.hid (by rw [← hw2]; exact below_al (below_al (Below.refl _ _) _) _)
  have g0 := below_cell BW.out _ _ g0
  have g1 := below_cell BW.out _ _ g1
  have HC2 : Hid (∀ k (hk : k < xss[p].length), w2.cell? ⟨b2, o2 + k, none⟩ = some (.int .i64 (xss[p])[k])) := Lib.hid (fun k hk => below_cell BW.out _ _ (hc2 k hk))
  have HA2 := Lib.hid hA2
  clear h hc hcw hi hok hb hr hmax hmax' hmax2 hcap hcap' hcap2 hA hC hc2 hgd hwd hv2 hA2
  generalize ws[p] = z at *
  generalize xss[p] = c at *
  obtain ⟨c0, c1, c2, c3⟩ := scene.three_cells KB.out
  unfold sv l12
  go_enter Try.func59, Try.ntmps59
  go_wp2_with fail
  go_loopw [7, 9, 16] (fun s z i wr => ∃ (k : Nat) (m : Int), k ≤ c.length ∧ i = .int .i64 k ∧ s = .int .i64 m ∧ (∃ z', z = z') ∧ (m = 1 ∨ m = -1) ∧ Hid (m = sg (ones a (c.take k))) ∧ w2 = wr) (fun _ _ i _ => c.length - (intOf i).toNat)
  case atStart => exact ⟨0, 1, Nat.zero_le _, rfl, rfl, ⟨_, rfl⟩, .inl rfl, by simp [ones, sg]; exact trivial, rfl⟩
  case round =>
    obtain ⟨k, m, hk, rfl, rfl, ⟨z', rfl⟩, hm, hH, rfl⟩ := hrel
    by_cases hlt : k < c.length
    · have hkz : (k : Int) < (c.length : Int) := by omega
      obtain ⟨e, he1, hel, he2, he3, he4⟩ := HE.out k hlt
      obtain rfl := HA2.out (by omega)
      have g2 := HC2.out k hlt
      rw [he1] at g2
      have he12 : e < 12 := by have := HAL.out; omega
      have hez : (e : Int) < 12 := by omega
      have g3 := blk_cell KS.out he12
      rw [HSI.out e hel] at g3
      have HQ : Hid (m * (1 + a[e] * (-2)) = sg (ones a (c.take (k + 1)))) := Lib.hid (by
        rw [HS.out k hlt, sg_step (by rw [he2]; omega), ← hH.out, he2]
        by_cases e1 : a[e] = 1
        · rw [if_pos e1, e1]; rfl
        · rw [if_neg e1, show a[e] = 0 by omega]; rfl)
      have hr2 : 1 + a[e] * (-2) = 1 ∨ 1 + a[e] * (-2) = -1 := by omega
      generalize 1 + a[e] * (-2) = r at *
      have hrm : m * r = 1 ∨ m * r = -1 := by rcases hm with rfl | rfl <;> rcases hr2 with rfl | rfl <;> simp
      have hwr : IntKind.i64.wrap (m * r) = m * r := IntWalk.i64_in _ (by omega)
      have HM := Lib.hid hrm
      clear he1 he2 hm hr2 hrm
      go_wp2_with fail
      go_roundw
      case rel => exact ⟨k + 1, _, by omega, by go_num, rfl, ⟨_, rfl⟩, HM.out, HQ, by first | rfl | trivial⟩
      case measure => simp [intOf]; omega
    · have hkz : ¬ (k : Int) < (c.length : Int) := by omega
      obtain rfl : k = c.length := by omega
      have HQ : Hid (m = sg (ones a c)) := Lib.hid (by have := hH.out; rwa [List.take_length] at this)
      have HSF := Lib.hid (signFor z w2 hw01)
      clear hm hw01
      go_wp2_with fail
      refine HSF.out.mono ?_
      rintro e w' ⟨rfl, rfl⟩
      go_wp2_with fail
      go_ret
      exact ⟨ret_b (by rw [HRES.out, HQ.out]), BW.out⟩



set_option maxRecDepth 100000 in
set_option maxHeartbeats 8000000 in
theorem isPicked (x : Int) (u : Value) (xss : List (List Int)) (v : Value) (ws a : List Int) (p : Nat) (w : World) (h : scene.GV w v ws u xss) (hok : okScene x xss ws) (hb : within x 0 1 a) (hp : p < xss.length) :
    Calls Try.prog 83 #[.agg #[.int .i64 x, u, v], .int .i64 (p : Int), sv (sign a)] w fun e w' => e = .returned (.bool (pickedAt xss a p)) ∧ Below w.heap.size w w' := by
  obtain ⟨hr, hgd, hpw, hwd, hw01⟩ := at_ctx hok hp
  have HE := Lib.hid (fun k (hk : k < xss[p].length) => asg hb hr hk)
  have HBD := Lib.hid (fun k (hk : k ≤ xss[p].length) => ones_bound hb hr k hk)
  have HS := Lib.hid (fun k (hk : k < xss[p].length) => ones_succ a hk)
  have HSI := Lib.hid (fun k (hk : k < a.length) => sign_is hb hk)
  have HAL : Hid (a.length ≤ 12) := Lib.hid (by have := hb.1; have := hok.ev1; omega)
  have hl12 := hok.ctx_len hp
  have hx10 := hok.len
  obtain ⟨A, b, o, cap, R, rfl, hcap, hmax, hA, hc⟩ := h.rows.form
  obtain ⟨C, b', o', cap', rfl, hcap', hmax', hC, hcw⟩ := h.ints.form
  obtain rfl := hA (by omega)
  obtain rfl := hC (by omega)
  obtain ⟨g0, hi⟩ := hc p hp
  have g1 := hcw p hpw
  obtain ⟨A2, b2, o2, cap2, hv2, hcap2, hmax2, hA2, hc2⟩ := hi.form
  rw [hv2] at g0
  have hpz : (p : Int) < (xss.length : Int) := by omega
  have hpz2 : (p : Int) < (ws.length : Int) := by omega
  have HRES : Hid (pickedAt xss a p = (ones a xss[p] == 1)) := Lib.hid (by
    unfold pickedAt; rw [hgd]; rfl)
  obtain ⟨w2, hw2⟩ : ∃ w2, (w.alloc (.cells #[.int .i64 x, .slice (some ⟨b, o, none⟩) xss.length cap, .slice (some ⟨b', o', none⟩) ws.length cap'] 28)).alloc (.cells #[.int .i64 (sign a 0), .int .i64 (sign a 1), .int .i64 (sign a 2), .int .i64 (sign a 3), .int .i64 (sign a 4), .int .i64 (sign a 5), .int .i64 (sign a 6), .int .i64 (sign a 7), .int .i64 (sign a 8), .int .i64 (sign a 9), .int .i64 (sign a 10), .int .i64 (sign a 11)] 59) = w2 := ⟨_, rfl⟩
  have KB : Hid (Blk w2 w.heap.size 28 #[.int .i64 x, .slice (some ⟨b, o, none⟩) xss.length cap, .slice (some ⟨b', o', none⟩) ws.length cap']) := Lib.hid (by rw [← hw2]; exact (Blk.new w _ _).alloc _)
  have KS : Hid (Blk w2 (w.heap.size + 1) 59 (l12 (sign a)).toArray) := Lib.hid (by
    have := Blk.new (w.alloc (.cells #[.int .i64 x, .slice (some ⟨b, o, none⟩) xss.length cap, .slice (some ⟨b', o', none⟩) ws.length cap'] 28)) 59 (l12 (sign a)).toArray
    rw [← hw2]
    simpa [l12] using this)
  have BW : Hid (Below w.heap.size w w2) := Lib.hid (by rw [← hw2]; exact below_al (below_al (Below.refl _ _) _) _)
  have g0 := below_cell BW.out _ _ g0
  have g1 := below_cell BW.out _ _ g1
  have HC2 : Hid (∀ k (hk : k < xss[p].length), w2.cell? ⟨b2, o2 + k, none⟩ = some (.int .i64 (xss[p])[k])) := Lib.hid (fun k hk => below_cell BW.out _ _ (hc2 k hk))
  have HA2 := Lib.hid hA2
  clear h hc hcw hi hok hb hr hmax hmax' hmax2 hcap hcap' hcap2 hA hC hc2 hgd hwd hv2 hA2
  generalize ws[p] = z at *
  generalize xss[p] = c at *
  obtain ⟨c0, c1, c2, c3⟩ := scene.three_cells KB.out
  unfold sv l12
  go_enter Try.func83, Try.ntmps83
  go_wp2_with fail
  go_loopw [7, 9, 16] (fun s z i wr => ∃ (k : Nat) (m : Int), k ≤ c.length ∧ i = .int .i64 k ∧ s = .int .i64 m ∧ (∃ z', z = z') ∧ 0 ≤ m ∧ m ≤ k ∧ Hid (m = ones a (c.take k)) ∧ w2 = wr) (fun _ _ i _ => c.length - (intOf i).toNat)
  case atStart => exact ⟨0, 0, Nat.zero_le _, rfl, rfl, ⟨_, rfl⟩, by omega, by omega, by simp [ones]; exact trivial, rfl⟩
  case round =>
    obtain ⟨k, m, hk, rfl, rfl, ⟨z', rfl⟩, hm0, hm1, hH, rfl⟩ := hrel
    by_cases hlt : k < c.length
    · have hkz : (k : Int) < (c.length : Int) := by omega
      obtain ⟨e, he1, hel, he2, he3, he4⟩ := HE.out k hlt
      obtain rfl := HA2.out (by omega)
      have g2 := HC2.out k hlt
      rw [he1] at g2
      have he12 : e < 12 := by have := HAL.out; omega
      have hez : (e : Int) < 12 := by omega
      have g3 := blk_cell KS.out he12
      rw [HSI.out e hel] at g3
      have HO : Hid (ones a (c.take (k + 1)) = m + a[e]) := Lib.hid (by rw [HS.out k hlt, he2, ← hH.out])
      by_cases e1 : a[e] = 1
      · rw [e1] at g3 HO
        clear he1 he2 e1
        go_wp2_with fail
        go_roundw
        case rel => exact ⟨k + 1, m + 1, by omega, by go_num, rfl, ⟨_, rfl⟩, by omega, by omega, Lib.hid HO.out.symm, by first | rfl | trivial⟩
        case measure => simp [intOf]; omega
      · rw [show a[e] = 0 by omega] at g3 HO
        clear he1 he2 e1
        go_wp2_with fail
        go_roundw
        case rel => exact ⟨k + 1, m, by omega, by go_num, rfl, ⟨_, rfl⟩, by omega, by omega, Lib.hid (by rw [HO.out]; omega), by first | rfl | trivial⟩
        case measure => simp [intOf]; omega
    · have hkz : ¬ (k : Int) < (c.length : Int) := by omega
      obtain rfl : k = c.length := by omega
      have HQ : Hid (m = ones a c) := Lib.hid (by have := hH.out; rwa [List.take_length] at this)
      go_wp2_with fail
      go_ret
      exact ⟨ret_b (by rw [HRES.out, HQ.out]), BW.out⟩


end Go.Proofs.Ytkikdecepdbbnaa.sgk
