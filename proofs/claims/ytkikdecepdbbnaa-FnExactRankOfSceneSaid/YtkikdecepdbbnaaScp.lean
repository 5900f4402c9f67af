/- Parity proofs: l7Proof of the model, oddEvents and isProof of the program; IsParityProof. -/
import Derived.Test.YtkikdecepdbbnaaScr
namespace Go.Proofs.Ytkikdecepdbbnaa.scp
open Go.RowKit Go.Deep Go.Proofs.Ytkikdecepdbbnaa.base
open Go.Proofs.Ytkikdecepdbbnaa.ints (ret_int ret_no ret_yes infoInt)
open Go.Proofs.Ytkikdecepdbbnaa.rws (total len_le_total)
open Go.Proofs.Ytkikdecepdbbnaa.val (ret_b)
open Go.Proofs.Ytkikdecepdbbnaa.play (within withinB withinB_yes withinB_no ret_bb)
open Go.Proofs.Ytkikdecepdbbnaa.scm
open Go.Proofs.Ytkikdecepdbbnaa.scr


set_option maxHeartbeats 2000000 in
theorem spec_proof (x : Int) (u : Value) (xss : List (List Int)) (v : Value) (ws : List Int) (lv : Value) (l : List Int) (w : World) (h : scene.GV w v ws u xss) (hl : Ints w lv l) (hok : okScene x xss ws) (hr : rising 0 ((xss.length : Int) - 1) l) :
    Calls Try.prog 66 #[.agg #[.int .i64 x, u, v], lv] w fun e w' => e = .returned (.bool (proofB xss ws l)) ∧ Below w.heap.size w w' := by
  have HROW := Lib.hid (spec_rows x u xss v ws (w.alloc (.cells #[.int .i64 x, u, v] 28)) (h.below (below_al (Below.refl _ _) _)) hok)
  obtain ⟨A, cap, rfl⟩ : ∃ A c, u = .slice A xss.length c := by obtain ⟨A, b, o, cap, R, hu, _⟩ := h.rows.form; exact ⟨A, cap, hu⟩
  obtain ⟨C, b', o', cap', rfl, hcap', hmax', hC, hcw⟩ := h.ints.form
  obtain ⟨L, b2, o2, cap2, rfl, hcap2, hmax2, hL, hcl⟩ := hl.form
  have hlz : l.length ≤ 10 := by have := rising_len hr (by omega); have := hok.len; omega
  have HWS := Lib.hid (fun k (hk : k < l.length) => ws_at hok hr hk)
  have HON := Lib.hid (fun k (hk : k ≤ l.length) => ones_ws hok hr k hk)
  have HOD := Lib.hid (fun k (hk : k ≤ l.length) => odd_lt hok hr k hk)
  have HMK := Lib.hid (fun p (hp : p < xss.length) => mask_lt12 (hok.ctx p hp).2 hok.ev1 (m := 0) (by omega))
  have K0 := Lib.hid (Blk.new w 28 #[.int .i64 x, .slice A xss.length cap, .slice C ws.length cap'])
  obtain ⟨c0, c1, c2, c3⟩ := scene.three_cells K0.out
  clear h hl hok hr hmax' hmax2 hcap' hcap2
  go_enter Try.func66, Try.ntmps66
  go_wp2_with fail
  refine HROW.out.mono ?_
  rintro e w1 ⟨ru, rfl, hru, hb1⟩
  have B1 := Lib.hid (below_tr (below_al (Below.refl w.heap.size w) _) hb1)
  have K1 := Lib.hid (K0.out.below hb1)
  obtain ⟨RA, rb, ro, rcap, rfl, hrcap, hrmax, hRA, hrc⟩ := hru.ints.form
  rw [len_rowsOf] at hrcap hRA
  have hrl := len_rowsOf xss
  have HRC : Hid (∀ p (hp : p < xss.length), w1.cell? ⟨rb, ro + p, none⟩ = some (.int .i64 ((mask 0 xss[p] : Nat) : Int))) := Lib.hid (fun p hp => by
    have := hrc p (by rw [hrl]; exact hp)
    rw [rowsOf_at xss hp] at this; exact this)
  rw [hrl]
  clear c0 c1 c2 c3 hb1 HROW K0 hru hrc hrl hrmax
  go_wp2_with fail
  go_loopw [6, 7, 8] (fun r s i wr => ∃ (k q : Nat) (m : Int), k ≤ l.length ∧ i = .int .i64 k ∧ r = .int .i64 (q : Int) ∧ s = .int .i64 m ∧ 0 ≤ m ∧ m ≤ k ∧ q < 4096 ∧ Hid (q = odd xss 0 (l.take k) ∧ m = ones ws (l.take k)) ∧ ∃ n, wr = w1.drewN n) (fun _ _ i _ => l.length - (intOf i).toNat)
  case atStart => exact ⟨0, 0, 0, Nat.zero_le _, rfl, rfl, rfl, by omega, by omega, by omega, ⟨by simp [odd], by simp [ones]⟩, 0, rfl⟩
  case round =>
    obtain ⟨k, q, m, hk, rfl, rfl, rfl, hm0, hm1, hq, hH, n, rfl⟩ := hrel
    obtain ⟨c0, c1, c2, c3⟩ := scene.three_cells K1.out
    by_cases hlt : k < l.length
    · have hkz : (k : Int) < (l.length : Int) := by omega
      obtain rfl := hL (by omega)
      obtain ⟨p, hp, hpx, hpw, e1, e2, e3, e4⟩ := HWS.out k hlt
      obtain rfl := hRA (by omega)
      obtain rfl := hC (by omega)
      have g0 := below_cell B1.out _ _ (hcl k hlt)
      rw [hp] at g0
      have g1 := below_cell B1.out _ _ (hcw p hpw)
      have g2 := HRC.out p hpx
      have hpz : (p : Int) < (xss.length : Int) := by omega
      have hpz2 : (p : Int) < (ws.length : Int) := by omega
      have HQ := xor_i64 q (mask 0 xss[p]) (by omega) (by have := HMK.out p hpx; omega)
      have HN : Hid (q ^^^ mask 0 xss[p] = odd xss 0 (l.take (k + 1)) ∧ m + ws[p] = ones ws (l.take (k + 1))) := Lib.hid ⟨by
        rw [odd_succ xss hlt, e4, hH.out.1]; exact (mask_xor _ _).symm, by rw [ones_succ ws hlt, e1, hH.out.2]⟩
      have HL : Hid (q ^^^ mask 0 xss[p] < 4096) := Lib.hid (by rw [HN.out.1]; exact HOD.out (k + 1) (by omega))
      have gl0 := World.block_lt_of_cell? _ _ g0
      have gl1 := World.block_lt_of_cell? _ _ g1
      have gl2 := World.block_lt_of_cell? _ _ g2
      have HCL := Lib.hid hcl
      have HCW := Lib.hid hcw
      clear hp e1 e4 hL hC hRA hcl hcw
      generalize ws[p] = z at *
      generalize mask 0 xss[p] = t at *
      go_wp2_with fail
      go_quiet (fail)
      go_wp2_with fail
      go_roundw
      case rel => exact ⟨k + 1, _, _, by omega, by go_num, rfl, rfl, by omega, by omega, HL.out, HN, _, by first | rfl | exact ints.drewN_drewN _ _ _⟩
      case measure => simp [intOf]; omega
    · have hkz : ¬ (k : Int) < (l.length : Int) := by omega
      obtain rfl : k = l.length := by omega
      have HQ : Hid (proofB xss ws l = (((q : Int) == 0) && (m % 2 == 1))) := Lib.hid (by
        have h1 := hH.out
        rw [List.take_length] at h1
        unfold proofB
        rw [h1.1, h1.2])
      clear hcl hcw hL hC hRA
      by_cases hz : q = 0
      · subst hz
        go_wp2_with fail
        go_ret
        exact ⟨ret_b (by rw [HQ.out]; rfl), below_drewN B1.out _⟩
      · have dz : ((q : Int) == 0) = false := by simp; exact hz
        have HR : Hid (proofB xss ws l = false) := Lib.hid (by rw [HQ.out, dz]; rfl)
        clear hz
        go_wp2_with fail
        go_ret
        exact ⟨ret_b HR.out.symm, below_drewN B1.out _⟩


theorem xor_shl {m e : Nat} (hm : m < 4096) (h : e < 12) : bits .xor .u64 (m : Int) (IntKind.u64.wrap ((2 : Int) ^ e)) = ((m ^^^ 2 ^ e : Nat) : Int) := by
  have h1 := pow_lt h
  have h2 : ((2 : Int) ^ e) = ((2 ^ e : Nat) : Int) := by simp
  rw [h2]
  generalize 2 ^ e = n at *
  rw [show IntKind.u64.wrap (n : Int) = (n : Int) from by rw [IntKind.wrap_u64]; omega]
  exact bits_xor_u64_nat _ _ (by omega) (by omega)


set_option maxHeartbeats 2000000 in
theorem oddEvents (x : Int) (u : Value) (xss : List (List Int)) (v : Value) (ws : List Int) (lv : Value) (l : List Int) (w : World) (h : scene.GV w v ws u xss) (hl : Ints w lv l) (hok : okScene x xss ws) (hr : rising 0 ((xss.length : Int) - 1) l) :
    Calls Try.prog 64 #[.agg #[.int .i64 x, u, v], lv] w fun e w' => e = .returned (.int .u64 ((odd xss 0 l : Nat) : Int)) ∧ Below w.heap.size w w' := by
  obtain ⟨A, b, o, cap, R, rfl, hcap, hmax, hA, hc⟩ := h.rows.form
  obtain ⟨C, cap', rfl⟩ : ∃ A c, v = .slice A ws.length c := by obtain ⟨A, c, hv, _⟩ := h.ints; exact ⟨A, c, by rw [hv, len_i64s]⟩
  obtain ⟨L, b2, o2, cap2, rfl, hcap2, hmax2, hL, hcl⟩ := hl.form
  have hx10 : xss.length ≤ 10 := hok.len
  have hlz : l.length ≤ 10 := by have := rising_len hr (by omega); omega
  have HWS := Lib.hid (fun k (hk : k < l.length) => ws_at hok hr hk)
  have HOD := Lib.hid (fun k (hk : k ≤ l.length) => odd_lt hok hr k hk)
  have HCT := Lib.hid (fun k (hk : k < xss.length) => And.intro (hok.ctx k hk).2 (hok.ctx_len hk))
  have HX := Lib.hid hok.ev1
  obtain ⟨w1, hw1⟩ : ∃ w1, w.alloc (.cells #[.int .i64 x, .slice A xss.length cap, .slice C ws.length cap'] 28) = w1 := ⟨_, rfl⟩
  have K1 : Hid (Blk w1 w.heap.size 28 #[.int .i64 x, .slice A xss.length cap, .slice C ws.length cap']) := Lib.hid (by rw [← hw1]; exact Blk.new w _ _)
  have B1 : Hid (Below w.heap.size w w1) := Lib.hid (by rw [← hw1]; exact below_al (Below.refl _ _) _)
  obtain ⟨c0, c1, c2, c3⟩ := scene.three_cells K1.out
  clear h hl hok hr hmax hmax2 hcap hcap2
  go_enter Try.func64, Try.ntmps64
  go_wp2_with fail
  go_loopw [5, 7, 9, 12, 16, 17, 18, 19, 20, 21, 22] (fun r _ _ i _ _ _ _ _ _ _ wr => ∃ (k q : Nat), k ≤ l.length ∧ i = .int .i64 k ∧ r = .int .u64 (q : Int) ∧ q < 4096 ∧ Hid (q = odd xss 0 (l.take k)) ∧ w1 = wr) (fun _ _ _ i _ _ _ _ _ _ _ _ => l.length - (intOf i).toNat)
  case atStart => exact ⟨0, 0, Nat.zero_le _, rfl, rfl, by omega, by simp [odd]; exact trivial, rfl⟩
  case round =>
    obtain ⟨k, q, hk, rfl, rfl, hq, hH, rfl⟩ := hrel
    by_cases hlt : k < l.length
    · have hkz : (k : Int) < (l.length : Int) := by omega
      obtain rfl := hL (by omega)
      obtain ⟨p, hp, hpx, hpw, e1, e2, e3, e4⟩ := HWS.out k hlt
      obtain rfl := hA (by omega)
      have g0 := below_cell B1.out _ _ (hcl k hlt)
      rw [hp] at g0
      have g1 := below_cell B1.out _ _ (hc p hpx).1
      obtain ⟨A2, b3, o3, cap3, hv2, hcap2, hmax2, hA2, hc2⟩ := (hc p hpx).2.form
      have HC2 : Hid (∀ j (hj : j < xss[p].length), w1.cell? ⟨b3, o3 + j, none⟩ = some (.int .i64 (xss[p])[j])) := Lib.hid (fun j hj => below_cell B1.out _ _ (hc2 j hj))
      rw [hv2] at g1
      obtain ⟨hct, hcl12⟩ := HCT.out p hpx
      have HM := Lib.hid (fun j (hj : j ≤ xss[p].length) => mask_lt hct HX.out (m := q) hq j hj)
      have HE : Hid (∀ j (hj : j < xss[p].length), ∃ e : Nat, (xss[p])[j] = (e : Int) ∧ e < 12) := Lib.hid (fun j hj => ⟨(xss[p])[j].toNat, by have := rising_at hct hj; omega, by have := rising_at hct hj; have := HX.out; omega⟩)
      have HN : Hid (mask q xss[p] = odd xss 0 (l.take (k + 1))) := Lib.hid (by rw [odd_succ xss hlt, e4, hH.out])
      have hpz : (p : Int) < (xss.length : Int) := by omega
      have hc := Lib.hid hc
      have hcl := Lib.hid hcl
      have HA2 := Lib.hid hA2
      clear hA hL hv2 hcap2 hmax2 hA2 hc2 hct hp e1 e2 e3 e4
      generalize xss[p] = c at *
      go_wp2_with fail
      go_loopw [5, 9, 22] (fun r _ j wr => ∃ (t m : Nat), t ≤ c.length ∧ j = .int .i64 t ∧ r = .int .u64 (m : Int) ∧ m < 4096 ∧ Hid (m = mask q (c.take t)) ∧ w1 = wr) (fun _ _ j _ => c.length - (intOf j).toNat)
      case atStart => exact ⟨0, q, Nat.zero_le _, rfl, rfl, hq, by simp [mask]; exact trivial, rfl⟩
      case round =>
        obtain ⟨t, m, ht, rfl, rfl, hm, hM, rfl⟩ := hrel
        by_cases hlt2 : t < c.length
        · have htz : (t : Int) < (c.length : Int) := by omega
          obtain rfl := HA2.out (by omega)
          have g2 := HC2.out t hlt2
          obtain ⟨e, he, he12⟩ := HE.out t hlt2
          rw [he] at g2
          have HQ := xor_shl hm he12
          have HN2 : Hid (m ^^^ 2 ^ e = mask q (c.take (t + 1))) := Lib.hid (by rw [mask_succ hlt2, he, Int.toNat_natCast, hM.out])
          have HL : Hid (m ^^^ 2 ^ e < 4096) := Lib.hid (by rw [HN2.out]; exact HM.out (t + 1) (by omega))
          clear he
          go_wp2_with fail
          go_roundw
          case rel => exact ⟨t + 1, _, by omega, by go_num, rfl, HL.out, HN2, by first | rfl | trivial⟩
          case measure => simp [intOf]; omega
        · have htz : ¬ (t : Int) < (c.length : Int) := by omega
          obtain rfl : t = c.length := by omega
          have HQ : Hid (m = odd xss 0 (l.take (k + 1))) := Lib.hid (by have := hM.out; rw [List.take_length] at this; rw [this]; exact HN.out)
          go_wp2_with fail
          go_roundw
          case rel => exact ⟨k + 1, _, by omega, by go_num, rfl, hm, HQ, by first | rfl | trivial⟩
          case measure => simp [intOf]; omega
    · have hkz : ¬ (k : Int) < (l.length : Int) := by omega
      obtain rfl : k = l.length := by omega
      have HQ : Hid (q = odd xss 0 l) := Lib.hid (by have := hH.out; rwa [List.take_length] at this)
      clear hcl hc hA hL
      go_wp2_with fail
      go_ret
      exact ⟨by rw [HQ.out]; rfl, B1.out⟩



set_option maxHeartbeats 2000000 in
theorem impl_proof (x : Int) (u : Value) (xss : List (List Int)) (v : Value) (ws : List Int) (lv : Value) (l : List Int) (w : World) (h : scene.GV w v ws u xss) (hl : Ints w lv l) (hok : okScene x xss ws) (hr : rising 0 ((xss.length : Int) - 1) l) :
    Calls Try.prog 67 #[.agg #[.int .i64 x, u, v], lv] w fun e w' => e = .returned (.bool (proofB xss ws l)) ∧ Below w.heap.size w w' := by
  have HOE := Lib.hid (oddEvents x u xss v ws lv l (w.alloc (.cells #[.int .i64 x, u, v] 28)) (h.below (below_al (Below.refl _ _) _)) (hl.below (below_al (Below.refl _ _) _)) hok hr)
  obtain ⟨A, cap, rfl⟩ : ∃ A c, u = .slice A xss.length c := by obtain ⟨A, b, o, cap, R, hu, _⟩ := h.rows.form; exact ⟨A, cap, hu⟩
  obtain ⟨C, b', o', cap', rfl, hcap', hmax', hC, hcw⟩ := h.ints.form
  obtain ⟨L, b2, o2, cap2, rfl, hcap2, hmax2, hL, hcl⟩ := hl.form
  have hlz : l.length ≤ 10 := by have := rising_len hr (by omega); have := hok.len; omega
  have HWS := Lib.hid (fun k (hk : k < l.length) => ws_at hok hr hk)
  obtain ⟨w1, hw1⟩ : ∃ w1, w.alloc (.cells #[.int .i64 x, .slice A xss.length cap, .slice C ws.length cap'] 28) = w1 := ⟨_, rfl⟩
  have K1 : Hid (Blk w1 w.heap.size 28 #[.int .i64 x, .slice A xss.length cap, .slice C ws.length cap']) := Lib.hid (by rw [← hw1]; exact Blk.new w _ _)
  have B1 : Hid (Below w.heap.size w w1) := Lib.hid (by rw [← hw1]; exact below_al (Below.refl _ _) _)
  rw [hw1] at HOE
  obtain ⟨c0, c1, c2, c3⟩ := scene.three_cells K1.out
  clear h hl hok hr hmax' hmax2 hcap' hcap2
  go_enter Try.func67, Try.ntmps67
  go_wp2_with fail
  go_loopw [5, 7, 10] (fun s _ i wr => ∃ (k : Nat) (m : Int), k ≤ l.length ∧ i = .int .i64 k ∧ s = .int .i64 m ∧ 0 ≤ m ∧ m ≤ k ∧ Hid (m = ones ws (l.take k)) ∧ w1 = wr) (fun _ _ i _ => l.length - (intOf i).toNat)
  case atStart => exact ⟨0, 0, Nat.zero_le _, rfl, rfl, by omega, by omega, by simp [ones]; exact trivial, rfl⟩
  case round =>
    obtain ⟨k, m, hk, rfl, rfl, hm0, hm1, hH, rfl⟩ := hrel
    by_cases hlt : k < l.length
    · have hkz : (k : Int) < (l.length : Int) := by omega
      obtain rfl := hL (by omega)
      obtain ⟨p, hp, hpx, hpw, e1, e2, e3, e4⟩ := HWS.out k hlt
      obtain rfl := hC (by omega)
      have g0 := below_cell B1.out _ _ (hcl k hlt)
      rw [hp] at g0
      have g1 := below_cell B1.out _ _ (hcw p hpw)
      have hpz2 : (p : Int) < (ws.length : Int) := by omega
      have HN : Hid (m + ws[p] = ones ws (l.take (k + 1))) := Lib.hid (by rw [ones_succ ws hlt, e1, hH.out])
      have HCL := Lib.hid hcl
      have HCW := Lib.hid hcw
      clear hp e1 e4 hL hC hcl hcw
      generalize ws[p] = z at *
      go_wp2_with fail
      go_roundw
      case rel => exact ⟨k + 1, _, by omega, by go_num, rfl, by omega, by omega, HN, by first | rfl | trivial⟩
      case measure => simp [intOf]; omega
    · have hkz : ¬ (k : Int) < (l.length : Int) := by omega
      obtain rfl : k = l.length := by omega
      have HQ : Hid (proofB xss ws l = (((odd xss 0 l : Nat) : Int) == 0 && (m % 2 == 1))) := Lib.hid (by
        have h1 := hH.out
        rw [List.take_length] at h1
        unfold proofB
        rw [h1])
      clear hcl hcw hL hC
      generalize odd xss 0 l = q at *
      by_cases h2 : m % 2 = 1
      · have d2 : (m.tmod 2 == 1) = true := by rw [Int.tmod_eq_emod_of_nonneg hm0, h2]; rfl
        have d3 : (m % 2 == 1) = true := by rw [h2]; rfl
        have HR : Hid (proofB xss ws l = ((q : Int) == 0)) := Lib.hid (by rw [HQ.out, h2]; simp)
        clear h2
        go_wp2_with fail
        refine HOE.out.mono ?_
        rintro e w2 ⟨rfl, hb2⟩
        have B2 := Lib.hid (below_tr B1.out hb2)
        clear hb2
        go_wp2_with fail
        go_ret
        exact ⟨ret_b (by rw [HR.out]), B2.out⟩
      · have d2 : (m.tmod 2 == 1) = false := by rw [Int.tmod_eq_emod_of_nonneg hm0]; simpa using h2
        have d3 : (m % 2 == 1) = false := by simpa using h2
        have HR : Hid (proofB xss ws l = false) := Lib.hid (by rw [HQ.out]; simp [h2])
        clear h2
        go_wp2_with fail
        go_ret
        exact ⟨ret_b HR.out.symm, B1.out⟩


open Classical in
noncomputable def proofR (x : Int) (xss : List (List Int)) (ws l : List Int) : Bool × Bool := if okScene x xss ws then (risingB 0 ((xss.length : Int) - 1) l && proofB xss ws l, true) else (false, false)
theorem proofR_no {x : Int} {xss : List (List Int)} {ws l : List Int} (h : ¬ okScene x xss ws) : proofR x xss ws l = (false, false) := if_neg h
theorem proofR_out {x : Int} {xss : List (List Int)} {ws l : List Int} (h : okScene x xss ws) (hb : ¬ rising 0 ((xss.length : Int) - 1) l) : proofR x xss ws l = (false, true) := by unfold proofR; rw [if_pos h, risingB_no hb]; rfl
theorem proofR_in {x : Int} {xss : List (List Int)} {ws l : List Int} (h : okScene x xss ws) (hb : rising 0 ((xss.length : Int) - 1) l) : proofR x xss ws l = (proofB xss ws l, true) := by unfold proofR; rw [if_pos h, risingB_yes hb]; rfl


set_option maxHeartbeats 2000000 in
theorem spec_IsParityProof (x : Int) (u : Value) (xss : List (List Int)) (v : Value) (ws : List Int) (lv : Value) (l : List Int) (w : World) (h : scene.GV w v ws u xss) (ha : Ints w lv l) (hm : total xss ≤ 1048576) :
    Calls Try.prog 31 #[.agg #[.int .i64 x, u, v], lv] w fun e w' => e = .returned (.tuple #[.bool (proofR x xss ws l).1, .bool (proofR x xss ws l).2]) ∧ Below w.heap.size w w' := by
  obtain ⟨A, cap, rfl⟩ : ∃ A c, u = .slice A xss.length c := by obtain ⟨A, b, o, cap, R, hu, _⟩ := h.rows.form; exact ⟨A, cap, hu⟩
  obtain ⟨C, cap', rfl⟩ : ∃ A c, v = .slice A ws.length c := by obtain ⟨A, c, hv, _⟩ := h.ints; exact ⟨A, c, by rw [hv, len_i64s]⟩
  obtain ⟨va, vn, vc, rfl⟩ := ha.shape
  have H := Lib.hid h
  have HA := Lib.hid ha
  have K0 := Lib.hid (Blk.new w 28 #[.int .i64 x, .slice A xss.length cap, .slice C ws.length cap'])
  have HI := Lib.hid (scv.spec_good x _ xss _ ws (w.alloc (.cells #[.int .i64 x, .slice A xss.length cap, .slice C ws.length cap'] 28)) (h.below (below_al (Below.refl _ _) _)) hm)
  clear h ha
  by_cases hok : okScene x xss ws
  · have hx10 := hok.len
    have HI := HI
    rw [sceneB_yes hok] at HI
    have HB := Lib.hid (fun W hW => scv.spec_rising _ l 0 ((xss.length : Int) - 1) W (HA.out.below hW))
    by_cases hb : rising 0 ((xss.length : Int) - 1) l
    · have HR : Hid (proofR x xss ws l = (proofB xss ws l, true)) := Lib.hid (proofR_in hok hb)
      have HBB := Lib.hid (risingB_yes hb)
      have HP := Lib.hid (fun W hW => spec_proof x _ xss _ ws _ l W (H.out.below hW) (HA.out.below hW) hok hb)
      clear hok hb
      obtain ⟨c0, c1, c2, c3⟩ := scene.three_cells K0.out
      go_enter Try.func31, Try.ntmps31
      go_wp2_with fail
      refine HI.out.mono ?_
      rintro e w1 ⟨rfl, hb1⟩
      have B1 := Lib.hid (below_tr (below_al (Below.refl w.heap.size w) _) hb1)
      have K1 := Lib.hid (K0.out.below hb1)
      clear c0 c1 c2 c3 hb1
      obtain ⟨c0, c1, c2, c3⟩ := scene.three_cells K1.out
      go_wp2_with fail
      refine (HB.out _ B1.out).mono ?_
      rintro e w' ⟨rfl, q, rfl⟩
      rw [HBB.out]
      go_wp2_with fail
      refine (HP.out _ (below_drewN B1.out q)).mono ?_
      rintro e w2 ⟨rfl, hb2⟩
      have B2 := Lib.hid (below_tr (below_drewN B1.out q) hb2)
      clear hb2
      go_wp2_with fail
      go_ret2
      exact ⟨ret_bb (by rw [HR.out]), B2.out⟩
    · have HR := Lib.hid (proofR_out hok hb)
      have HBB := Lib.hid (risingB_no hb)
      clear hok hb
      obtain ⟨c0, c1, c2, c3⟩ := scene.three_cells K0.out
      go_enter Try.func31, Try.ntmps31
      go_wp2_with fail
      refine HI.out.mono ?_
      rintro e w1 ⟨rfl, hb1⟩
      have B1 := Lib.hid (below_tr (below_al (Below.refl w.heap.size w) _) hb1)
      have K1 := Lib.hid (K0.out.below hb1)
      clear c0 c1 c2 c3 hb1
      obtain ⟨c0, c1, c2, c3⟩ := scene.three_cells K1.out
      go_wp2_with fail
      refine (HB.out _ B1.out).mono ?_
      rintro e w' ⟨rfl, q, rfl⟩
      rw [HBB.out]
      go_wp2_with fail
      go_ret2
      exact ⟨ret_bb (by rw [HR.out]), (below_drewN B1.out q)⟩
  · have HI := HI
    rw [sceneB_no hok] at HI
    have HR := Lib.hid (proofR_no (l := l) hok)
    clear hok
    obtain ⟨c0, c1, c2, c3⟩ := scene.three_cells K0.out
    go_enter Try.func31, Try.ntmps31
    go_wp2_with fail
    refine HI.out.mono ?_
    rintro e w1 ⟨rfl, hb1⟩
    have B1 := Lib.hid (below_tr (below_al (Below.refl w.heap.size w) _) hb1)
    have K1 := Lib.hid (K0.out.below hb1)
    clear c0 c1 c2 c3 hb1
    obtain ⟨c0, c1, c2, c3⟩ := scene.three_cells K1.out
    go_wp2_with fail
    go_ret2
    exact ⟨ret_bb (by rw [HR.out]), B1.out⟩



set_option maxHeartbeats 2000000 in
theorem impl_IsParityProof (x : Int) (u : Value) (xss : List (List Int)) (v : Value) (ws : List Int) (lv : Value) (l : List Int) (w : World) (h : scene.GV w v ws u xss) (ha : Ints w lv l) (hm : total xss ≤ 1048576) :
    Calls Try.prog 32 #[.agg #[.int .i64 x, u, v], lv] w fun e w' => e = .returned (.tuple #[.bool (proofR x xss ws l).1, .bool (proofR x xss ws l).2]) ∧ Below w.heap.size w w' := by
  obtain ⟨A, cap, rfl⟩ : ∃ A c, u = .slice A xss.length c := by obtain ⟨A, b, o, cap, R, hu, _⟩ := h.rows.form; exact ⟨A, cap, hu⟩
  obtain ⟨C, cap', rfl⟩ : ∃ A c, v = .slice A ws.length c := by obtain ⟨A, c, hv, _⟩ := h.ints; exact ⟨A, c, by rw [hv, len_i64s]⟩
  obtain ⟨va, vn, vc, rfl⟩ := ha.shape
  have H := Lib.hid h
  have HA := Lib.hid ha
  have K0 := Lib.hid (Blk.new w 28 #[.int .i64 x, .slice A xss.length cap, .slice C ws.length cap'])
  have HI := Lib.hid (scv.impl_scene x _ xss _ ws (w.alloc (.cells #[.int .i64 x, .slice A xss.length cap, .slice C ws.length cap'] 28)) (h.below (below_al (Below.refl _ _) _)) hm)
  clear h ha
  by_cases hok : okScene x xss ws
  · have hx10 := hok.len
    have HI := HI
    rw [sceneB_yes hok] at HI
    have HB := Lib.hid (fun W hW => scv.impl_places _ l (xss.length : Int) W (HA.out.below hW))
    by_cases hb : rising 0 ((xss.length : Int) - 1) l
    · have HR : Hid (proofR x xss ws l = (proofB xss ws l, true)) := Lib.hid (proofR_in hok hb)
      have HBB := Lib.hid (risingB_yes hb)
      have HP := Lib.hid (fun W hW => impl_proof x _ xss _ ws _ l W (H.out.below hW) (HA.out.below hW) hok hb)
      clear hok hb
      obtain ⟨c0, c1, c2, c3⟩ := scene.three_cells K0.out
      go_enter Try.func32, Try.ntmps32
      go_wp2_with fail
      refine HI.out.mono ?_
      rintro e w1 ⟨rfl, hb1⟩
      have B1 := Lib.hid (below_tr (below_al (Below.refl w.heap.size w) _) hb1)
      have K1 := Lib.hid (K0.out.below hb1)
      clear c0 c1 c2 c3 hb1
      obtain ⟨c0, c1, c2, c3⟩ := scene.three_cells K1.out
      go_wp2_with fail
      refine (HB.out _ B1.out).mono ?_
      rintro e w' ⟨rfl, rfl⟩
      rw [HBB.out]
      go_wp2_with fail
      refine (HP.out _ B1.out).mono ?_
      rintro e w2 ⟨rfl, hb2⟩
      have B2 := Lib.hid (below_tr B1.out hb2)
      clear hb2
      go_wp2_with fail
      go_ret2
      exact ⟨ret_bb (by rw [HR.out]), B2.out⟩
    · have HR := Lib.hid (proofR_out hok hb)
      have HBB := Lib.hid (risingB_no hb)
      clear hok hb
      obtain ⟨c0, c1, c2, c3⟩ := scene.three_cells K0.out
      go_enter Try.func32, Try.ntmps32
      go_wp2_with fail
      refine HI.out.mono ?_
      rintro e w1 ⟨rfl, hb1⟩
      have B1 := Lib.hid (below_tr (below_al (Below.refl w.heap.size w) _) hb1)
      have K1 := Lib.hid (K0.out.below hb1)
      clear c0 c1 c2 c3 hb1
      obtain ⟨c0, c1, c2, c3⟩ := scene.three_cells K1.out
      go_wp2_with fail
      refine (HB.out _ B1.out).mono ?_
      rintro e w' ⟨rfl, rfl⟩
      rw [HBB.out]
      go_wp2_with fail
      go_ret2
      exact ⟨ret_bb (by rw [HR.out]), B1.out⟩
  · have HI := HI
    rw [sceneB_no hok] at HI
    have HR := Lib.hid (proofR_no (l := l) hok)
    clear hok
    obtain ⟨c0, c1, c2, c3⟩ := scene.three_cells K0.out
    go_enter Try.func32, Try.ntmps32
    go_wp2_with fail
    refine HI.out.mono ?_
    rintro e w1 ⟨rfl, hb1⟩
    have B1 := Lib.hid (below_tr (below_al (Below.refl w.heap.size w) _) hb1)
    have K1 := Lib.hid (K0.out.below hb1)
    clear c0 c1 c2 c3 hb1
    obtain ⟨c0, c1, c2, c3⟩ := scene.three_cells K1.out
    go_wp2_with fail
    go_ret2
    exact ⟨ret_bb (by rw [HR.out]), B1.out⟩


end Go.Proofs.Ytkikdecepdbbnaa.scp
