/- Contexts that keep an assignment, in the model: l7Ones, l7Kept, l7Solves, l7Picks; KeptBy, SolvesScene and Picks. -/
import Derived.Test.YtkikdecepdbbnaaScv
import Derived.Test.YtkikdecepdbbnaaApp
import Derived.Test.YtkikdecepdbbnaaMk
namespace Go.Proofs.Ytkikdecepdbbnaa.sck
open Go.RowKit Go.Deep Go.Proofs.Ytkikdecepdbbnaa.base
open Go.Proofs.Ytkikdecepdbbnaa.ints (ret_int ret_no ret_yes infoInt)
open Go.Proofs.Ytkikdecepdbbnaa.rws (total len_le_total)
open Go.Proofs.Ytkikdecepdbbnaa.val (ret_b)
open Go.Proofs.Ytkikdecepdbbnaa.play (within withinB withinB_yes withinB_no ret_bb)
open Go.Proofs.Ytkikdecepdbbnaa.scm

theorem asg {n : Int} {a c : List Int} (hb : within n 0 1 a) (hr : rising 0 (n - 1) c) {k : Nat} (hk : k < c.length) : ∃ e : Nat, c[k] = (e : Int) ∧ ∃ he : e < a.length, bitAt a c[k] = a[e] ∧ 0 ≤ a[e] ∧ a[e] ≤ 1 := by
  have h1 := rising_at hr hk
  obtain ⟨he, e1⟩ := bitAt_in hb h1.1 h1.2
  exact ⟨c[k].toNat, by omega, he, e1, hb.2 _ he⟩


set_option maxHeartbeats 1000000 in
theorem spec_ones (n : Int) (u v : Value) (c a : List Int) (w : World) (hc : Ints w u c) (ha : Ints w v a) (hr : rising 0 (n - 1) c) (hb : within n 0 1 a) (h0 : 0 ≤ n) (hn : n ≤ 12) :
    Calls Try.prog 87 #[u, v] w fun e w' => e = .returned (.int .i64 (ones a c)) ∧ w = w' := by
  have hl12 : c.length ≤ 12 := by have := rising_len hr h0; omega
  have HB := Lib.hid (fun k (hk : k ≤ c.length) => ones_bound hb hr k hk)
  have HS := Lib.hid (fun k (hk : k < c.length) => ones_succ a hk)
  have HE := Lib.hid (fun k (hk : k < c.length) => asg hb hr hk)
  obtain ⟨C, b, o, cap, rfl, hcap, hmax, hA, hcc⟩ := hc.form
  obtain ⟨A, b', o', cap', rfl, hcap', hmax', hA', haa⟩ := ha.form
  clear hc ha hmax hmax' hcap hcap' hr hb h0 hn
  go_enter Try.func87, Try.ntmps87
  go_wp2_with fail
  go_loopw [5, 6] (fun s i wr => ∃ (k : Nat) (m : Int), k ≤ c.length ∧ i = .int .i64 k ∧ s = .int .i64 m ∧ 0 ≤ m ∧ m ≤ k ∧ Hid (m = ones a (c.take k)) ∧ w = wr) (fun _ i _ => c.length - (intOf i).toNat)
  case atStart => exact ⟨0, 0, Nat.zero_le _, rfl, rfl, by omega, by omega, by simp [ones]; exact trivial, rfl⟩
  case round =>
    obtain ⟨k, m, hk, rfl, rfl, hm0, hm1, hH, rfl⟩ := hrel
    by_cases hlt : k < c.length
    · have hkz : (k : Int) < (c.length : Int) := by omega
      obtain ⟨e, he1, hel, he2, he3, he4⟩ := HE.out k hlt
      obtain rfl := hA (by omega)
      obtain rfl := hA' (by omega)
      have g0 := hcc k hlt
      rw [he1] at g0
      have g1 := haa e hel
      have hez : (e : Int) < (a.length : Int) := by omega
      have HQ : Hid (m + a[e] = ones a (c.take (k + 1))) := Lib.hid (by rw [HS.out k hlt, he2, hH.out])
      clear he1 he2 hcc haa hA hA'
      go_wp2_with fail
      go_roundw
      case rel => exact ⟨k + 1, _, by omega, by go_num, rfl, by omega, by omega, HQ, by first | rfl | trivial⟩
      case measure => simp [intOf]; omega
    · have hkz : ¬ (k : Int) < (c.length : Int) := by omega
      obtain rfl : k = c.length := by omega
      have HQ : Hid (m = ones a c) := Lib.hid (by have := hH.out; rwa [List.take_length] at this)
      clear hcc haa hA hA'
      go_wp2_with fail
      go_ret
      exact ⟨ret_int HQ.out, rfl⟩


/-- what the contexts' walks are given of a valid Scene and an assignment -/
theorem at_ctx {x : Int} {xss : List (List Int)} {ws : List Int} (h : okScene x xss ws) {k : Nat} (hk : k < xss.length) : rising 0 (x - 1) xss[k] ∧ xss.getD k [] = xss[k] ∧ ∃ hw : k < ws.length, ws.getD k 0 = ws[k] ∧ (ws[k] = 0 ∨ ws[k] = 1) := by
  have hw : k < ws.length := by have := h.sums.1; omega
  refine ⟨(h.ctx k hk).2, by simp [List.getD, hk], hw, by simp [List.getD, hw], ?_⟩
  have := h.sums.2 k hw; omega


set_option maxHeartbeats 2000000 in
theorem spec_kept (x : Int) (u : Value) (xss : List (List Int)) (v : Value) (ws : List Int) (av : Value) (a : List Int) (w : World) (h : scene.GV w v ws u xss) (ha : Ints w av a) (hok : okScene x xss ws) (hb : within x 0 1 a) :
    Calls Try.prog 56 #[.agg #[.int .i64 x, u, v], av] w fun e w' => ∃ u', e = .returned u' ∧ OwnInts w' w.heap.size w'.heap.size u' (kept xss ws a) ∧ Below w.heap.size w w' := by
  obtain ⟨i0, hi, hz0, hz1, hz2⟩ := info_parts infoInt
  have HON := Lib.hid (fun (W : World) (r : Value) (k : Nat) (hk : k < xss.length) (hr : Ints W r xss[k]) (hv : Ints W av a) => spec_ones x r av xss[k] a W hr hv (at_ctx hok hk).1 hb hok.ev0 hok.ev1)
  have HAV := Lib.hid ha
  obtain ⟨A, b, o, cap, R, rfl, hcap, hmax, hA, hc⟩ := h.rows.form
  obtain ⟨C, b', o', cap', rfl, hcap', hmax', hC, hcw⟩ := h.ints.form
  have hx10 : xss.length ≤ 10 := hok.len
  have HLW : Hid (ws.length = xss.length) := Lib.hid (by have := hok.sums.1; omega)
  have HOB := Lib.hid (fun k (hk : k < xss.length) => ones_bound hb (at_ctx hok hk).1 xss[k].length (Nat.le_refl _))
  have HK : Hid (∀ k (hk : k < xss.length) (hw : k < ws.length), keptAt xss ws a k = ((ones a xss[k]).tmod 2 == ws[k])) := Lib.hid (fun k hk hw => by
    obtain ⟨_, e1, hw', e2, _⟩ := at_ctx hok hk
    have h1 := ones_bound hb (at_ctx hok hk).1 xss[k].length (Nat.le_refl _)
    rw [List.take_length] at h1
    unfold keptAt
    rw [e1, e2, Int.tmod_eq_emod_of_nonneg h1.1]
    rfl)
  have K0 := Lib.hid (Blk.new w 28 #[.int .i64 x, .slice A xss.length cap, .slice C ws.length cap'])
  clear h ha hmax hmax' hcap hcap' hb
  have O0 : Hid ((w.alloc (.cells #[.int .i64 x, .slice A xss.length cap, .slice C ws.length cap'] 28)).alloc (.cells #[] 3) |>.ownsRow (w.heap.size + 1) 3 1 (.slice (some ⟨w.heap.size + 1, 0, none⟩) 0 0) 0 (i64s (pass (keptAt xss ws a) 0))) := Lib.hid (by
    have := World.ownsRow_made (base := w.heap.size + 1) (e := 3) (size := 1) (w.alloc (.cells #[.int .i64 x, .slice A xss.length cap, .slice C ws.length cap'] 28)) #[] 0 (by simp) (Nat.zero_le _) rfl
    simpa [i64s, pass] using this)
  have B0 : Hid (Below w.heap.size w ((w.alloc (.cells #[.int .i64 x, .slice A xss.length cap, .slice C ws.length cap'] 28)).alloc (.cells #[] 3))) := Lib.hid (below_al (below_al (Below.refl _ _) _) _)
  have K1 := Lib.hid (K0.out.alloc (.cells #[] 3))
  clear K0
  go_enter Try.func56, Try.ntmps56
  go_wp2_with fail
  go_loopw [5, 6] (fun out i wr => ∃ k : Nat, k ≤ xss.length ∧ i = .int .i64 k ∧ ∃ m, Hid (wr.ownsRow (w.heap.size + 1) 3 1 out m (i64s (pass (keptAt xss ws a) k))) ∧ Hid (Below w.heap.size w wr) ∧ Hid (Blk wr w.heap.size 28 #[.int .i64 x, .slice A xss.length cap, .slice C ws.length cap'])) (fun _ i _ => xss.length - (intOf i).toNat)
  case atStart => exact ⟨0, Nat.zero_le _, rfl, _, O0, B0, K1⟩
  case round =>
    obtain ⟨k, hk, rfl, m, hO, hB, hK⟩ := hrel
    clear B0 K1 O0
    obtain ⟨wi, rfl⟩ : ∃ wi : World, wi = wr := ⟨_, rfl⟩
    obtain ⟨c0, c1, c2, c3⟩ := scene.three_cells hK.out
    by_cases hlt : k < xss.length
    · have hkz : (k : Int) < (xss.length : Int) := by omega
      have hltw : k < ws.length := by have := HLW.out; omega
      have hkw : (k : Int) < (ws.length : Int) := by omega
      obtain rfl := hA (by omega)
      obtain rfl := hC (by omega)
      obtain rfl : m = (pass (keptAt xss ws a) k).length := by
        have := hO.out.1
        rw [len_i64s] at this; omega
      have HLE := Lib.hid (len_pass (keptAt xss ws a) k)
      have g0 := below_cell hB.out _ _ (hc k hlt).1
      have g1 := below_cell hB.out _ _ (hcw k hltw)
      have HF : Hid (∀ q, Calls Try.prog 87 #[R k, av] (wi.drewN q) fun e w' => e = .returned (.int .i64 (ones a xss[k])) ∧ w' = wi.drewN q) := Lib.hid (fun q => (HON.out _ (R k) k hlt ((hc k hlt).2.below (below_drewN hB.out q)) (HAV.out.below (below_drewN hB.out q))).mono fun _ _ h => ⟨h.1, h.2.symm⟩)
      have HKA := Lib.hid (HK.out k hlt hltw)
      have hcc := Lib.hid hc
      have hcc' := Lib.hid hcw
      clear hc hcw hA hC
      generalize ones a xss[k] = s at *
      generalize hz : ws[k] = z at *
      clear hz
      by_cases hke : (s.tmod 2 == z) = true
      · have HL : Hid (pass (keptAt xss ws a) (k + 1) = pass (keptAt xss ws a) k ++ [(k : Int)]) := Lib.hid (pass_yes (by rw [HKA.out, hke]))
        go_wp2_with fail
        go_quiet ((go_at_call 87; go_must (exact Calls.quiet_of_same (HF.out _))))
        have B2 := Lib.hid (below_drewN hB.out nq)
        have K2 : Hid (Blk (wi.drewN nq) w.heap.size 28 #[.int .i64 x, .slice (some ⟨b, o, none⟩) xss.length cap, .slice (some ⟨b', o', none⟩) ws.length cap']) := hK
        have O2 : Hid ((wi.drewN nq).ownsRow (w.heap.size + 1) 3 1 _ _ (i64s (pass (keptAt xss ws a) k))) := hO
        clear c0 c1 c2 c3 g0 g1
        obtain ⟨c0, c1, c2, c3⟩ := scene.three_cells K2.out
        have hsz2 := B2.out.size
        go_wp2_with (at_builtin; go_must (refine wpList_append_own _ rfl (.tmp 29) (.tmp 31) 23 rfl (w.heap.size + 1) 3 i0 (.int .i64 0) 1 8 Try.underlying23 hi hz0 hz1 hz2 rfl (by decide) _ _ _ rfl (O2.out.alloc _) ⟨(wi.drewN nq).heap.size, 0, none⟩ 1 1 [.int .i64 (k : Int)] rfl rfl ?c1 ?c2 ?c3 ?c4 ?c5 ?_))
        case c1 => exact app.one_at _ _ _
        case c2 => intro u hu; simp at hu; subst hu; rfl
        case c3 => have := HLE.out; unfold maxLen; omega
        case c4 => have := HLE.out; omega
        case c5 => simp at hsz2 ⊢; omega
        intro v' w3 hown' hgrow _
        have O3 : Hid (w3.ownsRow (w.heap.size + 1) 3 1 v' (pass (keptAt xss ws a) (k + 1)).length (i64s (pass (keptAt xss ws a) (k + 1)))) := Lib.hid (by
          rw [HL.out, ← app.i64s_snoc, List.length_append]; exact hown')
        have B3 : Hid (Below w.heap.size w w3) := Lib.hid ((below_al B2.out _).grown hgrow (by have := hB.out.size; simp; omega) (fun j hj => by have := (O2.out.lt j hj).1; omega))
        have K3 : Hid (Blk w3 w.heap.size 28 #[.int .i64 x, .slice (some ⟨b, o, none⟩) xss.length cap, .slice (some ⟨b', o', none⟩) ws.length cap']) := Lib.hid ((hgrow.block _ (K2.out.alloc _).lt (fun e => by have := (O2.out.lt _ e.symm).1; omega)).trans (K2.out.alloc _))
        obtain ⟨xa, xl, xc, rfl⟩ := make.shape hown'
        clear hown' hgrow B2 K2 O2 c0 c1 c2 c3 hsz2 hke
        go_wp2_with fail
        go_roundw
        case rel => exact ⟨k + 1, by omega, by go_num, _, O3, B3, K3⟩
        case measure => simp [intOf]; omega
      · have hkf : (s.tmod 2 == z) = false := by simpa using hke
        have HL : Hid (pass (keptAt xss ws a) (k + 1) = pass (keptAt xss ws a) k) := Lib.hid (pass_no (by rw [HKA.out, hkf]))
        clear hke
        go_wp2_with fail
        go_quiet ((go_at_call 87; go_must (exact Calls.quiet_of_same (HF.out _))))
        have B2 := Lib.hid (below_drewN hB.out nq)
        have K2 : Hid (Blk (wi.drewN nq) w.heap.size 28 #[.int .i64 x, .slice (some ⟨b, o, none⟩) xss.length cap, .slice (some ⟨b', o', none⟩) ws.length cap']) := hK
        have O2 : Hid ((wi.drewN nq).ownsRow (w.heap.size + 1) 3 1 _ _ (i64s (pass (keptAt xss ws a) (k + 1)))) := Lib.hid (by rw [HL.out]; exact hO.out)
        go_wp2_with fail
        go_roundw
        case rel => exact ⟨k + 1, by omega, by go_num, _, O2, B2, K2⟩
        case measure => simp [intOf]; omega
    · have hkz : ¬ (k : Int) < (xss.length : Int) := by omega
      obtain rfl : k = xss.length := by omega
      have O2 := Lib.hid (app.ints_of_owns hO.out)
      obtain ⟨ra, rn, rc, rfl⟩ := O2.out.ints.shape
      clear hc hcw hA hC
      go_wp2_with fail
      go_ret
      exact ⟨_, rfl, O2.out.mono (by omega) (Nat.le_refl _), hB.out⟩


end Go.Proofs.Ytkikdecepdbbnaa.sck
