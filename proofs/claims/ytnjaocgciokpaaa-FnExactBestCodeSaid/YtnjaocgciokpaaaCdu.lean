/- Scores of a code in the program: score, scores, total, leastScore; CodeScores, CodeTotal. -/
import Derived.Test.YtnjaocgciokpaaaCdg
import Derived.Test.YtnjaocgciokpaaaCdt
import Derived.BigQuiet
namespace Go.Proofs.Ytnjaocgciokpaaa.cdu
open Go.RowKit Go.Deep Go.Proofs.Ytnjaocgciokpaaa.base
open Go.Proofs.Ytnjaocgciokpaaa.ints (ret_int infoInt)
open Go.Proofs.Ytnjaocgciokpaaa.cdm
open Go.Proofs.Ytnjaocgciokpaaa.maxi (lst at_)


set_option maxRecDepth 100000 in
set_option maxHeartbeats 4000000 in
theorem score (n : Int) (v : Value) (cs : List Int) (i : Nat) (w : World) (h : Ints w v cs) (hok : okCode n cs) (hi : i ≤ 2) :
    Calls Try.prog 91 #[.agg #[.int .i64 n, v], .int .i64 (i : Int)] w fun e w' => e = .returned (.int .i64 (sc cs i)) ∧ Below w.heap.size w w' := by
  have h8 := ok_len8 hok
  have HOK := Lib.hid hok
  have hpos : 0 < cs.length := by rw [ok_len hok]; exact Nat.pow_pos (by omega)
  have HG := Lib.hid (cdg.guesses n v cs i _ (h.below (below_al (Below.refl w.heap.size w) (.cells #[.int .i64 n, v] 60))) hok hi)
  obtain ⟨A, b, o, cap, rfl, hcap, hmax, hA, hc⟩ := h.form
  obtain rfl := hA hpos
  have HC := Lib.hid hc
  have K0 := Lib.hid (Blk.new w 60 #[.int .i64 n, .slice (some ⟨b, o, none⟩) cs.length cap])
  clear hc hmax hcap h hok hA
  have hlz : (cs.length : Int) ≤ 8 := by omega
  go_enter Try.func91, Try.ntmps91
  go_wp2_with fail
  refine HG.out.mono ?_
  rintro e w1 ⟨rfl, hb⟩
  have B1 := Lib.hid (below_tr (below_al (Below.refl _ _) _) hb)
  have K1 := Lib.hid (K0.out.below hb)
  obtain ⟨G, hG⟩ : ∃ G : Nat → Int, G = fun m : Nat => ((g cs (m : Int) i : Nat) : Int) := ⟨_, rfl⟩
  have e0 : ((g cs 0 i : Nat) : Int) = G 0 := by rw [hG]; rfl
  have e1 : ((g cs 1 i : Nat) : Int) = G 1 := by rw [hG]; rfl
  rw [e0, e1]
  have HGG : Hid (∀ m, G m = ((g cs (m : Int) i : Nat) : Int)) := Lib.hid (fun m => by rw [hG])
  clear hb HG K0 hG e0 e1
  obtain ⟨W2, hW2⟩ : ∃ W2, w1.alloc (.cells #[.int .i64 (G 0), .int .i64 (G 1)] 64) = W2 := ⟨_, rfl⟩
  have B2 : Hid (Below w.heap.size w W2) := Lib.hid (hW2 ▸ below_al B1.out _)
  have K2 : Hid (Blk W2 w.heap.size 60 #[.int .i64 n, .slice (some ⟨b, o, none⟩) cs.length cap]) := Lib.hid (hW2 ▸ K1.out.alloc _)
  have R2 : Hid (Blk W2 w1.heap.size 64 #[.int .i64 (G 0), .int .i64 (G 1)]) := Lib.hid (hW2 ▸ Blk.new w1 _ _)
  obtain ⟨k0, k1⟩ := prt.two_cells K2.out
  clear B1 K1 K2
  go_wp2_with fail
  clear k0 k1 hW2
  go_loopw [6, 7, 8, 15] (fun s z7 z8 q wr => ∃ (k : Nat) (z : Int), k ≤ cs.length ∧ q = .int .i64 k ∧ (∃ z, z7 = z) ∧ (∃ z, z8 = z) ∧ s = .int .i64 z ∧ Hid (z = ((rg cs i k : Nat) : Int)) ∧ 0 ≤ z ∧ z ≤ k ∧ Hid (Below w.heap.size w wr) ∧ Hid (Blk wr w1.heap.size 64 #[.int .i64 (G 0), .int .i64 (G 1)])) (fun _ _ _ q _ => cs.length - (intOf q).toNat)
  case atStart => exact ⟨0, 0, Nat.zero_le _, rfl, ⟨_, rfl⟩, ⟨_, rfl⟩, rfl, Lib.hid rfl, by omega, by omega, B2, R2⟩
  case round =>
    clear B2 R2
    obtain ⟨k, z, hk, rfl, ⟨z7, rfl⟩, ⟨z8, rfl⟩, rfl, hz, hz0, hz1, hB, hR⟩ := hrel
    obtain ⟨wi, rfl⟩ : ∃ wi : World, wi = wr := ⟨_, rfl⟩
    by_cases hlt : k < cs.length
    · have hkz : (k : Int) < (cs.length : Int) := by omega
      obtain ⟨y, g0, hy⟩ : ∃ y, wi.cell? ⟨b, o + k, none⟩ = some (.int .i64 y) ∧ cs.getD k 2 = y := ⟨_, below_cell hB.out _ _ (HC.out k hlt), by simp [List.getD, hlt]; try rfl⟩
      have hy01 : y = 0 ∨ y = 1 := by rw [← hy]; exact ok_get HOK.out k hlt
      have HLT := Lib.hid hlt
      have HF : Hid (∀ q, Calls Try.prog 71 #[.int .i64 (k : Int), .int .i64 (i : Int)] (wi.drewN q) fun e w' => e = .returned (.int .i64 ((lt k i : Nat) : Int)) ∧ w' = wi.drewN q) := Lib.hid (fun q => (cdi.letter k i _ (by omega) hi).mono fun _ _ h => ⟨h.1, h.2.symm⟩)
      obtain ⟨d0, d1⟩ := prt.two_cells hR.out
      have hlk := lt_le k i
      clear hlt
      rcases hy01 with ey | ey
      · have HYES := Lib.hid (fun h => rg_yes (cs := cs) (i := i) (k := k) h)
        have HNO := Lib.hid (fun h => rg_no (cs := cs) (i := i) (k := k) h)
        rw [hy, ey, show ((g cs 0 i = lt k i)) = (G 0 = ((lt k i : Nat) : Int)) from by rw [HGG.out]; exact propext ⟨fun h => congrArg Int.ofNat h, fun h => Int.ofNat.inj h⟩] at HYES HNO
        rw [ey] at g0
        obtain ⟨p, hp⟩ : ∃ p, G 0 = p := ⟨_, rfl⟩
        rw [hp] at d0 HYES HNO
        generalize lt k i = t at HYES HNO HF hlk
        clear hy ey hp
        by_cases hq : p = (t : Int)
        · have HN := Lib.hid (HYES.out hq)
          have dq : (p == (t : Int)) = true := by simp [hq]
          clear hq HYES HNO
          go_wp2_with fail
          go_quiet ((go_at_call 71; go_must (exact Calls.quiet_of_same (HF.out _))))
          go_wp2_with fail
          go_roundw
          case rel => exact ⟨k + 1, z + 1, by have := HLT.out; omega, by go_num, ⟨_, rfl⟩, ⟨_, rfl⟩, rfl, Lib.hid (by rw [HN.out, hz.out]; simp), by omega, by push_cast; omega, below_drewN hB.out _, hR⟩
          case measure => have := HLT.out; simp [intOf]; omega
        · have HN := Lib.hid (HNO.out hq)
          have dq : (p == (t : Int)) = false := by simp [hq]
          clear hq HYES HNO
          go_wp2_with fail
          go_quiet ((go_at_call 71; go_must (exact Calls.quiet_of_same (HF.out _))))
          go_wp2_with fail
          go_roundw
          case rel => exact ⟨k + 1, z, by have := HLT.out; omega, by go_num, ⟨_, rfl⟩, ⟨_, rfl⟩, rfl, Lib.hid (by rw [HN.out, hz.out]), by omega, by push_cast; omega, below_drewN hB.out _, hR⟩
          case measure => have := HLT.out; simp [intOf]; omega
      · have HYES := Lib.hid (fun h => rg_yes (cs := cs) (i := i) (k := k) h)
        have HNO := Lib.hid (fun h => rg_no (cs := cs) (i := i) (k := k) h)
        rw [hy, ey, show ((g cs 1 i = lt k i)) = (G 1 = ((lt k i : Nat) : Int)) from by rw [HGG.out]; exact propext ⟨fun h => congrArg Int.ofNat h, fun h => Int.ofNat.inj h⟩] at HYES HNO
        rw [ey] at g0
        obtain ⟨p, hp⟩ : ∃ p, G 1 = p := ⟨_, rfl⟩
        rw [hp] at d1 HYES HNO
        generalize lt k i = t at HYES HNO HF hlk
        clear hy ey hp
        by_cases hq : p = (t : Int)
        · have HN := Lib.hid (HYES.out hq)
          have dq : (p == (t : Int)) = true := by simp [hq]
          clear hq HYES HNO
          go_wp2_with fail
          go_quiet ((go_at_call 71; go_must (exact Calls.quiet_of_same (HF.out _))))
          go_wp2_with fail
          go_roundw
          case rel => exact ⟨k + 1, z + 1, by have := HLT.out; omega, by go_num, ⟨_, rfl⟩, ⟨_, rfl⟩, rfl, Lib.hid (by rw [HN.out, hz.out]; simp), by omega, by push_cast; omega, below_drewN hB.out _, hR⟩
          case measure => have := HLT.out; simp [intOf]; omega
        · have HN := Lib.hid (HNO.out hq)
          have dq : (p == (t : Int)) = false := by simp [hq]
          clear hq HYES HNO
          go_wp2_with fail
          go_quiet ((go_at_call 71; go_must (exact Calls.quiet_of_same (HF.out _))))
          go_wp2_with fail
          go_roundw
          case rel => exact ⟨k + 1, z, by have := HLT.out; omega, by go_num, ⟨_, rfl⟩, ⟨_, rfl⟩, rfl, Lib.hid (by rw [HN.out, hz.out]), by omega, by push_cast; omega, below_drewN hB.out _, hR⟩
          case measure => have := HLT.out; simp [intOf]; omega
    · have hkz : ¬ (k : Int) < (cs.length : Int) := by omega
      obtain rfl : k = cs.length := by omega
      have HZ : Hid (z = sc cs i) := Lib.hid (by rw [hz.out, scN_rg (ok_get HOK.out)]; rfl)
      go_wp2_with fail
      go_ret
      exact ⟨ret_int HZ.out, hB.out⟩



set_option maxRecDepth 100000 in
set_option maxHeartbeats 4000000 in
theorem scores (n : Nat) (v : Value) (cs : List Int) (w : World) (h : Ints w v cs) (hok : okCode (n : Int) cs) :
    Calls Try.prog 59 #[.agg #[.int .i64 (n : Int), v]] w fun e w' => ∃ u, e = .returned u ∧ OwnInts w' w.heap.size w'.heap.size u (scs cs n) ∧ Below w.heap.size w w' := by
  obtain ⟨i0, hi, hz0, hz1, hz2⟩ := info_parts infoInt
  have hn3 : (n : Int) ≤ 3 := hok.1.2
  have hmk := app.mk0 n (by omega)
  have HF : Hid (∀ (k : Nat) (W : World), k < n → Ints W v cs → Calls Try.prog 91 #[.agg #[.int .i64 (n : Int), v], .int .i64 (k : Int)] W fun e w' => e = .returned (.int .i64 (sc cs k)) ∧ Below W.heap.size W w') := Lib.hid (fun k W hk hW => score _ v cs k W hW hok (by omega))
  have HV := Lib.hid h
  obtain ⟨va, vn, vc, rfl⟩ := h.shape
  have K0 := Lib.hid ((Blk.new w 60 #[.int .i64 (n : Int), .slice va vn vc]).alloc (.cells (madeCells #[.int .i64 0] n) 3))
  have B0 := Lib.hid (below_al (below_al (Below.refl w.heap.size w) (.cells #[.int .i64 (n : Int), .slice va vn vc] 60)) (.cells (madeCells #[.int .i64 0] n) 3))
  have O0 : Hid (((w.alloc (.cells #[.int .i64 (n : Int), .slice va vn vc] 60)).alloc (.cells (madeCells #[.int .i64 0] n) 3)).ownsRow (w.heap.size + 1) 3 1 (.slice (some ⟨w.heap.size + 1, 0, none⟩) 0 n) 0 (i64s (scs cs 0))) := Lib.hid (by
    have := World.ownsRow_made (base := w.heap.size + 1) (e := 3) (size := 1) (w.alloc (.cells #[.int .i64 (n : Int), .slice va vn vc] 60)) (madeCells #[.int .i64 0] n) n (by simp) (by unfold maxLen; omega) (by simp [madeCells])
    simpa [i64s, scs] using this)
  clear h hok
  go_enter Try.func59, Try.ntmps59
  go_wp2_with fail
  clear hmk
  go_loopw [3, 4, 10] (fun out z4 q wr => ∃ k : Nat, k ≤ n ∧ q = .int .i64 k ∧ (∃ z, z4 = z) ∧ Hid (wr.ownsRow (w.heap.size + 1) 3 1 out k (i64s (scs cs k))) ∧ Hid (Below w.heap.size w wr) ∧ Hid (Blk wr w.heap.size 60 #[.int .i64 (n : Int), .slice va vn vc])) (fun _ _ q _ => n - (intOf q).toNat)
  case atStart => exact ⟨0, Nat.zero_le _, rfl, ⟨_, rfl⟩, O0, B0, K0⟩
  case round =>
    clear O0 B0 K0
    obtain ⟨k, hk, rfl, ⟨z4, rfl⟩, hO, hB, hK⟩ := hrel
    obtain ⟨wi, rfl⟩ : ∃ wi : World, wi = wr := ⟨_, rfl⟩
    by_cases hlt : k < n
    · have hkz : (k : Int) < (n : Int) := by omega
      have H1 := Lib.hid (HF.out k wi hlt (HV.out.below hB.out))
      obtain ⟨k0, k1⟩ := prt.two_cells hK.out
      go_wp2_with fail
      refine H1.out.mono ?_
      rintro e w2 ⟨rfl, hb⟩
      have O2 := Lib.hid (app.owns_below hO.out hb)
      have B2 := Lib.hid (below_tr hB.out hb)
      have K2 := Lib.hid (hK.out.below hb)
      have hsz := K2.out.lt
      generalize hy : sc cs k = y
      have HY := Lib.hid hy
      clear hb hO hB hK H1 k0 k1 hy
      go_wp2_with (at_builtin; go_must (refine wpList_append_own _ rfl (.tmp 13) (.tmp 17) 22 rfl (w.heap.size + 1) 3 i0 (.int .i64 0) 1 8 Try.underlying22 hi hz0 hz1 hz2 rfl (by decide) _ _ _ rfl (O2.out.alloc _) ⟨w2.heap.size, 0, none⟩ 1 1 [.int .i64 y] rfl rfl ?c1 ?c2 ?c3 ?c4 ?c5 ?_))
      try (case c1 => first | exact app.one_at _ _ _ | (intro q u hq; have h5 := app.one_at w2 (.int .i64 y) 3 q u hq; simpa using h5))
      case c2 => first | rfl | (intro u hu; simp at hu; subst hu; rfl)
      case c3 => unfold maxLen; omega
      case c4 => omega
      try (case c5 => first | omega | (simp; omega))
      intro v9 w9 hown hgrow _
      have B9 := Lib.hid ((below_al B2.out _).grown hgrow (by simp; omega) (fun j hj => by have := (O2.out.lt j hj).1; omega))
      have O9 := Lib.hid hown
      rw [app.i64s_snoc] at O9
      have GG := Lib.hid hgrow
      clear hown hgrow
      have K9 : Hid (Blk w9 w.heap.size 60 #[.int .i64 (n : Int), .slice va vn vc]) := Lib.hid ((GG.out.block _ (K2.out.alloc _).lt (by
        intro e
        have := (O2.out.lt _ e.symm).1
        omega)).trans (K2.out.alloc _))
      clear GG O2 B2 K2
      go_wp2_with fail
      go_roundw
      case rel => exact ⟨k + 1, by omega, by go_num, ⟨_, rfl⟩, Lib.hid (by rw [scs_succ, HY.out]; exact O9.out), B9, K9⟩
      case measure => simp [intOf]; omega
    · have hkz : ¬ (k : Int) < (n : Int) := by omega
      obtain rfl : k = n := by omega
      go_wp2_with fail
      go_ret
      exact ⟨_, rfl, (app.ints_of_owns hO.out).mono (Nat.le_succ _) (Nat.le_refl _), hB.out⟩


set_option maxRecDepth 100000 in
set_option maxHeartbeats 2000000 in
theorem total (n : Nat) (v : Value) (cs : List Int) (w : World) (h : Ints w v cs) (hok : okCode (n : Int) cs) :
    Calls Try.prog 64 #[.agg #[.int .i64 (n : Int), v]] w fun e w' => e = .returned (.int .i64 (tot cs n)) ∧ Below w.heap.size w w' := by
  have HC := Lib.hid (scores n v cs _ (h.below (below_al (Below.refl w.heap.size w) (.cells #[.int .i64 (n : Int), v] 60))) hok)
  have hl := ok_len8 hok
  have HS := Lib.hid (fun k => cdt.sc_bound hl k)
  have hn3 : (n : Int) ≤ 3 := hok.1.2
  obtain ⟨va, vn, vc, rfl⟩ := h.shape
  clear h hl hok
  go_enter Try.func64, Try.ntmps64
  go_wp2_with fail
  refine HC.out.mono ?_
  rintro e w1 ⟨u, rfl, hu, hb⟩
  obtain ⟨A, b, o, cap, rfl, hcap, hmax, hA, hc⟩ := hu.ints.form
  rw [len_scs] at hA ⊢
  have HCC : Hid (∀ k, k < n → w1.cell? ⟨b, o + k, none⟩ = some (.int .i64 (sc cs k))) := Lib.hid (fun k hk => by have := hc k (by rw [len_scs]; exact hk); rwa [scs_at] at this)
  have HB := Lib.hid (below_tr (below_al (Below.refl _ _) _) hb)
  clear hc hcap hmax hu hb HC
  go_wp2_with fail
  go_loopw [3, 5, 9] (fun s z5 q wr => ∃ (k : Nat) (z : Int), k ≤ n ∧ q = .int .i64 k ∧ (∃ y, z5 = y) ∧ s = .int .i64 z ∧ Hid (z = tot cs k) ∧ 0 ≤ z ∧ z ≤ 16 * k ∧ w1 = wr) (fun _ _ q _ => n - (intOf q).toNat)
  case atStart => exact ⟨0, 0, Nat.zero_le _, rfl, ⟨_, rfl⟩, rfl, Lib.hid rfl, by omega, by omega, rfl⟩
  case round =>
    obtain ⟨k, z, hk, rfl, ⟨z5, rfl⟩, rfl, hz, hz0, hz1, rfl⟩ := hrel
    by_cases hlt : k < n
    · have hkz : (k : Int) < (n : Int) := by omega
      obtain rfl := hA (by omega)
      have g0 := HCC.out k hlt
      have hs := HS.out k
      have HP : Hid (tot cs (k + 1) = tot cs k + sc cs k) := Lib.hid rfl
      generalize sc cs k = y at g0 hs HP
      clear hA
      go_wp2_with fail
      go_roundw
      case rel => exact ⟨k + 1, z + y, by omega, by go_num, ⟨_, rfl⟩, rfl, Lib.hid (by rw [HP.out, hz.out]), by omega, by push_cast; omega, by first | rfl | trivial⟩
      case measure => simp [intOf]; omega
    · have hkz : ¬ (k : Int) < (n : Int) := by omega
      obtain rfl : k = n := by omega
      clear hA
      go_wp2_with fail
      go_ret
      exact ⟨ret_int hz.out, HB.out⟩


theorem lst_congr (f g : Nat → Int) : ∀ n, (∀ k, k < n → f k = g k) → lst f n = lst g n
  | 0, _ => rfl
  | n + 1, h => by
    have ih := lst_congr f g n (fun k hk => h k (by omega))
    show (if n = 0 ∨ f n < lst f n then f n else lst f n) = if n = 0 ∨ g n < lst g n then g n else lst g n
    rw [ih, h n (by omega)]
theorem least (n : Nat) (v : Value) (cs : List Int) (w : World) (h : Ints w v cs) (hok : okCode (n : Int) cs) :
    Calls Try.prog 68 #[.agg #[.int .i64 (n : Int), v]] w fun e w' => e = .returned (.int .i64 (lst (sc cs) n)) ∧ Below w.heap.size w w' := by
  have HC := Lib.hid (scores n v cs _ (h.below (below_al (Below.refl w.heap.size w) (.cells #[.int .i64 (n : Int), v] 60))) hok)
  have hn3 := hok.1
  have HM : Hid (∀ (u : Value) (W : World), Ints W u (scs cs n) → Calls Try.prog 95 #[u] W fun e w' => e = .returned (.int .i64 (lst (sc cs) n)) ∧ W = w') := Lib.hid (fun u W hW => by
    have := maxi.min_any u (scs cs n) W hW (by rw [len_scs]; omega) (by rw [len_scs]; omega)
    rw [len_scs, lst_congr (at_ (scs cs n)) (sc cs) n (fun k hk => by rw [maxi.at_get (by rw [len_scs]; exact hk), scs_at])] at this
    exact this)
  obtain ⟨va, vn, vc, rfl⟩ := h.shape
  clear h hok hn3
  go_enter Try.func68, Try.ntmps68
  go_wp2_with fail
  refine HC.out.mono ?_
  rintro e w1 ⟨u, rfl, hu, hb⟩
  have HB := Lib.hid (below_tr (below_al (Below.refl _ _) _) hb)
  have H2 := Lib.hid (HM.out u w1 hu.ints)
  obtain ⟨ua, un, uc, rfl⟩ := hu.ints.shape
  clear hu hb HC HM
  go_wp2_with fail
  refine H2.out.mono ?_
  rintro e w' ⟨rfl, rfl⟩
  go_wp2_with fail
  go_ret
  exact ⟨rfl, HB.out⟩

end Go.Proofs.Ytnjaocgciokpaaa.cdu
