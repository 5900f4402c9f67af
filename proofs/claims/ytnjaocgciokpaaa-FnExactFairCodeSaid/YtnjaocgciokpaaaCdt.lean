/- Scores of a code in the model: l9Scores, l9Total, l9Least; CodeScores, CodeTotal. -/
import Derived.Test.YtnjaocgciokpaaaCds
namespace Go.Proofs.Ytnjaocgciokpaaa.cdt
open Go.RowKit Go.Deep Go.Proofs.Ytnjaocgciokpaaa.base
open Go.Proofs.Ytnjaocgciokpaaa.ints (ret_int infoInt)
open Go.Proofs.Ytnjaocgciokpaaa.val (ret_b)
open Go.Proofs.Ytnjaocgciokpaaa.play (within withinB withinB_yes withinB_no)
open Go.Proofs.Ytnjaocgciokpaaa.cdm
open Go.Proofs.Ytnjaocgciokpaaa.maxi (lst lst_new lst_old)

def ps (cs : List Int) (i : Nat) : Nat → Nat
  | 0 => 0
  | m + 1 => ps cs i m + mx (c cs (m : Int) i 0) (c cs (m : Int) i 1)
theorem ps_two (cs : List Int) (i : Nat) : ps cs i 2 = scN cs i := by
  show 0 + mx (c cs ((0 : Nat) : Int) i 0) (c cs ((0 : Nat) : Int) i 1) + mx (c cs ((1 : Nat) : Int) i 0) (c cs ((1 : Nat) : Int) i 1) = _
  rw [Nat.zero_add]; rfl
theorem mx_cast (a b : Nat) : (if (a : Int) < (b : Int) then (b : Int) else (a : Int)) = ((mx a b : Nat) : Int) := by
  unfold mx
  by_cases h : a < b
  · rw [if_pos (by omega), if_pos h]
  · rw [if_neg (by omega), if_neg h]
theorem sc_bound {cs : List Int} (h : cs.length ≤ 8) (k : Nat) : 0 ≤ sc cs k ∧ sc cs k ≤ 16 := by
  have := scN_le cs k
  unfold sc; omega


set_option maxRecDepth 100000 in
set_option maxHeartbeats 4000000 in
theorem spec_scores (n : Nat) (v : Value) (cs : List Int) (w : World) (h : Ints w v cs) (hl : cs.length ≤ 8) (hn : n ≤ 3) :
    Calls Try.prog 57 #[.int .i64 (n : Int), v] w fun e w' => ∃ u, e = .returned u ∧ OwnInts w' w.heap.size w'.heap.size u (scs cs n) ∧ Below w.heap.size w w' := by
  obtain ⟨i0, hi, hz0, hz1, hz2⟩ := info_parts infoInt
  have HC0 : Hid (∀ (m i : Nat) (W : World), i ≤ 2 → Ints W v cs → Calls Try.prog 60 #[v, .int .i64 (m : Int), .int .i64 (i : Int), .int .i64 0] W fun e w' => e = .returned (.int .i64 ((c cs (m : Int) i 0 : Nat) : Int)) ∧ W = w') := Lib.hid (fun m i W hi hW => cds.spec_count v cs (m : Int) i 0 W hW hl hi)
  have HC1 : Hid (∀ (m i : Nat) (W : World), i ≤ 2 → Ints W v cs → Calls Try.prog 60 #[v, .int .i64 (m : Int), .int .i64 (i : Int), .int .i64 1] W fun e w' => e = .returned (.int .i64 ((c cs (m : Int) i 1 : Nat) : Int)) ∧ W = w') := Lib.hid (fun m i W hi hW => cds.spec_count v cs (m : Int) i 1 W hW hl hi)
  have HM : Hid (∀ (a b : Nat) (W : World), Calls Try.prog 90 #[.int .i64 (a : Int), .int .i64 (b : Int)] W fun e w' => e = .returned (.int .i64 ((mx a b : Nat) : Int)) ∧ W = w') := Lib.hid (fun a b W => by rw [← mx_cast]; exact lmm.most_any _ _ W)
  have HV := Lib.hid h
  have HL := Lib.hid hl
  have HS := Lib.hid (fun k => sc_bound hl k)
  obtain ⟨va, vn, vc, rfl⟩ := h.shape
  have B0 := Lib.hid (below_al (Below.refl w.heap.size w) (.cells #[] 3))
  have O0 : Hid ((w.alloc (.cells #[] 3)).ownsRow w.heap.size 3 1 (.slice (some ⟨w.heap.size, 0, none⟩) 0 0) 0 (i64s (scs cs 0))) := Lib.hid (by
    have := World.ownsRow_made (base := w.heap.size) (e := 3) (size := 1) w #[] 0 (Nat.le_refl _) (Nat.zero_le _) rfl
    simpa [i64s, scs] using this)
  have hn3 : (n : Int) ≤ 3 := by omega
  clear h hl
  go_enter Try.func57, Try.ntmps57
  go_wp2_with fail
  go_loopw [5, 6, 7, 8] (fun out q z7 z8 wr => ∃ k : Nat, k ≤ n ∧ q = .int .i64 k ∧ (∃ z, z7 = z) ∧ (∃ z, z8 = z) ∧ Hid (wr.ownsRow w.heap.size 3 1 out k (i64s (scs cs k))) ∧ Hid (Below w.heap.size w wr)) (fun _ q _ _ _ => n - (intOf q).toNat)
  case atStart => exact ⟨0, Nat.zero_le _, rfl, ⟨_, rfl⟩, ⟨_, rfl⟩, O0, B0⟩
  case round =>
    clear O0 B0
    obtain ⟨k, hk, rfl, ⟨z7, rfl⟩, ⟨z8, rfl⟩, hO, hB⟩ := hrel
    obtain ⟨wo, rfl⟩ : ∃ wo : World, wo = wr := ⟨_, rfl⟩
    by_cases hlt : k < n
    · have hkz : (k : Int) < (n : Int) := by omega
      have HLT := Lib.hid hlt
      have HI := Lib.hid (HV.out.below hB.out)
      clear hlt
      go_wp2_with fail
      go_loopw [7, 8] (fun s q wr => ∃ (m : Nat) (z : Int), m ≤ 2 ∧ q = .int .i64 m ∧ s = .int .i64 z ∧ Hid (z = ((ps cs k m : Nat) : Int)) ∧ 0 ≤ z ∧ z ≤ 8 * m ∧ wo = wr) (fun _ q _ => 2 - (intOf q).toNat)
      case atStart => exact ⟨0, 0, by omega, rfl, rfl, Lib.hid rfl, by omega, by omega, rfl⟩
      case round =>
        obtain ⟨m, z, hm, rfl, rfl, hz, hz0', hz1', rfl⟩ := hrel
        by_cases hm2 : m < 2
        · have hmz : (m : Int) < 2 := by omega
          have h0 := HC0.out m k wo (by have := HLT.out; omega) HI.out
          have h1 := HC1.out m k wo (by have := HLT.out; omega) HI.out
          have hx := mx_le (c_le cs (m : Int) k 0) (c_le cs (m : Int) k 1)
          have hp : ps cs k (m + 1) = ps cs k m + mx (c cs (m : Int) k 0) (c cs (m : Int) k 1) := rfl
          generalize c cs (m : Int) k 0 = a at h0 hx hp
          generalize c cs (m : Int) k 1 = b at h1 hx hp
          have h2 := HM.out a b wo
          have hx8 : mx a b ≤ 8 := Nat.le_trans hx HL.out
          generalize mx a b = t at h2 hx8 hp
          have H0 := Lib.hid h0
          have H1 := Lib.hid h1
          have H2 := Lib.hid h2
          have HP := Lib.hid hp
          have ht8 : (t : Int) ≤ 8 := by omega
          clear h0 h1 h2 hx hp
          go_wp2_with fail
          refine H0.out.mono ?_
          rintro e w' ⟨rfl, rfl⟩
          go_wp2_with fail
          refine H1.out.mono ?_
          rintro e w' ⟨rfl, rfl⟩
          go_wp2_with fail
          refine H2.out.mono ?_
          rintro e w' ⟨rfl, rfl⟩
          go_wp2_with fail
          go_roundw
          case rel => exact ⟨m + 1, z + t, by omega, by go_num, rfl, Lib.hid (by rw [HP.out, hz.out]; simp), by omega, by push_cast; omega, by first | rfl | trivial⟩
          case measure => simp [intOf]; omega
        · have hmz : ¬ (m : Int) < 2 := by omega
          obtain rfl : m = 2 := by omega
          have HZ : Hid (z = sc cs k) := Lib.hid (by rw [hz.out, ps_two]; rfl)
          have hsz := hB.out.size
          have hn3' := HLT.out
          go_wp2_with (at_builtin; go_must (refine wpList_append_own _ rfl (.tmp 30) (.tmp 32) 22 rfl (w.heap.size) 3 i0 (.int .i64 0) 1 8 Try.underlying22 hi hz0 hz1 hz2 rfl (by decide) _ _ _ rfl (hO.out.alloc _) ⟨wo.heap.size, 0, none⟩ 1 1 [.int .i64 z] rfl rfl ?c1 ?c2 ?c3 ?c4 ?c5 ?_))
          try (case c1 => first | exact app.one_at _ _ _ | (intro q u hq; have h5 := app.one_at wo (.int .i64 z) 3 q u hq; simpa using h5))
          case c2 => first | rfl | (intro u hu; simp at hu; subst hu; rfl)
          case c3 => unfold maxLen; omega
          case c4 => omega
          try (case c5 => first | omega | (simp; omega))
          intro v9 w9 hown hgrow _
          have B9 := Lib.hid ((below_al hB.out _).grown hgrow (by simp; omega) (fun j hj => by have := (hO.out.lt j hj).1; omega))
          have O9 := Lib.hid hown
          rw [app.i64s_snoc] at O9
          clear hown hgrow
          go_wp2_with fail
          go_roundw
          case rel => exact ⟨k + 1, by have := HLT.out; omega, by go_num, ⟨_, rfl⟩, ⟨_, rfl⟩, Lib.hid (by rw [scs_succ, ← HZ.out]; exact O9.out), B9⟩
          case measure => have := HLT.out; simp [intOf]; omega
    · have hkz : ¬ (k : Int) < (n : Int) := by omega
      obtain rfl : k = n := by omega
      have hO' := hO
      go_wp2_with fail
      go_ret
      exact ⟨_, rfl, app.ints_of_owns hO'.out, hB.out⟩



set_option maxRecDepth 100000 in
set_option maxHeartbeats 2000000 in
theorem spec_total (n : Nat) (v : Value) (cs : List Int) (w : World) (h : Ints w v cs) (hl : cs.length ≤ 8) (hn : n ≤ 3) :
    Calls Try.prog 63 #[.int .i64 (n : Int), v] w fun e w' => e = .returned (.int .i64 (tot cs n)) ∧ Below w.heap.size w w' := by
  have HC := Lib.hid (spec_scores n v cs w h hl hn)
  have HS := Lib.hid (fun k => sc_bound hl k)
  have HT := Lib.hid (fun k => tot_bound cs hl k)
  obtain ⟨va, vn, vc, rfl⟩ := h.shape
  have hn3 : (n : Int) ≤ 3 := by omega
  clear h hl
  go_enter Try.func63, Try.ntmps63
  go_wp2_with fail
  refine HC.out.mono ?_
  rintro e w1 ⟨u, rfl, hu, hb⟩
  obtain ⟨A, b, o, cap, rfl, hcap, hmax, hA, hc⟩ := hu.ints.form
  rw [len_scs] at hA ⊢
  have HCC : Hid (∀ k, k < n → w1.cell? ⟨b, o + k, none⟩ = some (.int .i64 (sc cs k))) := Lib.hid (fun k hk => by have := hc k (by rw [len_scs]; exact hk); rwa [scs_at] at this)
  have HB := Lib.hid hb
  clear hc hcap hmax hu hb HC
  go_wp2_with fail
  go_loopw [5, 7] (fun s q wr => ∃ (k : Nat) (z : Int), k ≤ n ∧ q = .int .i64 k ∧ s = .int .i64 z ∧ Hid (z = tot cs k) ∧ 0 ≤ z ∧ z ≤ 16 * k ∧ w1 = wr) (fun _ q _ => n - (intOf q).toNat)
  case atStart => exact ⟨0, 0, Nat.zero_le _, rfl, rfl, Lib.hid rfl, by omega, by omega, rfl⟩
  case round =>
    obtain ⟨k, z, hk, rfl, rfl, hz, hz0, hz1, rfl⟩ := hrel
    by_cases hlt : k < n
    · have hkz : (k : Int) < (n : Int) := by omega
      obtain rfl := hA (by omega)
      have g0 := HCC.out k hlt
      have hs := HS.out k
      have HP : Hid (tot cs (k + 1) = tot cs k + sc cs k) := Lib.hid rfl
      generalize sc cs k = y at g0 hs HP
      clear hA
      go_wp2_with fail
      go_roundw
      case rel => exact ⟨k + 1, z + y, by omega, by go_num, rfl, Lib.hid (by rw [HP.out, hz.out]), by omega, by push_cast; omega, by first | rfl | trivial⟩
      case measure => simp [intOf]; omega
    · have hkz : ¬ (k : Int) < (n : Int) := by omega
      obtain rfl : k = n := by omega
      clear hA
      go_wp2_with fail
      go_ret
      exact ⟨ret_int hz.out, HB.out⟩


set_option maxRecDepth 100000 in
set_option maxHeartbeats 2000000 in
theorem spec_least (n : Nat) (v : Value) (cs : List Int) (w : World) (h : Ints w v cs) (hl : cs.length ≤ 8) (hn : n ≤ 3) (hn1 : 1 ≤ n) :
    Calls Try.prog 93 #[.int .i64 (n : Int), v] w fun e w' => e = .returned (.int .i64 (lst (sc cs) n)) ∧ Below w.heap.size w w' := by
  have HC := Lib.hid (spec_scores n v cs w h hl hn)
  obtain ⟨va, vn, vc, rfl⟩ := h.shape
  have hn3 : (n : Int) ≤ 3 := by omega
  clear h hl
  go_enter Try.func93, Try.ntmps93
  go_wp2_with fail
  refine HC.out.mono ?_
  rintro e w1 ⟨u, rfl, hu, hb⟩
  obtain ⟨A, b, o, cap, rfl, hcap, hmax, hA, hc⟩ := hu.ints.form
  rw [len_scs] at hA ⊢
  obtain rfl := hA (by omega)
  have HCC : Hid (∀ k, k < n → w1.cell? ⟨b, o + k, none⟩ = some (.int .i64 (sc cs k))) := Lib.hid (fun k hk => by have := hc k (by rw [len_scs]; exact hk); rwa [scs_at] at this)
  have HB := Lib.hid hb
  have g0 := HCC.out 0 (by omega)
  rw [Nat.add_zero] at g0
  have hn0 : (0 : Int) < (n : Int) := by omega
  have hn00 : 0 < n := by omega
  clear hc hcap hmax hu hb HC hA
  go_wp2_with fail
  go_loopw [6, 7] (fun s q wr => ∃ (k : Nat) (z : Int), 1 ≤ k ∧ k ≤ n ∧ q = .int .i64 k ∧ s = .int .i64 z ∧ Hid (z = lst (sc cs) k) ∧ w1 = wr) (fun _ q _ => n - (intOf q).toNat)
  case atStart => exact ⟨1, _, Nat.le_refl _, by omega, rfl, rfl, Lib.hid (lst_new (.inl rfl)).symm, rfl⟩
  case round =>
    obtain ⟨k, z, hk1, hk, rfl, rfl, hz, rfl⟩ := hrel
    clear g0
    by_cases hlt : k < n
    · have hkz : (k : Int) < (n : Int) := by omega
      have g0 := HCC.out k hlt
      have HP : Hid (lst (sc cs) (k + 1) = if sc cs k < z then sc cs k else z) := Lib.hid (by
        by_cases hs : sc cs k < z
        · rw [if_pos hs]; exact lst_new (.inr (hz.out ▸ hs))
        · rw [if_neg hs, hz.out]; exact lst_old (fun h => by rcases h with h | h; omega; exact hs (hz.out ▸ h)))
      generalize sc cs k = y at g0 HP
      go_wp2_with fail
      refine (lmm.least_any z y w1).mono ?_
      rintro e w' ⟨rfl, rfl⟩
      obtain ⟨t, ht⟩ : ∃ t, (if y < z then y else z) = t := ⟨_, rfl⟩
      rw [ht] at HP ⊢
      clear ht
      go_wp2_with fail
      go_roundw
      case rel => exact ⟨k + 1, t, by omega, by omega, by go_num, rfl, Lib.hid HP.out.symm, by first | rfl | trivial⟩
      case measure => simp [intOf]; omega
    · have hkz : ¬ (k : Int) < (n : Int) := by omega
      obtain rfl : k = n := by omega
      go_wp2_with fail
      go_ret
      exact ⟨ret_int hz.out, HB.out⟩


open Classical in
noncomputable def resS (n : Int) (cs : List Int) : List Int × Bool := if okCode n cs then (scs cs n.toNat, true) else ([], false)
theorem resS_yes {n : Int} {cs : List Int} (h : okCode n cs) : resS n cs = (scs cs n.toNat, true) := if_pos h
theorem resS_no {n : Int} {cs : List Int} (h : ¬ okCode n cs) : resS n cs = ([], false) := if_neg h
theorem len_resS (n : Int) (cs : List Int) : (resS n cs).1.length ≤ 1048576 := by
  by_cases h : okCode n cs
  · rw [resS_yes h, len_scs]; have := h.1.2; omega
  · rw [resS_no h]; exact Nat.zero_le _
open Classical in
noncomputable def resT (n : Int) (cs : List Int) : Int × Bool := if okCode n cs then (tot cs n.toNat, true) else (0, false)
theorem resT_yes {n : Int} {cs : List Int} (h : okCode n cs) : resT n cs = (tot cs n.toNat, true) := if_pos h
theorem resT_no {n : Int} {cs : List Int} (h : ¬ okCode n cs) : resT n cs = (0, false) := if_neg h


set_option maxHeartbeats 1000000 in
theorem spec_any (n : Int) (v : Value) (cs : List Int) (w : World) (h : Ints w v cs) :
    Calls Try.prog 19 #[.int .i64 n, v] w fun e w' => ∃ u, e = .returned (.tuple #[u, .bool (resS n cs).2]) ∧ Ints w' u (resS n cs).1 ∧ Below w.heap.size w w' := by
  have HC := Lib.hid (cds.spec_code n v cs w h)
  by_cases hok : okCode n cs
  · rw [codeB_yes hok] at HC
    rw [resS_yes hok]
    obtain ⟨m, rfl⟩ : ∃ m : Nat, n = m := ⟨n.toNat, by have := hok.1.1; omega⟩
    have HS := Lib.hid (spec_scores m v cs w h (ok_len8 hok) (by have := hok.1.2; omega))
    obtain ⟨va, vn, vc, rfl⟩ := h.shape
    rw [Int.toNat_natCast]
    clear h hok
    go_enter Try.func19, Try.ntmps19
    go_wp2_with fail
    refine HC.out.mono ?_
    rintro e w' ⟨rfl, rfl⟩
    go_wp2_with fail
    refine HS.out.mono ?_
    rintro e w1 ⟨u, rfl, hu, hb⟩
    go_wp2_with fail
    go_ret2
    exact ⟨_, rfl, hu.ints, hb⟩
  · rw [codeB_no hok] at HC
    rw [resS_no hok]
    obtain ⟨va, vn, vc, rfl⟩ := h.shape
    clear h hok
    go_enter Try.func19, Try.ntmps19
    go_wp2_with fail
    refine HC.out.mono ?_
    rintro e w' ⟨rfl, rfl⟩
    go_wp2_with fail
    go_ret2
    exact ⟨_, rfl, app.empty _ _ _ (Nat.zero_le _), below_al (Below.refl _ _) _⟩


set_option maxHeartbeats 1000000 in
theorem spec_tot (n : Int) (v : Value) (cs : List Int) (w : World) (h : Ints w v cs) :
    Calls Try.prog 28 #[.int .i64 n, v] w fun e w' => e = .returned (.tuple #[.int .i64 (resT n cs).1, .bool (resT n cs).2]) ∧ Below w.heap.size w w' := by
  have HC := Lib.hid (cds.spec_code n v cs w h)
  by_cases hok : okCode n cs
  · rw [codeB_yes hok] at HC
    rw [resT_yes hok]
    obtain ⟨m, rfl⟩ : ∃ m : Nat, n = m := ⟨n.toNat, by have := hok.1.1; omega⟩
    have HS := Lib.hid (spec_total m v cs w h (ok_len8 hok) (by have := hok.1.2; omega))
    obtain ⟨va, vn, vc, rfl⟩ := h.shape
    rw [Int.toNat_natCast]
    clear h hok
    go_enter Try.func28, Try.ntmps28
    go_wp2_with fail
    refine HC.out.mono ?_
    rintro e w' ⟨rfl, rfl⟩
    go_wp2_with fail
    refine HS.out.mono ?_
    rintro e w1 ⟨rfl, hb⟩
    go_wp2_with fail
    go_ret2
    exact ⟨rfl, hb⟩
  · rw [codeB_no hok] at HC
    rw [resT_no hok]
    obtain ⟨va, vn, vc, rfl⟩ := h.shape
    clear h hok
    go_enter Try.func28, Try.ntmps28
    go_wp2_with fail
    refine HC.out.mono ?_
    rintro e w' ⟨rfl, rfl⟩
    go_wp2_with fail
    go_ret2
    exact ⟨rfl, Below.refl _ _⟩

end Go.Proofs.Ytnjaocgciokpaaa.cdt
