/- BitCode, MajorityCode, ParityCode of the model. -/
import Derived.Test.YtnjaocgciokpaaaCby
namespace Go.Proofs.Ytnjaocgciokpaaa.cbs
open Go.RowKit Go.Deep Go.Proofs.Ytnjaocgciokpaaa.base
open Go.Proofs.Ytnjaocgciokpaaa.ints (ret_int infoInt)
open Go.Proofs.Ytnjaocgciokpaaa.cdm
open Go.Proofs.Ytnjaocgciokpaaa.cby
open Go.Proofs.Ytnjaocgciokpaaa.onec (on)


set_option maxRecDepth 100000 in
set_option maxHeartbeats 1000000 in
theorem ones (n k : Nat) (w : World) (hn : n ≤ 3) (hk : k < 8) :
    Calls Try.prog 72 #[.int .i64 (n : Int), .int .i64 (k : Int)] w fun e w' => e = .returned (.int .i64 ((os k n : Nat) : Int)) ∧ w = w' := by
  have hn3 : (n : Int) ≤ 3 := by omega
  go_enter Try.func72, Try.ntmps72
  go_wp2_with fail
  go_loopw [5, 6] (fun s q wr => ∃ (i : Nat) (z : Int), i ≤ n ∧ q = .int .i64 i ∧ s = .int .i64 z ∧ Hid (z = ((os k i : Nat) : Int)) ∧ 0 ≤ z ∧ z ≤ i ∧ w = wr) (fun _ q _ => n - (intOf q).toNat)
  case atStart => exact ⟨0, 0, Nat.zero_le _, rfl, rfl, Lib.hid rfl, by omega, by omega, rfl⟩
  case round =>
    obtain ⟨i, z, hi, rfl, rfl, hz, hz0, hz1, rfl⟩ := hrel
    by_cases hlt : i < n
    · have hkz : (i : Int) < (n : Int) := by omega
      have HX := Lib.hid (and_lt k i (by omega))
      have hl := lt_le k i
      have HP : Hid (os k (i + 1) = os k i + lt k i) := Lib.hid rfl
      generalize lt k i = t at HX hl HP
      have hx := HX.out
      go_wp2_with fail
      try rw [HX.out]
      go_wp2_with fail
      go_roundw
      case rel => exact ⟨i + 1, z + t, by omega, by go_num, rfl, Lib.hid (by rw [HP.out, hz.out]; simp), by omega, by push_cast; omega, by first | rfl | trivial⟩
      case measure => simp [intOf]; omega
    · have hkz : ¬ (i : Int) < (n : Int) := by omega
      obtain rfl : i = n := by omega
      go_wp2_with fail
      go_ret
      exact ⟨ret_int hz.out, rfl⟩


set_option maxRecDepth 100000 in
set_option maxHeartbeats 4000000 in
theorem bit_spec (n i : Int) (w : World) :
    Calls Try.prog 34 #[.int .i64 n, .int .i64 i] w fun e w' => ∃ u, e = .returned (.tuple #[u, .bool (resB n i).2]) ∧ Ints w' u (resB n i).1 ∧ Below w.heap.size w w' := by
  obtain ⟨i0, hi, hz0, hz1, hz2⟩ := info_parts infoInt
  have B0 := Lib.hid (below_al (Below.refl w.heap.size w) (.cells #[] 3))
  by_cases hok : okI n i
  · rw [resB_yes hok]
    have HOK := Lib.hid hok
    obtain ⟨m, rfl⟩ : ∃ m : Nat, n = m := ⟨n.toNat, by have := hok.1.1; omega⟩
    obtain ⟨j, rfl⟩ : ∃ j : Nat, i = j := ⟨i.toNat, by have := hok.2.1; omega⟩
    rw [Int.toNat_natCast, Int.toNat_natCast]
    have hm3 : (m : Int) ≤ 3 := hok.1.2
    have hj2 : (j : Int) ≤ 2 := by have := hok.2.2; omega
    obtain ⟨c, hc⟩ : ∃ c : Nat, 2 ^ m = c := ⟨_, rfl⟩
    have hc8 : c ≤ 8 := by rw [← hc]; exact pow8 (by omega)
    have hw : wrap64 (2 ^ m) = (c : Int) := by
      have e : (2 : Int) ^ m = (c : Int) := by rw [← hc]; simp
      rw [e]
      exact IntWalk.wrap64_in _ (by omega)
    have HCP := Lib.hid hc
    rw [hc]
    have O0 : Hid ((w.alloc (.cells #[] 3)).ownsRow w.heap.size 3 1 (.slice (some ⟨w.heap.size, 0, none⟩) 0 0) 0 (i64s (mk (Fbit j) 0))) := Lib.hid (by
      have := World.ownsRow_made (base := w.heap.size) (e := 3) (size := 1) w #[] 0 (Nat.le_refl _) (Nat.zero_le _) rfl
      simpa [i64s, mk] using this)
    have h8 : (c : Int) ≤ 8 := by omega
    clear hok hc
    go_enter Try.func34, Try.ntmps34
    go_wp2_with fail
    refine (val.in_yes _ _ _ _ HOK.out.1.1 HOK.out.1.2).mono ?_
    rintro e w' ⟨rfl, rfl⟩
    go_wp2_with fail
    refine (val.in_yes _ _ _ _ HOK.out.2.1 (by have := HOK.out.2.2; omega)).mono ?_
    rintro e w' ⟨rfl, rfl⟩
    go_wp2_with fail
    go_loopw [6, 7] (fun out q wr => ∃ k : Nat, k ≤ c ∧ q = .int .i64 k ∧ Hid (wr.ownsRow w.heap.size 3 1 out k (i64s (mk (Fbit j) k))) ∧ Hid (Below w.heap.size w wr)) (fun _ q _ => c - (intOf q).toNat)
    case atStart => exact ⟨0, Nat.zero_le _, rfl, O0, B0⟩
    case round =>
      clear O0 B0
      obtain ⟨k, hk, rfl, hO, hB⟩ := hrel
      obtain ⟨wi, rfl⟩ : ∃ wi : World, wi = wr := ⟨_, rfl⟩
      have hsz := hB.out.size
      by_cases hlt : k < c
      · have hkz : (k : Int) < (c : Int) := by omega
        have HX := Lib.hid (and_lt k j (by omega))
        obtain ⟨y, hy⟩ : ∃ y, Fbit j k = y := ⟨_, rfl⟩
        have HY := Lib.hid hy
        have HX2 : Hid (bits .and .i64 ((k : Int) / 2 ^ j) 1 = y) := Lib.hid (HX.out.trans hy)
        have hx := HX2.out
        clear hy
        go_wp2_with (at_builtin; go_must (refine wpList_append_own _ rfl (.tmp 26) (.tmp 31) 22 rfl (w.heap.size) 3 i0 (.int .i64 0) 1 8 Try.underlying22 hi hz0 hz1 hz2 rfl (by decide) _ _ _ rfl (hO.out.alloc _) ⟨wi.heap.size, 0, none⟩ 1 1 [.int .i64 y] rfl rfl ?c1 ?c2 ?c3 ?c4 ?c5 ?_))
        try (case c1 => first | exact app.one_at _ _ _ | (intro q u hq; have h5 := app.one_at wi (.int .i64 y) 3 q u hq; simpa using h5))
        case c2 => first | rfl | (intro u hu; simp at hu; subst hu; rfl)
        case c3 => unfold maxLen; omega
        case c4 => omega
        try (case c5 => first | omega | (simp; omega))
        intro v9 w9 hown hgrow _
        have B9 := Lib.hid ((below_al hB.out _).grown hgrow (by simp; omega) (fun j hj => by have := (hO.out.lt j hj).1; omega))
        have O9 := Lib.hid hown
        rw [app.i64s_snoc] at O9
        clear hown hgrow
        go_wp2_with fail
        go_roundw
        case rel => exact ⟨k + 1, by omega, by go_num, Lib.hid (by rw [mk_succ, HY.out]; exact O9.out), B9⟩
        case measure => simp [intOf]; omega
      · have hkz : ¬ (k : Int) < (c : Int) := by omega
        obtain rfl : k = c := by omega
        go_wp2_with fail
        go_ret2
        exact ⟨_, rfl, (app.ints_of_owns hO.out).ints, hB.out⟩
  · rw [resB_no hok]
    by_cases hn : 1 ≤ n ∧ n ≤ 3
    · have hb : i < 0 ∨ n - 1 < i := by
        by_cases h : i < 0
        · exact .inl h
        · by_cases h2 : i < n
          · exact absurd ⟨hn, by omega, h2⟩ hok
          · exact .inr (by omega)
      have HB := Lib.hid (val.in_no i 0 (n - 1) (w.alloc (.cells #[] 3)) hb)
      have HN := Lib.hid hn
      have kw : wrap64 (n - 1) = n - 1 := IntWalk.wrap64_in _ (by omega)
      clear hok hb hn
      go_enter Try.func34, Try.ntmps34
      go_wp2_with fail
      refine (val.in_yes _ _ _ _ HN.out.1 HN.out.2).mono ?_
      rintro e w' ⟨rfl, rfl⟩
      go_wp2_with fail
      refine HB.out.mono ?_
      rintro e w' ⟨rfl, rfl⟩
      go_wp2_with fail
      go_ret2
      exact ⟨_, rfl, app.empty _ _ _ (Nat.zero_le _), B0.out⟩
    · have hb : n < 1 ∨ 3 < n := by omega
      clear hok hn
      go_enter Try.func34, Try.ntmps34
      go_wp2_with fail
      refine (val.in_no _ _ _ _ hb).mono ?_
      rintro e w' ⟨rfl, rfl⟩
      clear hb
      go_wp2_with fail
      go_ret2
      exact ⟨_, rfl, app.empty _ _ _ (Nat.zero_le _), B0.out⟩


set_option maxRecDepth 100000 in
set_option maxHeartbeats 4000000 in
theorem par_spec (n : Int) (w : World) :
    Calls Try.prog 38 #[.int .i64 n] w fun e w' => ∃ u, e = .returned (.tuple #[u, .bool (resP n).2]) ∧ Ints w' u (resP n).1 ∧ Below w.heap.size w w' := by
  obtain ⟨i0, hi, hz0, hz1, hz2⟩ := info_parts infoInt
  have B0 := Lib.hid (below_al (Below.refl w.heap.size w) (.cells #[] 3))
  by_cases hok : okN n
  · rw [resP_yes hok]
    have HOK := Lib.hid hok
    obtain ⟨m, rfl⟩ : ∃ m : Nat, n = m := ⟨n.toNat, by have := hok.1; omega⟩
    rw [Int.toNat_natCast]
    have hm3 : (m : Int) ≤ 3 := hok.2
    obtain ⟨c, hc⟩ : ∃ c : Nat, 2 ^ m = c := ⟨_, rfl⟩
    have hc8 : c ≤ 8 := by rw [← hc]; exact pow8 (by omega)
    have hw : wrap64 (2 ^ m) = (c : Int) := by
      have e : (2 : Int) ^ m = (c : Int) := by rw [← hc]; simp
      rw [e]
      exact IntWalk.wrap64_in _ (by omega)
    have HCP := Lib.hid hc
    rw [hc]
    have O0 : Hid ((w.alloc (.cells #[] 3)).ownsRow w.heap.size 3 1 (.slice (some ⟨w.heap.size, 0, none⟩) 0 0) 0 (i64s (mk (Fpar) 0))) := Lib.hid (by
      have := World.ownsRow_made (base := w.heap.size) (e := 3) (size := 1) w #[] 0 (Nat.le_refl _) (Nat.zero_le _) rfl
      simpa [i64s, mk] using this)
    have h8 : (c : Int) ≤ 8 := by omega
    clear hok hc
    go_enter Try.func38, Try.ntmps38
    go_wp2_with fail
    refine (val.in_yes _ _ _ _ HOK.out.1 HOK.out.2).mono ?_
    rintro e w' ⟨rfl, rfl⟩
    go_wp2_with fail
    go_loopw [4, 5] (fun out q wr => ∃ k : Nat, k ≤ c ∧ q = .int .i64 k ∧ Hid (wr.ownsRow w.heap.size 3 1 out k (i64s (mk (Fpar) k))) ∧ Hid (Below w.heap.size w wr)) (fun _ q _ => c - (intOf q).toNat)
    case atStart => exact ⟨0, Nat.zero_le _, rfl, O0, B0⟩
    case round =>
      clear O0 B0
      obtain ⟨k, hk, rfl, hO, hB⟩ := hrel
      obtain ⟨wi, rfl⟩ : ∃ wi : World, wi = wr := ⟨_, rfl⟩
      have hsz := hB.out.size
      by_cases hlt : k < c
      · have hkz : (k : Int) < (c : Int) := by omega
        have hon : os k m = on k := os_on ⟨m, by omega⟩ ⟨k, by omega⟩ (by show k < 2 ^ m; rw [HCP.out]; exact hlt)
        have HO1 := ones m k wi (by omega) (by omega)
        rw [hon] at HO1
        obtain ⟨y, hy⟩ : ∃ y, Fpar k = y := ⟨_, rfl⟩
        have HY := Lib.hid hy
        have ht : ((on k : Nat) : Int).tmod 2 = y := (tmod2 _).trans hy
        generalize on k = t at HO1 ht
        have H1 := Lib.hid HO1
        clear hy hon HO1
        go_wp2_with fail
        refine H1.out.mono ?_
        rintro e w' ⟨rfl, rfl⟩
        clear H1
        go_wp2_with (at_builtin; go_must (refine wpList_append_own _ rfl (.tmp 17) (.tmp 22) 22 rfl (w.heap.size) 3 i0 (.int .i64 0) 1 8 Try.underlying22 hi hz0 hz1 hz2 rfl (by decide) _ _ _ rfl (hO.out.alloc _) ⟨wi.heap.size, 0, none⟩ 1 1 [.int .i64 y] rfl rfl ?c1 ?c2 ?c3 ?c4 ?c5 ?_))
        try (case c1 => first | exact app.one_at _ _ _ | (intro q u hq; have h5 := app.one_at wi (.int .i64 y) 3 q u hq; simpa using h5))
        case c2 => first | rfl | (intro u hu; simp at hu; subst hu; rfl)
        case c3 => unfold maxLen; omega
        case c4 => omega
        try (case c5 => first | omega | (simp; omega))
        intro v9 w9 hown hgrow _
        have B9 := Lib.hid ((below_al hB.out _).grown hgrow (by simp; omega) (fun j hj => by have := (hO.out.lt j hj).1; omega))
        have O9 := Lib.hid hown
        rw [app.i64s_snoc] at O9
        clear hown hgrow
        go_wp2_with fail
        go_roundw
        case rel => exact ⟨k + 1, by omega, by go_num, Lib.hid (by rw [mk_succ, HY.out]; exact O9.out), B9⟩
        case measure => simp [intOf]; omega
      · have hkz : ¬ (k : Int) < (c : Int) := by omega
        obtain rfl : k = c := by omega
        go_wp2_with fail
        go_ret2
        exact ⟨_, rfl, (app.ints_of_owns hO.out).ints, hB.out⟩
  · rw [resP_no hok]
    have hb : n < 1 ∨ 3 < n := by
      by_cases h : n < 1
      · exact .inl h
      · by_cases h2 : n ≤ 3
        · exact absurd ⟨by omega, h2⟩ hok
        · exact .inr (by omega)
    clear hok
    go_enter Try.func38, Try.ntmps38
    go_wp2_with fail
    refine (val.in_no _ _ _ _ hb).mono ?_
    rintro e w' ⟨rfl, rfl⟩
    clear hb
    go_wp2_with fail
    go_ret2
    exact ⟨_, rfl, app.empty _ _ _ (Nat.zero_le _), B0.out⟩


set_option maxRecDepth 100000 in
set_option maxHeartbeats 4000000 in
theorem maj_spec (n : Int) (w : World) :
    Calls Try.prog 36 #[.int .i64 n] w fun e w' => ∃ u, e = .returned (.tuple #[u, .bool (resM n).2]) ∧ Ints w' u (resM n).1 ∧ Below w.heap.size w w' := by
  obtain ⟨i0, hi, hz0, hz1, hz2⟩ := info_parts infoInt
  have B0 := Lib.hid (below_al (Below.refl w.heap.size w) (.cells #[] 3))
  by_cases hok : okN n
  · rw [resM_yes hok]
    have HOK := Lib.hid hok
    obtain ⟨m, rfl⟩ : ∃ m : Nat, n = m := ⟨n.toNat, by have := hok.1; omega⟩
    rw [Int.toNat_natCast]
    have hm3 : (m : Int) ≤ 3 := hok.2
    obtain ⟨c, hc⟩ : ∃ c : Nat, 2 ^ m = c := ⟨_, rfl⟩
    have hc8 : c ≤ 8 := by rw [← hc]; exact pow8 (by omega)
    have hw : wrap64 (2 ^ m) = (c : Int) := by
      have e : (2 : Int) ^ m = (c : Int) := by rw [← hc]; simp
      rw [e]
      exact IntWalk.wrap64_in _ (by omega)
    have HCP := Lib.hid hc
    rw [hc]
    have O0 : Hid ((w.alloc (.cells #[] 3)).ownsRow w.heap.size 3 1 (.slice (some ⟨w.heap.size, 0, none⟩) 0 0) 0 (i64s (mk (Fmaj m) 0))) := Lib.hid (by
      have := World.ownsRow_made (base := w.heap.size) (e := 3) (size := 1) w #[] 0 (Nat.le_refl _) (Nat.zero_le _) rfl
      simpa [i64s, mk] using this)
    have h8 : (c : Int) ≤ 8 := by omega
    clear hok hc
    go_enter Try.func36, Try.ntmps36
    go_wp2_with fail
    refine (val.in_yes _ _ _ _ HOK.out.1 HOK.out.2).mono ?_
    rintro e w' ⟨rfl, rfl⟩
    go_wp2_with fail
    go_loopw [4, 5, 6] (fun out q z wr => ∃ k : Nat, k ≤ c ∧ q = .int .i64 k ∧ (∃ y, z = y) ∧ Hid (wr.ownsRow w.heap.size 3 1 out k (i64s (mk (Fmaj m) k))) ∧ Hid (Below w.heap.size w wr)) (fun _ q _ _ => c - (intOf q).toNat)
    case atStart => exact ⟨0, Nat.zero_le _, rfl, ⟨_, rfl⟩, O0, B0⟩
    case round =>
      clear O0 B0
      obtain ⟨k, hk, rfl, ⟨z, rfl⟩, hO, hB⟩ := hrel
      obtain ⟨wi, rfl⟩ : ∃ wi : World, wi = wr := ⟨_, rfl⟩
      have hsz := hB.out.size
      by_cases hlt : k < c
      · have hkz : (k : Int) < (c : Int) := by omega
        have hon : os k m = on k := os_on ⟨m, by omega⟩ ⟨k, by omega⟩ (by show k < 2 ^ m; rw [HCP.out]; exact hlt)
        have HO0 := ones m k wi (by omega) (by omega)
        rw [hon] at HO0
        have HO1 := Lib.hid HO0
        have h3 := on_le k
        clear HO0 hon
        by_cases hq : (m : Int) < 2 * ((on k : Nat) : Int)
        · have HY : Hid (Fmaj m k = 1) := Lib.hid (by unfold Fmaj; exact if_pos hq)
          generalize on k = t at *
          have kw : wrap64 (2 * (t : Int)) = 2 * (t : Int) := IntWalk.wrap64_in _ (by omega)
          have d : decide ((m : Int) < 2 * (t : Int)) = true := by simp; omega
          clear hq
          go_wp2_with fail
          refine HO1.out.mono ?_
          rintro e w' ⟨rfl, rfl⟩
          clear HO1
          go_wp2_with (at_builtin; go_must (refine wpList_append_own _ rfl (.tmp 24) (.tmp 26) 22 rfl (w.heap.size) 3 i0 (.int .i64 0) 1 8 Try.underlying22 hi hz0 hz1 hz2 rfl (by decide) _ _ _ rfl (hO.out.alloc _) ⟨wi.heap.size, 0, none⟩ 1 1 [.int .i64 1] rfl rfl ?c1 ?c2 ?c3 ?c4 ?c5 ?_))
          try (case c1 => first | exact app.one_at _ _ _ | (intro q u hq; have h5 := app.one_at wi (.int .i64 1) 3 q u hq; simpa using h5))
          case c2 => first | rfl | (intro u hu; simp at hu; subst hu; rfl)
          case c3 => unfold maxLen; omega
          case c4 => omega
          try (case c5 => first | omega | (simp; omega))
          intro v9 w9 hown hgrow _
          have B9 := Lib.hid ((below_al hB.out _).grown hgrow (by simp; omega) (fun j hj => by have := (hO.out.lt j hj).1; omega))
          have O9 := Lib.hid hown
          rw [app.i64s_snoc] at O9
          clear hown hgrow
          go_wp2_with fail
          go_roundw
          case rel => exact ⟨k + 1, by omega, by go_num, ⟨_, rfl⟩, Lib.hid (by rw [mk_succ, HY.out]; exact O9.out), B9⟩
          case measure => simp [intOf]; omega
        · have HY : Hid (Fmaj m k = 0) := Lib.hid (by unfold Fmaj; exact if_neg hq)
          generalize on k = t at *
          have kw : wrap64 (2 * (t : Int)) = 2 * (t : Int) := IntWalk.wrap64_in _ (by omega)
          have d : decide ((m : Int) < 2 * (t : Int)) = false := by simp; omega
          clear hq
          go_wp2_with fail
          refine HO1.out.mono ?_
          rintro e w' ⟨rfl, rfl⟩
          clear HO1
          go_wp2_with (at_builtin; go_must (refine wpList_append_own _ rfl (.tmp 24) (.tmp 26) 22 rfl (w.heap.size) 3 i0 (.int .i64 0) 1 8 Try.underlying22 hi hz0 hz1 hz2 rfl (by decide) _ _ _ rfl (hO.out.alloc _) ⟨wi.heap.size, 0, none⟩ 1 1 [.int .i64 0] rfl rfl ?c1 ?c2 ?c3 ?c4 ?c5 ?_))
          try (case c1 => first | exact app.one_at _ _ _ | (intro q u hq; have h5 := app.one_at wi (.int .i64 0) 3 q u hq; simpa using h5))
          case c2 => first | rfl | (intro u hu; simp at hu; subst hu; rfl)
          case c3 => unfold maxLen; omega
          case c4 => omega
          try (case c5 => first | omega | (simp; omega))
          intro v9 w9 hown hgrow _
          have B9 := Lib.hid ((below_al hB.out _).grown hgrow (by simp; omega) (fun j hj => by have := (hO.out.lt j hj).1; omega))
          have O9 := Lib.hid hown
          rw [app.i64s_snoc] at O9
          clear hown hgrow
          go_wp2_with fail
          go_roundw
          case rel => exact ⟨k + 1, by omega, by go_num, ⟨_, rfl⟩, Lib.hid (by rw [mk_succ, HY.out]; exact O9.out), B9⟩
          case measure => simp [intOf]; omega
      · have hkz : ¬ (k : Int) < (c : Int) := by omega
        obtain rfl : k = c := by omega
        go_wp2_with fail
        go_ret2
        exact ⟨_, rfl, (app.ints_of_owns hO.out).ints, hB.out⟩
  · rw [resM_no hok]
    have hb : n < 1 ∨ 3 < n := by
      by_cases h : n < 1
      · exact .inl h
      · by_cases h2 : n ≤ 3
        · exact absurd ⟨by omega, h2⟩ hok
        · exact .inr (by omega)
    clear hok
    go_enter Try.func36, Try.ntmps36
    go_wp2_with fail
    refine (val.in_no _ _ _ _ hb).mono ?_
    rintro e w' ⟨rfl, rfl⟩
    clear hb
    go_wp2_with fail
    go_ret2
    exact ⟨_, rfl, app.empty _ _ _ (Nat.zero_le _), B0.out⟩

end Go.Proofs.Ytnjaocgciokpaaa.cbs
