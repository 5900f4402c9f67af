/- BitCode, MajorityCode, ParityCode of both sides. -/
import Derived.Test.YtnjaocgciokpaaaCdi
import Derived.Test.YtnjaocgciokpaaaOnes
import Derived.BigQuiet
import Derived.Laws.EntriesVeiled
namespace Go.Proofs.Ytnjaocgciokpaaa.cby
open Go.RowKit Go.Deep Go.Proofs.Ytnjaocgciokpaaa.base
open Go.Proofs.Ytnjaocgciokpaaa.ints (ret_int infoInt)
open Go.Proofs.Ytnjaocgciokpaaa.cdm
open Go.Proofs.Ytnjaocgciokpaaa.onec (on)

def mk (F : Nat → Int) (k : Nat) : List Int := (List.range k).map F
theorem mk_succ (F : Nat → Int) (k : Nat) : mk F (k + 1) = mk F k ++ [F k] := by simp [mk, List.range_succ]
theorem len_mk (F : Nat → Int) (k : Nat) : (mk F k).length = k := by simp [mk]
theorem mk_congr {F G : Nat → Int} {k : Nat} (h : ∀ j, j < k → F j = G j) : mk F k = mk G k := by
  unfold mk
  exact List.map_congr_left (fun j hj => h j (List.mem_range.1 hj))
def Fbit (i k : Nat) : Int := ((lt k i : Nat) : Int)
def Fmaj (n k : Nat) : Int := if (n : Int) < 2 * ((on k : Nat) : Int) then 1 else 0
def Fpar (k : Nat) : Int := ((on k % 2 : Nat) : Int)
def os (k : Nat) : Nat → Nat
  | 0 => 0
  | i + 1 => os k i + lt k i
theorem os_on : ∀ n : Fin 4, ∀ k : Fin 8, k.val < 2 ^ n.val → os k.val n.val = on k.val := by decide
theorem os_le (k : Nat) : ∀ n, os k n ≤ n
  | 0 => Nat.le_refl _
  | n + 1 => by have := os_le k n; have := lt_le k n; show _ + _ ≤ _; omega
theorem on_le (k : Nat) : on k ≤ 3 := by unfold on; omega
theorem tmod2 (k : Nat) : ((k : Int)).tmod 2 = ((k % 2 : Nat) : Int) := by rw [Int.tmod_eq_emod_of_nonneg (by omega)]; simp
def okN (n : Int) : Prop := 1 ≤ n ∧ n ≤ 3
def okI (n i : Int) : Prop := (1 ≤ n ∧ n ≤ 3) ∧ 0 ≤ i ∧ i < n
open Classical in
noncomputable def resB (n i : Int) : List Int × Bool := if okI n i then (mk (Fbit i.toNat) (2 ^ n.toNat), true) else ([], false)
open Classical in
noncomputable def resM (n : Int) : List Int × Bool := if okN n then (mk (Fmaj n.toNat) (2 ^ n.toNat), true) else ([], false)
open Classical in
noncomputable def resP (n : Int) : List Int × Bool := if okN n then (mk Fpar (2 ^ n.toNat), true) else ([], false)
theorem resB_yes {n i : Int} (h : okI n i) : resB n i = (mk (Fbit i.toNat) (2 ^ n.toNat), true) := if_pos h
theorem resB_no {n i : Int} (h : ¬ okI n i) : resB n i = ([], false) := if_neg h
theorem resM_yes {n : Int} (h : okN n) : resM n = (mk (Fmaj n.toNat) (2 ^ n.toNat), true) := if_pos h
theorem resM_no {n : Int} (h : ¬ okN n) : resM n = ([], false) := if_neg h
theorem resP_yes {n : Int} (h : okN n) : resP n = (mk Fpar (2 ^ n.toNat), true) := if_pos h
theorem resP_no {n : Int} (h : ¬ okN n) : resP n = ([], false) := if_neg h
theorem pow8 {n : Nat} (h : n ≤ 3) : 2 ^ n ≤ 8 := Nat.le_trans (Nat.pow_le_pow_right (by omega) h) (by decide)
theorem len_resB (n i : Int) : (resB n i).1.length ≤ 1048576 := by
  by_cases h : okI n i
  · rw [resB_yes h, len_mk]; exact Nat.le_trans (pow8 (by have := h.1.2; omega)) (by decide)
  · rw [resB_no h]; exact Nat.zero_le _
theorem len_resM (n : Int) : (resM n).1.length ≤ 1048576 := by
  by_cases h : okN n
  · rw [resM_yes h, len_mk]; exact Nat.le_trans (pow8 (by have := h.2; omega)) (by decide)
  · rw [resM_no h]; exact Nat.zero_le _
theorem len_resP (n : Int) : (resP n).1.length ≤ 1048576 := by
  by_cases h : okN n
  · rw [resP_yes h, len_mk]; exact Nat.le_trans (pow8 (by have := h.2; omega)) (by decide)
  · rw [resP_no h]; exact Nat.zero_le _


set_option maxRecDepth 100000 in
set_option maxHeartbeats 4000000 in
theorem bit_yes (p0 : Nat) (n : Nat) (F : Nat → Int) (w : World) (hn : 1 ≤ (n : Int) ∧ (n : Int) ≤ 3)
    (hf : ∀ (k : Nat) (W : World), k < 2 ^ n → Below w.heap.size w W → Calls Try.prog 70 #[.int .i64 (k : Int), .pointer (some ⟨p0, 0, none⟩)] W fun e w' => e = .returned (.int .i64 (F k)) ∧ Below W.heap.size W w') :
    Calls Try.prog 69 #[.int .i64 (n : Int), .func (.func 70) #[] #[.pointer (some ⟨p0, 0, none⟩)]] w fun e w' => ∃ u, e = .returned (.tuple #[u, .bool true]) ∧ OwnInts w' w.heap.size w'.heap.size u (mk F (2 ^ n)) ∧ Below w.heap.size w w' := by
  obtain ⟨i0, hi, hz0, hz1, hz2⟩ := info_parts infoInt
  obtain ⟨c, hc⟩ : ∃ c : Nat, 2 ^ n = c := ⟨_, rfl⟩
  have hc8 : c ≤ 8 := by rw [← hc]; exact pow8 (by omega)
  have hmk := app.mk0 c (by omega)
  have hw : wrap64 (2 ^ n) = (c : Int) := by
    have e : (2 : Int) ^ n = (c : Int) := by rw [← hc]; simp
    rw [e]
    exact IntWalk.wrap64_in _ (by omega)
  rw [hc] at hf ⊢
  have HF := Lib.hid hf
  have HN := Lib.hid hn
  have hn3 : (n : Int) ≤ 3 := hn.2
  have B0 := Lib.hid (below_al (Below.refl w.heap.size w) (.cells (madeCells #[.int .i64 0] c) 3))
  have O0 : Hid ((w.alloc (.cells (madeCells #[.int .i64 0] c) 3)).ownsRow w.heap.size 3 1 (.slice (some ⟨w.heap.size, 0, none⟩) 0 c) 0 (i64s (mk F 0))) := Lib.hid (by
    have := World.ownsRow_made (base := w.heap.size) (e := 3) (size := 1) w (madeCells #[.int .i64 0] c) c (Nat.le_refl _) (by unfold maxLen; omega) (by simp [madeCells])
    simpa [i64s, mk] using this)
  have h8 : (c : Int) ≤ 8 := by omega
  clear hf hc hn
  go_enter Try.func69, Try.ntmps69
  go_wp2_with fail
  refine (cdi.count_yes _ _ HN.out).mono ?_
  rintro e w' ⟨rfl, rfl⟩
  go_wp2_with fail
  rw [hw]
  go_wp2_with fail
  clear hmk hw
  go_loopw [6, 7, 16] (fun out z7 q wr => ∃ k : Nat, k ≤ c ∧ q = .int .i64 k ∧ (∃ z, z7 = z) ∧ Hid (wr.ownsRow w.heap.size 3 1 out k (i64s (mk F k))) ∧ Hid (Below w.heap.size w wr)) (fun _ _ q _ => c - (intOf q).toNat)
  case atStart => exact ⟨0, Nat.zero_le _, rfl, ⟨_, rfl⟩, O0, B0⟩
  case round =>
    clear O0 B0
    obtain ⟨k, hk, rfl, ⟨z7, rfl⟩, hO, hB⟩ := hrel
    obtain ⟨wi, rfl⟩ : ∃ wi : World, wi = wr := ⟨_, rfl⟩
    by_cases hlt : k < c
    · have hkz : (k : Int) < (c : Int) := by omega
      have H1 := Lib.hid (HF.out k wi hlt hB.out)
      go_wp2_with fail
      refine H1.out.mono ?_
      rintro e w2 ⟨rfl, hb⟩
      have O2 := Lib.hid (app.owns_below hO.out hb)
      have B2 := Lib.hid (below_tr hB.out hb)
      have hsz := B2.out.size
      generalize hy : F k = y
      have HY := Lib.hid hy
      clear hb hO hB H1 hy
      go_wp2_with (at_builtin; go_must (refine wpList_append_own _ rfl (.tmp 19) (.tmp 23) 22 rfl (w.heap.size) 3 i0 (.int .i64 0) 1 8 Try.underlying22 hi hz0 hz1 hz2 rfl (by decide) _ _ _ rfl (O2.out.alloc _) ⟨w2.heap.size, 0, none⟩ 1 1 [.int .i64 y] rfl rfl ?c1 ?c2 ?c3 ?c4 ?c5 ?_))
      try (case c1 => first | exact app.one_at _ _ _ | (intro q u hq; have h5 := app.one_at w2 (.int .i64 y) 3 q u hq; simpa using h5))
      case c2 => first | rfl | (intro u hu; simp at hu; subst hu; rfl)
      case c3 => unfold maxLen; omega
      case c4 => omega
      try (case c5 => first | omega | (simp; omega))
      intro v9 w9 hown hgrow _
      have B9 := Lib.hid ((below_al B2.out _).grown hgrow (by simp; omega) (fun j hj => by have := (O2.out.lt j hj).1; omega))
      have O9 := Lib.hid hown
      rw [app.i64s_snoc] at O9
      clear hown hgrow
      clear O2 B2
      go_wp2_with fail
      go_roundw
      case rel => exact ⟨k + 1, by omega, by go_num, ⟨_, rfl⟩, Lib.hid (by rw [mk_succ, HY.out]; exact O9.out), B9⟩
      case measure => simp [intOf]; omega
    · have hkz : ¬ (k : Int) < (c : Int) := by omega
      obtain rfl : k = c := by omega
      go_wp2_with fail
      go_ret2
      exact ⟨_, rfl, app.ints_of_owns hO.out, hB.out⟩
theorem bit_no (p0 : Nat) (n : Int) (w : World) (hn : ¬ (1 ≤ n ∧ n ≤ 3)) :
    Calls Try.prog 69 #[.int .i64 n, .func (.func 70) #[] #[.pointer (some ⟨p0, 0, none⟩)]] w fun e w' => e = .returned (.tuple #[.slice none 0 0, .bool false]) ∧ w = w' := by
  have HN := Lib.hid hn
  clear hn
  go_enter Try.func69, Try.ntmps69
  go_wp2_with fail
  refine (cdi.count_no _ _ HN.out).mono ?_
  rintro e w' ⟨rfl, rfl⟩
  go_wp2_with fail
  go_ret2
  exact ⟨rfl, rfl⟩


set_option maxRecDepth 100000 in
set_option maxHeartbeats 4000000 in
theorem maj_yes (p0 : Nat) (n : Nat) (F : Nat → Int) (w : World) (hn : 1 ≤ (n : Int) ∧ (n : Int) ≤ 3)
    (hf : ∀ (k : Nat) (W : World), k < 2 ^ n → Below w.heap.size w W → Calls Try.prog 73 #[.int .i64 (k : Int), .pointer (some ⟨p0, 0, none⟩)] W fun e w' => e = .returned (.int .i64 (F k)) ∧ Below W.heap.size W w') :
    Calls Try.prog 69 #[.int .i64 (n : Int), .func (.func 73) #[] #[.pointer (some ⟨p0, 0, none⟩)]] w fun e w' => ∃ u, e = .returned (.tuple #[u, .bool true]) ∧ OwnInts w' w.heap.size w'.heap.size u (mk F (2 ^ n)) ∧ Below w.heap.size w w' := by
  obtain ⟨i0, hi, hz0, hz1, hz2⟩ := info_parts infoInt
  obtain ⟨c, hc⟩ : ∃ c : Nat, 2 ^ n = c := ⟨_, rfl⟩
  have hc8 : c ≤ 8 := by rw [← hc]; exact pow8 (by omega)
  have hmk := app.mk0 c (by omega)
  have hw : wrap64 (2 ^ n) = (c : Int) := by
    have e : (2 : Int) ^ n = (c : Int) := by rw [← hc]; simp
    rw [e]
    exact IntWalk.wrap64_in _ (by omega)
  rw [hc] at hf ⊢
  have HF := Lib.hid hf
  have HN := Lib.hid hn
  have hn3 : (n : Int) ≤ 3 := hn.2
  have B0 := Lib.hid (below_al (Below.refl w.heap.size w) (.cells (madeCells #[.int .i64 0] c) 3))
  have O0 : Hid ((w.alloc (.cells (madeCells #[.int .i64 0] c) 3)).ownsRow w.heap.size 3 1 (.slice (some ⟨w.heap.size, 0, none⟩) 0 c) 0 (i64s (mk F 0))) := Lib.hid (by
    have := World.ownsRow_made (base := w.heap.size) (e := 3) (size := 1) w (madeCells #[.int .i64 0] c) c (Nat.le_refl _) (by unfold maxLen; omega) (by simp [madeCells])
    simpa [i64s, mk] using this)
  have h8 : (c : Int) ≤ 8 := by omega
  clear hf hc hn
  go_enter Try.func69, Try.ntmps69
  go_wp2_with fail
  refine (cdi.count_yes _ _ HN.out).mono ?_
  rintro e w' ⟨rfl, rfl⟩
  go_wp2_with fail
  rw [hw]
  go_wp2_with fail
  clear hmk hw
  go_loopw [6, 7, 16] (fun out z7 q wr => ∃ k : Nat, k ≤ c ∧ q = .int .i64 k ∧ (∃ z, z7 = z) ∧ Hid (wr.ownsRow w.heap.size 3 1 out k (i64s (mk F k))) ∧ Hid (Below w.heap.size w wr)) (fun _ _ q _ => c - (intOf q).toNat)
  case atStart => exact ⟨0, Nat.zero_le _, rfl, ⟨_, rfl⟩, O0, B0⟩
  case round =>
    clear O0 B0
    obtain ⟨k, hk, rfl, ⟨z7, rfl⟩, hO, hB⟩ := hrel
    obtain ⟨wi, rfl⟩ : ∃ wi : World, wi = wr := ⟨_, rfl⟩
    by_cases hlt : k < c
    · have hkz : (k : Int) < (c : Int) := by omega
      have H1 := Lib.hid (HF.out k wi hlt hB.out)
      go_wp2_with fail
      refine H1.out.mono ?_
      rintro e w2 ⟨rfl, hb⟩
      have O2 := Lib.hid (app.owns_below hO.out hb)
      have B2 := Lib.hid (below_tr hB.out hb)
      have hsz := B2.out.size
      generalize hy : F k = y
      have HY := Lib.hid hy
      clear hb hO hB H1 hy
      go_wp2_with (at_builtin; go_must (refine wpList_append_own _ rfl (.tmp 19) (.tmp 23) 22 rfl (w.heap.size) 3 i0 (.int .i64 0) 1 8 Try.underlying22 hi hz0 hz1 hz2 rfl (by decide) _ _ _ rfl (O2.out.alloc _) ⟨w2.heap.size, 0, none⟩ 1 1 [.int .i64 y] rfl rfl ?c1 ?c2 ?c3 ?c4 ?c5 ?_))
      try (case c1 => first | exact app.one_at _ _ _ | (intro q u hq; have h5 := app.one_at w2 (.int .i64 y) 3 q u hq; simpa using h5))
      case c2 => first | rfl | (intro u hu; simp at hu; subst hu; rfl)
      case c3 => unfold maxLen; omega
      case c4 => omega
      try (case c5 => first | omega | (simp; omega))
      intro v9 w9 hown hgrow _
      have B9 := Lib.hid ((below_al B2.out _).grown hgrow (by simp; omega) (fun j hj => by have := (O2.out.lt j hj).1; omega))
      have O9 := Lib.hid hown
      rw [app.i64s_snoc] at O9
      clear hown hgrow
      clear O2 B2
      go_wp2_with fail
      go_roundw
      case rel => exact ⟨k + 1, by omega, by go_num, ⟨_, rfl⟩, Lib.hid (by rw [mk_succ, HY.out]; exact O9.out), B9⟩
      case measure => simp [intOf]; omega
    · have hkz : ¬ (k : Int) < (c : Int) := by omega
      obtain rfl : k = c := by omega
      go_wp2_with fail
      go_ret2
      exact ⟨_, rfl, app.ints_of_owns hO.out, hB.out⟩
theorem maj_no (p0 : Nat) (n : Int) (w : World) (hn : ¬ (1 ≤ n ∧ n ≤ 3)) :
    Calls Try.prog 69 #[.int .i64 n, .func (.func 73) #[] #[.pointer (some ⟨p0, 0, none⟩)]] w fun e w' => e = .returned (.tuple #[.slice none 0 0, .bool false]) ∧ w = w' := by
  have HN := Lib.hid hn
  clear hn
  go_enter Try.func69, Try.ntmps69
  go_wp2_with fail
  refine (cdi.count_no _ _ HN.out).mono ?_
  rintro e w' ⟨rfl, rfl⟩
  go_wp2_with fail
  go_ret2
  exact ⟨rfl, rfl⟩


set_option maxRecDepth 100000 in
set_option maxHeartbeats 4000000 in
theorem par_yes (n : Nat) (F : Nat → Int) (w : World) (hn : 1 ≤ (n : Int) ∧ (n : Int) ≤ 3)
    (hf : ∀ (k : Nat) (W : World), k < 2 ^ n → Below w.heap.size w W → Calls Try.prog 75 #[.int .i64 (k : Int)] W fun e w' => e = .returned (.int .i64 (F k)) ∧ Below W.heap.size W w') :
    Calls Try.prog 69 #[.int .i64 (n : Int), .func (.func 75) #[] #[]] w fun e w' => ∃ u, e = .returned (.tuple #[u, .bool true]) ∧ OwnInts w' w.heap.size w'.heap.size u (mk F (2 ^ n)) ∧ Below w.heap.size w w' := by
  obtain ⟨i0, hi, hz0, hz1, hz2⟩ := info_parts infoInt
  obtain ⟨c, hc⟩ : ∃ c : Nat, 2 ^ n = c := ⟨_, rfl⟩
  have hc8 : c ≤ 8 := by rw [← hc]; exact pow8 (by omega)
  have hmk := app.mk0 c (by omega)
  have hw : wrap64 (2 ^ n) = (c : Int) := by
    have e : (2 : Int) ^ n = (c : Int) := by rw [← hc]; simp
    rw [e]
    exact IntWalk.wrap64_in _ (by omega)
  rw [hc] at hf ⊢
  have HF := Lib.hid hf
  have HN := Lib.hid hn
  have hn3 : (n : Int) ≤ 3 := hn.2
  have B0 := Lib.hid (below_al (Below.refl w.heap.size w) (.cells (madeCells #[.int .i64 0] c) 3))
  have O0 : Hid ((w.alloc (.cells (madeCells #[.int .i64 0] c) 3)).ownsRow w.heap.size 3 1 (.slice (some ⟨w.heap.size, 0, none⟩) 0 c) 0 (i64s (mk F 0))) := Lib.hid (by
    have := World.ownsRow_made (base := w.heap.size) (e := 3) (size := 1) w (madeCells #[.int .i64 0] c) c (Nat.le_refl _) (by unfold maxLen; omega) (by simp [madeCells])
    simpa [i64s, mk] using this)
  have h8 : (c : Int) ≤ 8 := by omega
  clear hf hc hn
  go_enter Try.func69, Try.ntmps69
  go_wp2_with fail
  refine (cdi.count_yes _ _ HN.out).mono ?_
  rintro e w' ⟨rfl, rfl⟩
  go_wp2_with fail
  rw [hw]
  go_wp2_with fail
  clear hmk hw
  go_loopw [6, 7, 16] (fun out z7 q wr => ∃ k : Nat, k ≤ c ∧ q = .int .i64 k ∧ (∃ z, z7 = z) ∧ Hid (wr.ownsRow w.heap.size 3 1 out k (i64s (mk F k))) ∧ Hid (Below w.heap.size w wr)) (fun _ _ q _ => c - (intOf q).toNat)
  case atStart => exact ⟨0, Nat.zero_le _, rfl, ⟨_, rfl⟩, O0, B0⟩
  case round =>
    clear O0 B0
    obtain ⟨k, hk, rfl, ⟨z7, rfl⟩, hO, hB⟩ := hrel
    obtain ⟨wi, rfl⟩ : ∃ wi : World, wi = wr := ⟨_, rfl⟩
    by_cases hlt : k < c
    · have hkz : (k : Int) < (c : Int) := by omega
      have H1 := Lib.hid (HF.out k wi hlt hB.out)
      go_wp2_with fail
      refine H1.out.mono ?_
      rintro e w2 ⟨rfl, hb⟩
      have O2 := Lib.hid (app.owns_below hO.out hb)
      have B2 := Lib.hid (below_tr hB.out hb)
      have hsz := B2.out.size
      generalize hy : F k = y
      have HY := Lib.hid hy
      clear hb hO hB H1 hy
      go_wp2_with (at_builtin; go_must (refine wpList_append_own _ rfl (.tmp 19) (.tmp 23) 22 rfl (w.heap.size) 3 i0 (.int .i64 0) 1 8 Try.underlying22 hi hz0 hz1 hz2 rfl (by decide) _ _ _ rfl (O2.out.alloc _) ⟨w2.heap.size, 0, none⟩ 1 1 [.int .i64 y] rfl rfl ?c1 ?c2 ?c3 ?c4 ?c5 ?_))
      try (case c1 => first | exact app.one_at _ _ _ | (intro q u hq; have h5 := app.one_at w2 (.int .i64 y) 3 q u hq; simpa using h5))
      case c2 => first | rfl | (intro u hu; simp at hu; subst hu; rfl)
      case c3 => unfold maxLen; omega
      case c4 => omega
      try (case c5 => first | omega | (simp; omega))
      intro v9 w9 hown hgrow _
      have B9 := Lib.hid ((below_al B2.out _).grown hgrow (by simp; omega) (fun j hj => by have := (O2.out.lt j hj).1; omega))
      have O9 := Lib.hid hown
      rw [app.i64s_snoc] at O9
      clear hown hgrow
      clear O2 B2
      go_wp2_with fail
      go_roundw
      case rel => exact ⟨k + 1, by omega, by go_num, ⟨_, rfl⟩, Lib.hid (by rw [mk_succ, HY.out]; exact O9.out), B9⟩
      case measure => simp [intOf]; omega
    · have hkz : ¬ (k : Int) < (c : Int) := by omega
      obtain rfl : k = c := by omega
      go_wp2_with fail
      go_ret2
      exact ⟨_, rfl, app.ints_of_owns hO.out, hB.out⟩
theorem par_no (n : Int) (w : World) (hn : ¬ (1 ≤ n ∧ n ≤ 3)) :
    Calls Try.prog 69 #[.int .i64 n, .func (.func 75) #[] #[]] w fun e w' => e = .returned (.tuple #[.slice none 0 0, .bool false]) ∧ w = w' := by
  have HN := Lib.hid hn
  clear hn
  go_enter Try.func69, Try.ntmps69
  go_wp2_with fail
  refine (cdi.count_no _ _ HN.out).mono ?_
  rintro e w' ⟨rfl, rfl⟩
  go_wp2_with fail
  go_ret2
  exact ⟨rfl, rfl⟩


theorem bit_clo (p k i : Nat) (W : World) (hc : W.cell? ⟨p, 0, none⟩ = some (.int .i64 (i : Int))) (hk : k < 8) (hi : i ≤ 2) :
    Calls Try.prog 70 #[.int .i64 (k : Int), .pointer (some ⟨p, 0, none⟩)] W fun e w' => e = .returned (.int .i64 (Fbit i k)) ∧ Below W.heap.size W w' := by
  have HL := Lib.hid (cdi.letter k i W (by omega) hi)
  go_enter Try.func70, Try.ntmps70
  go_wp2_with fail
  refine HL.out.mono ?_
  rintro e w' ⟨rfl, rfl⟩
  go_wp2_with fail
  go_ret
  exact ⟨rfl, Below.refl _ _⟩


set_option maxRecDepth 100000 in
set_option maxHeartbeats 1000000 in
theorem bit_impl (n i : Int) (w : World) :
    Calls Try.prog 35 #[.int .i64 n, .int .i64 i] w fun e w' => ∃ u, e = .returned (.tuple #[u, .bool (resB n i).2]) ∧ OwnInts w' w.heap.size w'.heap.size u (resB n i).1 ∧ Below w.heap.size w w' := by
  have B0 := Lib.hid (below_al (Below.refl w.heap.size w) (.cells #[.int .i64 i] 3))
  by_cases h0 : i < 0
  · rw [resB_no (fun h => by have := h.2.1; omega)]
    go_enter Try.func35, Try.ntmps35
    go_wp2_with fail
    go_ret2
    exact ⟨_, rfl, OwnInts.nil _ _ _, B0.out⟩
  · have d0 : decide (i < 0) = false := by simp; omega
    by_cases h1 : n ≤ i
    · have d1 : decide (i ≥ n) = true := by simp; omega
      rw [resB_no (fun h => by have := h.2.2; omega)]
      go_enter Try.func35, Try.ntmps35
      go_wp2_with fail
      go_ret2
      exact ⟨_, rfl, OwnInts.nil _ _ _, B0.out⟩
    · have d1 : decide (i ≥ n) = false := by simp; omega
      by_cases h3 : n ≤ 3
      · obtain ⟨m, rfl⟩ : ∃ m : Nat, n = m := ⟨n.toNat, by omega⟩
        obtain ⟨j, rfl⟩ : ∃ j : Nat, i = j := ⟨i.toNat, by omega⟩
        rw [resB_yes ⟨⟨by omega, h3⟩, by omega, by omega⟩, Int.toNat_natCast, Int.toNat_natCast]
        have HB := Lib.hid (bit_yes w.heap.size m (Fbit j) (w.alloc (.cells #[.int .i64 (j : Int)] 3)) ⟨by omega, h3⟩ (fun k W hk hW => bit_clo w.heap.size k j W (below_cell (hW.mono (Nat.le_refl _)) _ _ (by simp)) (Nat.lt_of_lt_of_le hk (pow8 (by omega))) (by omega)))
        have dm : ¬ m ≤ j := by omega
        clear h0 h1 h3
        go_enter Try.func35, Try.ntmps35
        go_wp2_with fail
        refine HB.out.mono ?_
        rintro e w' ⟨u, rfl, hu, hb⟩
        go_wp2_with fail
        go_ret2
        exact ⟨_, rfl, hu.mono B0.out.size (Nat.le_refl _), below_tr B0.out hb⟩
      · rw [resB_no (fun h => h3 h.1.2)]
        have HB := Lib.hid (bit_no w.heap.size n (w.alloc (.cells #[.int .i64 i] 3)) (fun h => h3 h.2))
        clear h0 h1 h3
        go_enter Try.func35, Try.ntmps35
        go_wp2_with fail
        refine HB.out.mono ?_
        rintro e w' ⟨rfl, rfl⟩
        go_wp2_with fail
        go_ret2
        exact ⟨_, rfl, OwnInts.nil _ _ _, B0.out⟩


set_option maxRecDepth 100000 in
theorem maj_clo (p k n : Nat) (W : World) (hc : W.cell? ⟨p, 0, none⟩ = some (.int .i64 (n : Int))) (hk : k < 8) :
    Calls Try.prog 73 #[.int .i64 (k : Int), .pointer (some ⟨p, 0, none⟩)] W fun e w' => e = .returned (.int .i64 (Fmaj n k)) ∧ Below W.heap.size W w' := by
  have HL : Hid (∀ q, Calls Try.prog 74 #[.int .i64 (k : Int)] (W.drewN q) fun e w' => e = .returned (.int .i64 ((on k : Nat) : Int)) ∧ w' = W.drewN q) := Lib.hid (fun q => (onec.ones k hk _).mono fun _ _ h => ⟨h.1, h.2.symm⟩)
  have h3 := on_le k
  by_cases hm : (n : Int) < 2 * ((on k : Nat) : Int)
  · have HR : Hid (Fmaj n k = 1) := Lib.hid (if_pos hm)
    generalize on k = t at *
    have kw : IntKind.i64.wrap (2 * (t : Int)) = 2 * (t : Int) := IntWalk.i64_in _ (by omega)
    have kw2 : wrap64 (2 * (t : Int)) = 2 * (t : Int) := IntWalk.wrap64_in _ (by omega)
    have d : decide ((n : Int) < 2 * (t : Int)) = true := by simp; omega
    clear hm
    go_enter Try.func73, Try.ntmps73
    go_wp2_with fail
    go_quiet ((go_at_call 74; go_must (exact Calls.quiet_of_same (HL.out _))))
    go_wp2_with fail
    go_ret
    exact ⟨ret_int HR.out.symm, below_drewN (Below.refl _ _) _⟩
  · have HR : Hid (Fmaj n k = 0) := Lib.hid (if_neg hm)
    generalize on k = t at *
    have kw : IntKind.i64.wrap (2 * (t : Int)) = 2 * (t : Int) := IntWalk.i64_in _ (by omega)
    have kw2 : wrap64 (2 * (t : Int)) = 2 * (t : Int) := IntWalk.wrap64_in _ (by omega)
    have d : decide ((n : Int) < 2 * (t : Int)) = false := by simp; omega
    clear hm
    go_enter Try.func73, Try.ntmps73
    go_wp2_with fail
    go_quiet ((go_at_call 74; go_must (exact Calls.quiet_of_same (HL.out _))))
    go_wp2_with fail
    go_ret
    exact ⟨ret_int HR.out.symm, below_drewN (Below.refl _ _) _⟩


set_option maxRecDepth 100000 in
set_option maxHeartbeats 1000000 in
theorem maj_impl (n : Int) (w : World) :
    Calls Try.prog 37 #[.int .i64 n] w fun e w' => ∃ u, e = .returned (.tuple #[u, .bool (resM n).2]) ∧ OwnInts w' w.heap.size w'.heap.size u (resM n).1 ∧ Below w.heap.size w w' := by
  have B0 := Lib.hid (below_al (Below.refl w.heap.size w) (.cells #[.int .i64 n] 3))
  by_cases h3 : 1 ≤ n ∧ n ≤ 3
  · obtain ⟨m, rfl⟩ : ∃ m : Nat, n = m := ⟨n.toNat, by omega⟩
    rw [resM_yes h3, Int.toNat_natCast]
    have HB := Lib.hid (maj_yes w.heap.size m (Fmaj m) (w.alloc (.cells #[.int .i64 (m : Int)] 3)) h3 (fun k W hk hW => maj_clo w.heap.size k m W (below_cell (hW.mono (Nat.le_refl _)) _ _ (by simp)) (Nat.lt_of_lt_of_le hk (pow8 (by omega)))))
    clear h3
    go_enter Try.func37, Try.ntmps37
    go_wp2_with fail
    refine HB.out.mono ?_
    rintro e w' ⟨u, rfl, hu, hb⟩
    go_wp2_with fail
    go_ret2
    exact ⟨_, rfl, hu.mono B0.out.size (Nat.le_refl _), below_tr B0.out hb⟩
  · rw [resM_no h3]
    have HB := Lib.hid (maj_no w.heap.size n (w.alloc (.cells #[.int .i64 n] 3)) h3)
    clear h3
    go_enter Try.func37, Try.ntmps37
    go_wp2_with fail
    refine HB.out.mono ?_
    rintro e w' ⟨rfl, rfl⟩
    go_wp2_with fail
    go_ret2
    exact ⟨_, rfl, OwnInts.nil _ _ _, B0.out⟩


set_option maxRecDepth 100000 in
theorem par_clo (k : Nat) (W : World) (hk : k < 8) :
    Calls Try.prog 75 #[.int .i64 (k : Int)] W fun e w' => e = .returned (.int .i64 (Fpar k)) ∧ Below W.heap.size W w' := by
  have HL := Lib.hid (onec.ones k hk W)
  have HT := Lib.hid (tmod2 (on k))
  go_enter Try.func75, Try.ntmps75
  go_wp2_with fail
  refine HL.out.mono ?_
  rintro e w' ⟨rfl, rfl⟩
  go_wp2_with fail
  go_ret
  exact ⟨ret_int HT.out, Below.refl _ _⟩


set_option maxRecDepth 100000 in
set_option maxHeartbeats 1000000 in
theorem par_impl (n : Int) (w : World) :
    Calls Try.prog 39 #[.int .i64 n] w fun e w' => ∃ u, e = .returned (.tuple #[u, .bool (resP n).2]) ∧ OwnInts w' w.heap.size w'.heap.size u (resP n).1 ∧ Below w.heap.size w w' := by
  by_cases h3 : 1 ≤ n ∧ n ≤ 3
  · obtain ⟨m, rfl⟩ : ∃ m : Nat, n = m := ⟨n.toNat, by omega⟩
    rw [resP_yes h3, Int.toNat_natCast]
    have HB := Lib.hid (par_yes m Fpar w h3 (fun k W hk hW => par_clo k W (Nat.lt_of_lt_of_le hk (pow8 (by omega)))))
    clear h3
    go_enter Try.func39, Try.ntmps39
    go_wp2_with fail
    refine HB.out.mono ?_
    rintro e w' ⟨u, rfl, hu, hb⟩
    go_wp2_with fail
    go_ret2
    exact ⟨_, rfl, hu, hb⟩
  · rw [resP_no h3]
    have HB := Lib.hid (par_no n w h3)
    clear h3
    go_enter Try.func39, Try.ntmps39
    go_wp2_with fail
    refine HB.out.mono ?_
    rintro e w' ⟨rfl, rfl⟩
    go_wp2_with fail
    go_ret2
    exact ⟨_, rfl, OwnInts.nil _ _ _, Below.refl _ _⟩

end Go.Proofs.Ytnjaocgciokpaaa.cby
