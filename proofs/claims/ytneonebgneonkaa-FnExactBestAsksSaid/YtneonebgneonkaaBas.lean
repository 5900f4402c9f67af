/- BestAsks of the model. -/
import Derived.Test.YtneonebgneonkaaBap
import Derived.Test.YtneonebgneonkaaMad
import Derived.Test.YtneonebgneonkaaPlays
import Derived.Test.YtneonebgneonkaaOwnz
namespace Go.Proofs.Ytneonebgneonkaa.bam
open Go.RowKit Go.Deep Go.Proofs.Ytneonebgneonkaa.base
open Go.Proofs.Ytneonebgneonkaa.ints (ret_int infoInt infoInts)
open Go.Proofs.Ytneonebgneonkaa.rws (total)
open Go.Proofs.Ytneonebgneonkaa.two (two)
open Go.Proofs.Ytneonebgneonkaa.play (within)
open Go.Proofs.Ytneonebgneonkaa.wis (ok2 ok2B ok2B_yes ok2B_no)
open Go.Proofs.Ytneonebgneonkaa.maxi (bst bst_new bst_old bst_lt)
open Go.Proofs.Ytneonebgneonkaa.rby (sumR)
open Go.Proofs.Ytneonebgneonkaa.plays (at_ len_at upto all)
open Go.Proofs.Ytneonebgneonkaa.scene (three_cells)
open Go.Proofs.Ytneonebgneonkaa.rule (RV)

theorem at4_get (k : Nat) (hk : k < 16) : ∃ h : k < (all 4).length, (all 4)[k] = at_ 4 k := ⟨by simp [all, upto]; omega, by simp [all, upto]⟩

set_option maxHeartbeats 1000000 in
theorem asks (w : World) : Calls Try.prog 95 #[] w fun e w' => ∃ (b o c : Nat) (R : Nat → Value), e = .returned (.slice (some ⟨b, o, none⟩) 16 c) ∧ (∀ k, k < 16 → w'.cell? ⟨b, o + k, none⟩ = some (R k) ∧ Ints w' (R k) (at_ 4 k)) ∧ Below w.heap.size w w' := by
  have HP := Lib.hid (plays.l2plays 2 2 w ⟨by decide, by decide⟩)
  go_enter Try.func95, Try.ntmps95
  go_wp2_with fail
  refine HP.out.mono ?_
  rintro e w' ⟨u, rfl, hu, hb⟩
  obtain ⟨A, b, o, c, R, rfl, h1, h2, hA, hc⟩ := hu.rows.form
  have hl : (all ((2 : Int) + 2).toNat).length = 16 := by simp [all, upto]
  have hA' := hA (by omega)
  subst hA'
  rw [hl]
  clear HP
  go_wp2_with fail
  go_ret
  refine ⟨b, o, c, R, rfl, fun k hk => ?_, hb⟩
  obtain ⟨hk', e⟩ := at4_get k hk
  have := hc k hk'
  exact ⟨this.1, by have h := this.2; exact e ▸ h⟩

theorem len_st (g : Nat → Int) (p : Nat) : (fs g p).length ≤ 1048576 ∧ (sc g p).length ≤ 1048576 := by
  unfold fs sc
  split
  · simp
  · rw [len_at, len_at]; omega
theorem place (i n : Nat) (hn : n < 16) : (16 * i + n) / 16 = i ∧ (16 * i + n) % 16 = n := by omega


set_option maxRecDepth 100000 in
set_option maxHeartbeats 4000000 in
theorem spec_bad (x y wh : Int) (v : Value) (xss : List (List Int)) (x' y' wh' : Int) (v' : Value) (yss : List (List Int)) (k : Int) (w : World) (h : IRows w v xss) (h' : IRows w v' yss) (hn : total xss ≤ 1048576) (hn' : total yss ≤ 1048576) (hok : ¬ ok2 x y wh xss x' y' wh' yss) :
    Calls Try.prog 45 #[.agg #[.int .i64 x, .int .i64 y, .int .i64 wh, v], .agg #[.int .i64 x', .int .i64 y', .int .i64 wh', v'], .int .i64 k] w fun e w' => ∃ u u', e = .returned (.tuple #[u, u', .int .i64 (res x y wh xss x' y' wh' yss k).v, .bool (res x y wh xss x' y' wh' yss k).ok]) ∧ Ints w' u (res x y wh xss x' y' wh' yss k).f ∧ Ints w' u' (res x y wh xss x' y' wh' yss k).s ∧ Below w.heap.size w w' := by
  obtain ⟨va, vn, vc, rfl⟩ := h.shape
  obtain ⟨ua, un, uc, rfl⟩ := h'.shape
  have B2 := below_al (below_al (Below.refl w.heap.size w) (.cells #[.int .i64 x, .int .i64 y, .int .i64 wh, .slice va vn vc] 48)) (.cells #[.int .i64 x', .int .i64 y', .int .i64 wh', .slice ua un uc] 48)
  have P1 := (Blk.new w 48 #[.int .i64 x, .int .i64 y, .int .i64 wh, .slice va vn vc]).alloc (.cells #[.int .i64 x', .int .i64 y', .int .i64 wh', .slice ua un uc] 48)
  have P2 : Blk ((w.alloc (.cells #[.int .i64 x, .int .i64 y, .int .i64 wh, .slice va vn vc] 48)).alloc (.cells #[.int .i64 x', .int .i64 y', .int .i64 wh', .slice ua un uc] 48)) (w.heap.size + 1) 48 #[.int .i64 x', .int .i64 y', .int .i64 wh', .slice ua un uc] := by have := Blk.new (w.alloc (.cells #[.int .i64 x, .int .i64 y, .int .i64 wh, .slice va vn vc] 48)) 48 #[.int .i64 x', .int .i64 y', .int .i64 wh', .slice ua un uc]; simpa using this
  have HVA := Lib.hid (h.below B2)
  have HVB := Lib.hid (h'.below B2)
  obtain ⟨w2, hw2⟩ : ∃ w2, ((w.alloc (.cells #[.int .i64 x, .int .i64 y, .int .i64 wh, .slice va vn vc] 48)).alloc (.cells #[.int .i64 x', .int .i64 y', .int .i64 wh', .slice ua un uc] 48)) = w2 := ⟨_, rfl⟩
  rw [hw2] at B2 P1 P2 HVA HVB
  have BB := Lib.hid B2
  have HP1 := Lib.hid P1
  have HP2 := Lib.hid P2
  have CA := wis.l10Both x y wh _ xss x' y' wh' _ yss w2 HVA.out HVB.out hn hn'
  clear h h' B2 P1 P2
  have HR := Lib.hid (res_no (x := x) (y := y) (wh := wh) (xss := xss) (x' := x') (y' := y') (wh' := wh') (yss := yss) (k := k) (fun hh => hok hh.1))
  rw [ok2B_no hok] at CA
  have HA := Lib.hid CA
  skip
  clear CA hok hn hn'
  go_enter Try.func45, Try.ntmps45
  obtain ⟨c0, c1, c2, c3, c4⟩ := four_cells HP1.out
  obtain ⟨d0, d1, d2, d3, d4⟩ := four_cells HP2.out
  go_wp2_with fail
  clear hw2
  refine HA.out.mono ?_
  rintro e w3 ⟨rfl, hb⟩
  have B3 := Lib.hid (below_tr BB.out hb)
  clear hb c0 c1 c2 c3 c4 d0 d1 d2 d3 d4
  go_wp2_with fail
  refine bodyPost_ret (v := .tuple #[.slice (some ⟨w3.heap.size, 0, none⟩) 0 0, .slice (some ⟨w3.heap.size + 1, 0, none⟩) 0 0, .int .i64 0, .bool false]) (by simp [results, Try.results45, go_sem]) rfl ?_
  rw [HR.out]
  exact ⟨_, _, rfl, app.empty _ _ _ (Nat.zero_le _), app.empty _ _ _ (Nat.zero_le _), below_al (below_al B3.out _) _⟩
set_option maxRecDepth 100000 in
set_option maxHeartbeats 4000000 in
theorem spec_kind (x y wh : Int) (v : Value) (xss : List (List Int)) (x' y' wh' : Int) (v' : Value) (yss : List (List Int)) (k : Int) (w : World) (h : IRows w v xss) (h' : IRows w v' yss) (hn : total xss ≤ 1048576) (hn' : total yss ≤ 1048576) (hok : ok2 x y wh xss x' y' wh' yss) (hk : ¬ (0 ≤ k ∧ k ≤ 7)) :
    Calls Try.prog 45 #[.agg #[.int .i64 x, .int .i64 y, .int .i64 wh, v], .agg #[.int .i64 x', .int .i64 y', .int .i64 wh', v'], .int .i64 k] w fun e w' => ∃ u u', e = .returned (.tuple #[u, u', .int .i64 (res x y wh xss x' y' wh' yss k).v, .bool (res x y wh xss x' y' wh' yss k).ok]) ∧ Ints w' u (res x y wh xss x' y' wh' yss k).f ∧ Ints w' u' (res x y wh xss x' y' wh' yss k).s ∧ Below w.heap.size w w' := by
  obtain ⟨va, vn, vc, rfl⟩ := h.shape
  obtain ⟨ua, un, uc, rfl⟩ := h'.shape
  have B2 := below_al (below_al (Below.refl w.heap.size w) (.cells #[.int .i64 x, .int .i64 y, .int .i64 wh, .slice va vn vc] 48)) (.cells #[.int .i64 x', .int .i64 y', .int .i64 wh', .slice ua un uc] 48)
  have P1 := (Blk.new w 48 #[.int .i64 x, .int .i64 y, .int .i64 wh, .slice va vn vc]).alloc (.cells #[.int .i64 x', .int .i64 y', .int .i64 wh', .slice ua un uc] 48)
  have P2 : Blk ((w.alloc (.cells #[.int .i64 x, .int .i64 y, .int .i64 wh, .slice va vn vc] 48)).alloc (.cells #[.int .i64 x', .int .i64 y', .int .i64 wh', .slice ua un uc] 48)) (w.heap.size + 1) 48 #[.int .i64 x', .int .i64 y', .int .i64 wh', .slice ua un uc] := by have := Blk.new (w.alloc (.cells #[.int .i64 x, .int .i64 y, .int .i64 wh, .slice va vn vc] 48)) 48 #[.int .i64 x', .int .i64 y', .int .i64 wh', .slice ua un uc]; simpa using this
  have HVA := Lib.hid (h.below B2)
  have HVB := Lib.hid (h'.below B2)
  obtain ⟨w2, hw2⟩ : ∃ w2, ((w.alloc (.cells #[.int .i64 x, .int .i64 y, .int .i64 wh, .slice va vn vc] 48)).alloc (.cells #[.int .i64 x', .int .i64 y', .int .i64 wh', .slice ua un uc] 48)) = w2 := ⟨_, rfl⟩
  rw [hw2] at B2 P1 P2 HVA HVB
  have BB := Lib.hid B2
  have HP1 := Lib.hid P1
  have HP2 := Lib.hid P2
  have CA := wis.l10Both x y wh _ xss x' y' wh' _ yss w2 HVA.out HVB.out hn hn'
  clear h h' B2 P1 P2
  have HR := Lib.hid (res_no (x := x) (y := y) (wh := wh) (xss := xss) (x' := x') (y' := y') (wh' := wh') (yss := yss) (k := k) (fun hh => hk hh.2))
  rw [ok2B_yes hok] at CA
  have HA := Lib.hid CA
  have HK := Lib.hid hk
  clear CA hok hk hn hn'
  go_enter Try.func45, Try.ntmps45
  obtain ⟨c0, c1, c2, c3, c4⟩ := four_cells HP1.out
  obtain ⟨d0, d1, d2, d3, d4⟩ := four_cells HP2.out
  go_wp2_with fail
  clear hw2
  refine HA.out.mono ?_
  rintro e w3 ⟨rfl, hb⟩
  have B3 := Lib.hid (below_tr BB.out hb)
  clear hb c0 c1 c2 c3 c4 d0 d1 d2 d3 d4
  go_wp2_with fail
  refine (eqm.kind_no k _ HK.out).mono ?_
  rintro e w4 ⟨rfl, rfl⟩
  go_wp2_with fail
  refine bodyPost_ret (v := .tuple #[.slice (some ⟨w3.heap.size, 0, none⟩) 0 0, .slice (some ⟨w3.heap.size + 1, 0, none⟩) 0 0, .int .i64 0, .bool false]) (by simp [results, Try.results45, go_sem]) rfl ?_
  rw [HR.out]
  exact ⟨_, _, rfl, app.empty _ _ _ (Nat.zero_le _), app.empty _ _ _ (Nat.zero_le _), below_al (below_al B3.out _) _⟩
set_option maxRecDepth 100000 in
set_option maxHeartbeats 16000000 in
theorem spec_yes (x y wh : Int) (v : Value) (xss : List (List Int)) (x' y' wh' : Int) (v' : Value) (yss : List (List Int)) (m : Nat) (w : World) (h : IRows w v xss) (h' : IRows w v' yss) (hn : total xss ≤ 1048576) (hn' : total yss ≤ 1048576) (hk : m < 8) (hok : ok2 x y wh xss x' y' wh' yss) :
    Calls Try.prog 45 #[.agg #[.int .i64 x, .int .i64 y, .int .i64 wh, v], .agg #[.int .i64 x', .int .i64 y', .int .i64 wh', v'], .int .i64 (m : Int)] w fun e w' => ∃ u u', e = .returned (.tuple #[u, u', .int .i64 (res x y wh xss x' y' wh' yss (m : Int)).v, .bool (res x y wh xss x' y' wh' yss (m : Int)).ok]) ∧ Ints w' u (res x y wh xss x' y' wh' yss (m : Int)).f ∧ Ints w' u' (res x y wh xss x' y' wh' yss (m : Int)).s ∧ Below w.heap.size w w' := by
  obtain ⟨va, vn, vc, rfl⟩ := h.shape
  obtain ⟨ua, un, uc, rfl⟩ := h'.shape
  have B2 := below_al (below_al (Below.refl w.heap.size w) (.cells #[.int .i64 x, .int .i64 y, .int .i64 wh, .slice va vn vc] 48)) (.cells #[.int .i64 x', .int .i64 y', .int .i64 wh', .slice ua un uc] 48)
  have P1 := (Blk.new w 48 #[.int .i64 x, .int .i64 y, .int .i64 wh, .slice va vn vc]).alloc (.cells #[.int .i64 x', .int .i64 y', .int .i64 wh', .slice ua un uc] 48)
  have P2 : Blk ((w.alloc (.cells #[.int .i64 x, .int .i64 y, .int .i64 wh, .slice va vn vc] 48)).alloc (.cells #[.int .i64 x', .int .i64 y', .int .i64 wh', .slice ua un uc] 48)) (w.heap.size + 1) 48 #[.int .i64 x', .int .i64 y', .int .i64 wh', .slice ua un uc] := by have := Blk.new (w.alloc (.cells #[.int .i64 x, .int .i64 y, .int .i64 wh, .slice va vn vc] 48)) 48 #[.int .i64 x', .int .i64 y', .int .i64 wh', .slice ua un uc]; simpa using this
  have HVA := Lib.hid (h.below B2)
  have HVB := Lib.hid (h'.below B2)
  obtain ⟨w2, hw2⟩ : ∃ w2, ((w.alloc (.cells #[.int .i64 x, .int .i64 y, .int .i64 wh, .slice va vn vc] 48)).alloc (.cells #[.int .i64 x', .int .i64 y', .int .i64 wh', .slice ua un uc] 48)) = w2 := ⟨_, rfl⟩
  rw [hw2] at B2 P1 P2 HVA HVB
  have BB := Lib.hid B2
  have HP1 := Lib.hid P1
  have HP2 := Lib.hid P2
  have CA := wis.l10Both x y wh _ xss x' y' wh' _ yss w2 HVA.out HVB.out hn hn'
  clear h h' B2 P1 P2
  have HK := Lib.hid (show 0 ≤ (m : Int) ∧ (m : Int) ≤ 7 from by omega)
  obtain ⟨g, hg⟩ : ∃ g : Nat → Int, G x y wh xss x' y' wh' yss m = g := ⟨_, rfl⟩
  have HR : Hid (res x y wh xss x' y' wh' yss (m : Int) = ⟨fs g 256, sc g 256, mo g 256, true⟩) := Lib.hid (by
    rw [res_yes ⟨hok, HK.out⟩]
    simp only [best, Int.toNat_natCast, hg]
    exact ans_pos g (by decide))
  rw [ok2B_yes hok] at CA
  have HA := Lib.hid CA
  have HSU := Lib.hid (fun (i n : Nat) (hn : n < 16) (r : Value) (W : World) (hr : IRows W r (make.rowsOf (wrm.N xss yss (sumR (at_ 4 i)).f (sumR (at_ 4 i)).k (sumR (at_ 4 i)).s (sumR (at_ 4 n)).f (sumR (at_ 4 n)).k (sumR (at_ 4 n)).s) 4)) => (show Calls Try.prog 96 #[.agg #[.int .i64 2, .int .i64 2, .int .i64 (wh * wh'), r]] W fun e w' => ∃ b o c, e = .returned (.slice (some ⟨b, o, none⟩) 8 c) ∧ w'.cell? ⟨b, o + m, none⟩ = some (.int .i64 (g (16 * i + n))) ∧ Below W.heap.size W w' from by
    have hc := sume.l6sums (wh * wh') r _ W hr (wrm.box_ok hok.1.1 hok.1.2 (rule_of (at_within i)) (rule_of (at_within n)) hok.2)
    refine hc.mono ?_
    rintro e w' ⟨u, rfl, hu, hb⟩
    obtain ⟨b, o, c, rfl, hcell⟩ := int_cell hu (k := m) (by rw [sume.len_up]; exact hk)
    rw [sume.len_up]
    refine ⟨b, o, c, rfl, hcell.trans ?_, hb⟩
    rw [← hg]
    unfold G sv
    rw [(place i n hn).1, (place i n hn).2, wr_yes hok (at_within i) (at_within n)]
    simp [sume.up]))
  have hok2 := hok
  obtain ⟨⟨hta, htb⟩, hwb⟩ := hok2
  have hta' := hta
  have htb' := htb
  obtain ⟨_, rfl, rfl⟩ := hta'
  obtain ⟨_, rfl, rfl⟩ := htb'
  have HWR := Lib.hid (fun (i n : Nat) (W : World) (hb : Below w2.heap.size w2 W) (sv1 u1 nv1 sv2 u2 nv2 : Value) (r1 : RV W sv1 (sumR (at_ 4 i)).f u1 (sumR (at_ 4 i)).k nv1 (sumR (at_ 4 i)).s) (r2 : RV W sv2 (sumR (at_ 4 n)).f u2 (sumR (at_ 4 n)).k nv2 (sumR (at_ 4 n)).s) => (show Calls Try.prog 84 #[.agg #[.int .i64 2, .int .i64 2, .int .i64 wh, .slice va vn vc], .agg #[.int .i64 2, .int .i64 2, .int .i64 wh', .slice ua un uc], .agg #[sv1, u1, nv1], .agg #[sv2, u2, nv2]] W fun e w' => ∃ r, e = .returned (.agg #[.int .i64 2, .int .i64 2, .int .i64 (wh * wh'), r]) ∧ IRows w' r (make.rowsOf (wrm.N xss yss (sumR (at_ 4 i)).f (sumR (at_ 4 i)).k (sumR (at_ 4 i)).s (sumR (at_ 4 n)).f (sumR (at_ 4 n)).k (sumR (at_ 4 n)).s) 4) ∧ Below W.heap.size W w' from
    (wis.l10Wire wh wh' _ xss _ yss sv1 _ u1 _ nv1 _ sv2 _ u2 _ nv2 _ W (HVA.out.below hb) (HVB.out.below hb) hta htb r1 r2 (rule_of (at_within i)) (rule_of (at_within n))).mono fun _ _ ⟨r, he, hr, hb⟩ => ⟨r, he, hr.rows, hb⟩))
  have hmz : (m : Int) < 8 := by omega
  clear hg hok hn hn' CA hk hta htb hwb
  go_enter Try.func45, Try.ntmps45
  obtain ⟨c0, c1, c2, c3, c4⟩ := four_cells HP1.out
  obtain ⟨d0, d1, d2, d3, d4⟩ := four_cells HP2.out
  go_wp2_with fail
  clear hw2
  refine HA.out.mono ?_
  rintro e w3 ⟨rfl, hb⟩
  have B3 := Lib.hid hb
  clear hb c0 c1 c2 c3 c4 d0 d1 d2 d3 d4
  go_wp2_with fail
  refine (eqm.kind_yes _ _ HK.out).mono ?_
  rintro e w3' ⟨rfl, rfl⟩
  go_wp2_with fail
  refine (asks _).mono ?_
  rintro e w4 ⟨b, o, c, R, rfl, hR, hb⟩
  have B4 := Lib.hid (below_tr B3.out hb)
  have K5 := below_al (below_al (Below.refl w4.heap.size w4) (.cells #[] 3)) (.cells #[] 3)
  have HR5 := Lib.hid (fun k hk => And.intro (below_cell K5 _ _ (hR k hk).1) ((hR k hk).2.below K5))
  have BB5 := Lib.hid (below_tr B4.out K5)
  obtain ⟨w5, hw5⟩ : ∃ w5, (w4.alloc (.cells #[] 3)).alloc (.cells #[] 3) = w5 := ⟨_, rfl⟩
  rw [hw5] at HR5 BB5 K5
  have HCC := Lib.hid HR5.out
  clear hR hb K5 HR5
  go_wp2_with fail
  clear hw5
  go_loopw [11, 12, 13, 14, 15, 16, 17, 18, 19, 20, 21] (fun fv sv mv ov iv z16 z17 z18 z19 z20 z21 wr => ∃ (i : Nat) (mm : Int) (fb : Bool), i ≤ 16 ∧ iv = .int .i64 i ∧ mv = .int .i64 mm ∧ Hid (mm = mo g (16 * i)) ∧ ov = .bool fb ∧ Hid (fb = true ↔ (16 * i) ≠ 0) ∧ (∃ z, z16 = z) ∧ (∃ z, z17 = z) ∧ (∃ z, z18 = z) ∧ (∃ z, z19 = z) ∧ (∃ z, z20 = z) ∧ (∃ z, z21 = z) ∧ Hid (Ints wr fv (fs g (16 * i))) ∧ Hid (Ints wr sv (sc g (16 * i))) ∧ Hid (Below w5.heap.size w5 wr)) (fun _ _ _ _ iv _ _ _ _ _ _ _ => 16 - (intOf iv).toNat)
  case atStart => exact ⟨0, 0, false, Nat.zero_le _, rfl, rfl, Lib.hid rfl, rfl, Lib.hid (by simp), ⟨_, rfl⟩, ⟨_, rfl⟩, ⟨_, rfl⟩, ⟨_, rfl⟩, ⟨_, rfl⟩, ⟨_, rfl⟩, Lib.hid (app.empty _ _ _ (Nat.zero_le _)), Lib.hid (app.empty _ _ _ (Nat.zero_le _)), Lib.hid (Below.refl _ _)⟩
  case round =>
    obtain ⟨i, mm, fb, hi, rfl, rfl, hm, rfl, hf, ⟨z16, rfl⟩, ⟨z17, rfl⟩, ⟨z18, rfl⟩, ⟨z19, rfl⟩, ⟨z20, rfl⟩, ⟨z21, rfl⟩, hF, hS, hB⟩ := hrel
    obtain ⟨wo, rfl⟩ : ∃ wo : World, wo = wr := ⟨_, rfl⟩
    by_cases hlo : i < 16
    · have hiz : (i : Int) < 16 := by omega
      go_wp2_with fail
      go_loopw [11, 12, 13, 14, 16, 17, 18, 19, 20, 21] (fun fv sv mv ov nv z17 z18 z19 z20 z21 wr => ∃ (n : Nat) (mm : Int) (fb : Bool), n ≤ 16 ∧ nv = .int .i64 n ∧ mv = .int .i64 mm ∧ Hid (mm = mo g (16 * i + n)) ∧ ov = .bool fb ∧ Hid (fb = true ↔ (16 * i + n) ≠ 0) ∧ (∃ z, z17 = z) ∧ (∃ z, z18 = z) ∧ (∃ z, z19 = z) ∧ (∃ z, z20 = z) ∧ (∃ z, z21 = z) ∧ Hid (Ints wr fv (fs g (16 * i + n))) ∧ Hid (Ints wr sv (sc g (16 * i + n))) ∧ Hid (Below w5.heap.size w5 wr)) (fun _ _ _ _ nv _ _ _ _ _ _ => 16 - (intOf nv).toNat)
      case atStart => exact ⟨0, mm, fb, Nat.zero_le _, rfl, rfl, hm, rfl, hf, ⟨_, rfl⟩, ⟨_, rfl⟩, ⟨_, rfl⟩, ⟨_, rfl⟩, ⟨_, rfl⟩, hF, hS, hB⟩
      case round =>
        clear hm hf hF hS hB
        obtain ⟨n, mm, fb, hn, rfl, rfl, hm, rfl, hf, ⟨z17, rfl⟩, ⟨z18, rfl⟩, ⟨z19, rfl⟩, ⟨z20, rfl⟩, ⟨z21, rfl⟩, hF, hS, hB⟩ := hrel
        obtain ⟨wi, rfl⟩ : ∃ wi : World, wi = wr := ⟨_, rfl⟩
        by_cases hlt : n < 16
        · have hnz : (n : Int) < 16 := by omega
          by_cases hp0 : 16 * i + n = 0
          · have HP0 := Lib.hid hp0
            obtain rfl : fb = false := by
              cases fb with
              | false => rfl
              | true => exact absurd hp0 (hf.out.1 rfl)
            clear hp0
            obtain ⟨ci, cI⟩ := HCC.out i (by omega)
            obtain ⟨cn, cN⟩ := HCC.out n (by omega)
            have HLT := Lib.hid hlt
            have HI := Lib.hid (And.intro trivial (cI.below hB.out))
            have HN := Lib.hid (And.intro trivial (cN.below hB.out))
            obtain ⟨ri, hri⟩ : ∃ ri, R i = ri := ⟨_, rfl⟩
            obtain ⟨rn, hrn⟩ : ∃ rn, R n = rn := ⟨_, rfl⟩
            rw [hri] at ci HI
            rw [hrn] at cn HN
            obtain ⟨ia, il, ic, rfl⟩ := HI.out.2.shape
            obtain ⟨na, nl, nc, rfl⟩ := HN.out.2.shape
            have fi := below_cell hB.out _ _ ci
            have fn := below_cell hB.out _ _ cn
            have HS1 := Lib.hid (rby.spec_sumby _ (at_ 4 i) wi HI.out.2)
            have HFN := Lib.hid fn
            have HRI := Lib.hid hri
            have HRN := Lib.hid hrn
            clear ci cn cI cN hri hrn fn
            go_wp2_with fail
            refine HS1.out.mono ?_
            rintro e w7 ⟨sv1, u1, nv1, rfl, hO, hb⟩
            obtain ⟨a0, a1, a2, a3, a4, a5, a6, a7, a8, rfl, rfl, rfl⟩ := hO.shape
            have C7 := below_al hb (.cells #[.slice a0 a1 a2, .slice a3 a4 a5, .slice a6 a7 a8] 28)
            have HC7 := Lib.hid C7
            have HO1 := Lib.hid (hO.below (below_al (Below.refl _ _) (.cells #[.slice a0 a1 a2, .slice a3 a4 a5, .slice a6 a7 a8] 28)))
            have N1 := Lib.hid (Blk.new w7 28 #[.slice a0 a1 a2, .slice a3 a4 a5, .slice a6 a7 a8])
            have HS2 := Lib.hid (rby.spec_sumby _ (at_ 4 n) _ (HN.out.2.below C7))
            have fn := below_cell C7 _ _ HFN.out
            clear hO hb C7 HS1 fi
            go_wp2_with fail
            refine HS2.out.mono ?_
            rintro e w8 ⟨sv2, u2, nv2, rfl, hO, hb⟩
            obtain ⟨b0, b1, b2, b3, b4, b5, b6, b7, b8, rfl, rfl, rfl⟩ := hO.shape
            have C8 := below_al (below_tr (Below.refl _ _) hb) (.cells #[.slice b0 b1 b2, .slice b3 b4 b5, .slice b6 b7 b8] 28)
            have D8 := below_tr HC7.out C8
            have E8 := below_tr BB5.out (below_tr hB.out D8)
            have HO2 := hO.below (below_al (Below.refl _ _) (.cells #[.slice b0 b1 b2, .slice b3 b4 b5, .slice b6 b7 b8] 28))
            obtain ⟨p0, p1, p2, p3, p4⟩ := four_cells (HP1.out.below E8)
            obtain ⟨q0, q1, q2, q3, q4⟩ := four_cells (HP2.out.below E8)
            obtain ⟨m0, m1, m2, m3⟩ := three_cells (N1.out.below C8)
            obtain ⟨n0, n1, n2, n3⟩ := three_cells (Blk.new w8 28 #[.slice b0 b1 b2, .slice b3 b4 b5, .slice b6 b7 b8])
            have HWI := Lib.hid (HWR.out i n _ E8 _ _ _ _ _ _ (HO1.out.below C8) HO2)
            have HD8 := Lib.hid D8
            clear hO hb C8 D8 E8 HO2 HS2 HC7 HO1 N1 fn
            go_wp2_with fail
            refine HWI.out.mono ?_
            rintro e w9 ⟨r9, rfl, hr, hb⟩
            have HL := Lib.hid (HSU.out i n HLT.out r9 w9 hr)
            have D9 := Lib.hid (below_tr HD8.out hb)
            clear hr hb HWI p0 p1 p2 p3 p4 q0 q1 q2 q3 q4 m0 m1 m2 m3 n0 n1 n2 n3
            go_wp2_with fail
            refine HL.out.mono ?_
            rintro e w10 ⟨gb, go, gc, rfl, hcell, hb⟩
            have HDN := Lib.hid (below_tr D9.out hb)
            have HF9 := Lib.hid (hF.out.below (below_tr D9.out hb))
            have HS9 := Lib.hid (hS.out.below (below_tr D9.out hb))
            have HB9 := Lib.hid (below_tr hB.out (below_tr D9.out hb))
            obtain ⟨ci, cI⟩ := HCC.out i (by omega)
            obtain ⟨cn, cN⟩ := HCC.out n (by omega)
            have fi := below_cell HB9.out _ _ ci
            have fn := below_cell HB9.out _ _ cn
            rw [HRI.out] at fi
            rw [HRN.out] at fn
            clear ci cn cI cN hb HL hF hS
            have H1 := Lib.hid (st_new (g := g) (p := 16 * i + n) (.inl HP0.out))
            go_wp2_with fail
            go_roundw
            case rel => exact ⟨n + 1, g (16 * i + n), true, by omega, by go_num, rfl, Lib.hid H1.out.2.2.symm, rfl, Lib.hid ⟨fun _ => by omega, fun _ => rfl⟩, ⟨_, rfl⟩, ⟨_, rfl⟩, ⟨_, rfl⟩, ⟨_, rfl⟩, ⟨_, rfl⟩, Lib.hid (by rw [show 16 * i + (n + 1) = 16 * i + n + 1 from rfl, H1.out.1]; rw [(place i n HLT.out).1]; exact (HI.out.2.below HDN.out)), Lib.hid (by rw [show 16 * i + (n + 1) = 16 * i + n + 1 from rfl, H1.out.2.1]; rw [(place i n HLT.out).2]; exact (HN.out.2.below HDN.out)), HB9⟩
            case measure => simp [intOf]; omega
          · have HP0 := Lib.hid hp0
            obtain rfl : fb = true := hf.out.2 hp0
            clear hp0
            obtain ⟨ci, cI⟩ := HCC.out i (by omega)
            obtain ⟨cn, cN⟩ := HCC.out n (by omega)
            have HLT := Lib.hid hlt
            have HI := Lib.hid (And.intro trivial (cI.below hB.out))
            have HN := Lib.hid (And.intro trivial (cN.below hB.out))
            obtain ⟨ri, hri⟩ : ∃ ri, R i = ri := ⟨_, rfl⟩
            obtain ⟨rn, hrn⟩ : ∃ rn, R n = rn := ⟨_, rfl⟩
            rw [hri] at ci HI
            rw [hrn] at cn HN
            obtain ⟨ia, il, ic, rfl⟩ := HI.out.2.shape
            obtain ⟨na, nl, nc, rfl⟩ := HN.out.2.shape
            have fi := below_cell hB.out _ _ ci
            have fn := below_cell hB.out _ _ cn
            have HS1 := Lib.hid (rby.spec_sumby _ (at_ 4 i) wi HI.out.2)
            have HFN := Lib.hid fn
            have HRI := Lib.hid hri
            have HRN := Lib.hid hrn
            clear ci cn cI cN hri hrn fn
            go_wp2_with fail
            refine HS1.out.mono ?_
            rintro e w7 ⟨sv1, u1, nv1, rfl, hO, hb⟩
            obtain ⟨a0, a1, a2, a3, a4, a5, a6, a7, a8, rfl, rfl, rfl⟩ := hO.shape
            have C7 := below_al hb (.cells #[.slice a0 a1 a2, .slice a3 a4 a5, .slice a6 a7 a8] 28)
            have HC7 := Lib.hid C7
            have HO1 := Lib.hid (hO.below (below_al (Below.refl _ _) (.cells #[.slice a0 a1 a2, .slice a3 a4 a5, .slice a6 a7 a8] 28)))
            have N1 := Lib.hid (Blk.new w7 28 #[.slice a0 a1 a2, .slice a3 a4 a5, .slice a6 a7 a8])
            have HS2 := Lib.hid (rby.spec_sumby _ (at_ 4 n) _ (HN.out.2.below C7))
            have fn := below_cell C7 _ _ HFN.out
            clear hO hb C7 HS1 fi
            go_wp2_with fail
            refine HS2.out.mono ?_
            rintro e w8 ⟨sv2, u2, nv2, rfl, hO, hb⟩
            obtain ⟨b0, b1, b2, b3, b4, b5, b6, b7, b8, rfl, rfl, rfl⟩ := hO.shape
            have C8 := below_al (below_tr (Below.refl _ _) hb) (.cells #[.slice b0 b1 b2, .slice b3 b4 b5, .slice b6 b7 b8] 28)
            have D8 := below_tr HC7.out C8
            have E8 := below_tr BB5.out (below_tr hB.out D8)
            have HO2 := hO.below (below_al (Below.refl _ _) (.cells #[.slice b0 b1 b2, .slice b3 b4 b5, .slice b6 b7 b8] 28))
            obtain ⟨p0, p1, p2, p3, p4⟩ := four_cells (HP1.out.below E8)
            obtain ⟨q0, q1, q2, q3, q4⟩ := four_cells (HP2.out.below E8)
            obtain ⟨m0, m1, m2, m3⟩ := three_cells (N1.out.below C8)
            obtain ⟨n0, n1, n2, n3⟩ := three_cells (Blk.new w8 28 #[.slice b0 b1 b2, .slice b3 b4 b5, .slice b6 b7 b8])
            have HWI := Lib.hid (HWR.out i n _ E8 _ _ _ _ _ _ (HO1.out.below C8) HO2)
            have HD8 := Lib.hid D8
            clear hO hb C8 D8 E8 HO2 HS2 HC7 HO1 N1 fn
            go_wp2_with fail
            refine HWI.out.mono ?_
            rintro e w9 ⟨r9, rfl, hr, hb⟩
            have HL := Lib.hid (HSU.out i n HLT.out r9 w9 hr)
            have D9 := Lib.hid (below_tr HD8.out hb)
            clear hr hb HWI p0 p1 p2 p3 p4 q0 q1 q2 q3 q4 m0 m1 m2 m3 n0 n1 n2 n3
            go_wp2_with fail
            refine HL.out.mono ?_
            rintro e w10 ⟨gb, go, gc, rfl, hcell, hb⟩
            have HDN := Lib.hid (below_tr D9.out hb)
            have HF9 := Lib.hid (hF.out.below (below_tr D9.out hb))
            have HS9 := Lib.hid (hS.out.below (below_tr D9.out hb))
            have HB9 := Lib.hid (below_tr hB.out (below_tr D9.out hb))
            obtain ⟨ci, cI⟩ := HCC.out i (by omega)
            obtain ⟨cn, cN⟩ := HCC.out n (by omega)
            have fi := below_cell HB9.out _ _ ci
            have fn := below_cell HB9.out _ _ cn
            rw [HRI.out] at fi
            rw [HRN.out] at fn
            clear ci cn cI cN hb HL hF hS
            by_cases hlt2 : mm < g (16 * i + n)
            · have dq : decide (mm < g (16 * i + n)) = true := by simp [hlt2]
              have H1 := Lib.hid (st_new (g := g) (p := 16 * i + n) (.inr (hm.out ▸ hlt2)))
              clear hlt2
              go_wp2_with fail
              go_roundw
              case rel => exact ⟨n + 1, g (16 * i + n), true, by omega, by go_num, rfl, Lib.hid H1.out.2.2.symm, rfl, Lib.hid ⟨fun _ => by omega, fun _ => rfl⟩, ⟨_, rfl⟩, ⟨_, rfl⟩, ⟨_, rfl⟩, ⟨_, rfl⟩, ⟨_, rfl⟩, Lib.hid (by rw [show 16 * i + (n + 1) = 16 * i + n + 1 from rfl, H1.out.1]; rw [(place i n HLT.out).1]; exact (HI.out.2.below HDN.out)), Lib.hid (by rw [show 16 * i + (n + 1) = 16 * i + n + 1 from rfl, H1.out.2.1]; rw [(place i n HLT.out).2]; exact (HN.out.2.below HDN.out)), HB9⟩
              case measure => simp [intOf]; omega
            · have dq : decide (mm < g (16 * i + n)) = false := by simp; omega
              have H1 := Lib.hid (st_old (g := g) (p := 16 * i + n) HP0.out (hm.out ▸ hlt2))
              clear hlt2
              go_wp2_with fail
              go_roundw
              case rel => exact ⟨n + 1, mm, true, by omega, by go_num, rfl, Lib.hid (hm.out.trans H1.out.2.2.symm), rfl, Lib.hid ⟨fun _ => by omega, fun _ => rfl⟩, ⟨_, rfl⟩, ⟨_, rfl⟩, ⟨_, rfl⟩, ⟨_, rfl⟩, ⟨_, rfl⟩, Lib.hid (by rw [show 16 * i + (n + 1) = 16 * i + n + 1 from rfl, H1.out.1]; exact HF9.out), Lib.hid (by rw [show 16 * i + (n + 1) = 16 * i + n + 1 from rfl, H1.out.2.1]; exact HS9.out), HB9⟩
              case measure => simp [intOf]; omega
        · have hnz : ¬ (n : Int) < 16 := by omega
          obtain rfl : n = 16 := by omega
          go_wp2_with fail
          go_roundw
          case rel => exact ⟨i + 1, mm, fb, by omega, by go_num, rfl, hm, rfl, hf, ⟨_, rfl⟩, ⟨_, rfl⟩, ⟨_, rfl⟩, ⟨_, rfl⟩, ⟨_, rfl⟩, ⟨_, rfl⟩, hF, hS, hB⟩
          case measure => simp [intOf]; omega
    · have hiz : ¬ (i : Int) < 16 := by omega
      obtain rfl : i = 16 := by omega
      have HLE := Lib.hid (len_st g)
      have HO1 := Lib.hid (own.l1own_any _ _ wo hF.out (HLE.out 256).1)
      go_wp2_with fail
      refine HO1.out.mono ?_
      rintro e w7 ⟨r1, rfl, hr1, hb⟩
      have B7 := Lib.hid hb
      have I7 := Lib.hid (app.ints_of_owns hr1).ints
      have HO2 := Lib.hid (own.l1own_any _ _ w7 (hS.out.below hb) (HLE.out 256).2)
      clear hr1 hb
      go_wp2_with fail
      refine HO2.out.mono ?_
      rintro e w8 ⟨r2, rfl, hr2, hb⟩
      have I8 := Lib.hid (I7.out.below hb)
      have J8 := Lib.hid (app.ints_of_owns hr2).ints
      have B8 := Lib.hid (below_tr BB.out (below_tr BB5.out (below_tr hB.out (below_tr B7.out hb))))
      clear hr2 hb
      go_wp2_with fail
      refine bodyPost_ret (v := .tuple #[r1, r2, .int .i64 mm, .bool true]) (by simp [results, Try.results45, go_sem]) rfl ?_
      rw [HR.out]
      exact ⟨_, _, by rw [hm.out], I8.out, J8.out, B8.out⟩
theorem spec_any (x y wh : Int) (v : Value) (xss : List (List Int)) (x' y' wh' : Int) (v' : Value) (yss : List (List Int)) (k : Int) (w : World) (h : IRows w v xss) (h' : IRows w v' yss) (hn : total xss ≤ 1048576) (hn' : total yss ≤ 1048576) :
    Calls Try.prog 45 #[.agg #[.int .i64 x, .int .i64 y, .int .i64 wh, v], .agg #[.int .i64 x', .int .i64 y', .int .i64 wh', v'], .int .i64 k] w fun e w' => ∃ u u', e = .returned (.tuple #[u, u', .int .i64 (res x y wh xss x' y' wh' yss k).v, .bool (res x y wh xss x' y' wh' yss k).ok]) ∧ Ints w' u (res x y wh xss x' y' wh' yss k).f ∧ Ints w' u' (res x y wh xss x' y' wh' yss k).s ∧ Below w.heap.size w w' := by
  by_cases hok : ok2 x y wh xss x' y' wh' yss
  · by_cases hk : 0 ≤ k ∧ k ≤ 7
    · obtain ⟨m, rfl⟩ : ∃ m : Nat, k = (m : Int) := ⟨k.toNat, by omega⟩
      exact spec_yes x y wh v xss x' y' wh' v' yss m w h h' hn hn' (by omega) hok
    · exact spec_kind x y wh v xss x' y' wh' v' yss k w h h' hn hn' hok hk
  · exact spec_bad x y wh v xss x' y' wh' v' yss k w h h' hn hn' hok


end Go.Proofs.Ytneonebgneonkaa.bam
