/- BestPlay of the model. -/
import Derived.Test.YtkajebhagkbcaacGbpi
namespace Go.Proofs.Ytkajebhagkbcaac.gbp
open Go.RowKit Go.Deep Go.Proofs.Ytkajebhagkbcaac.base
open Go.Proofs.Ytkajebhagkbcaac.rws (total)
open Go.Proofs.Ytkajebhagkbcaac.val (okSizes)
open Go.Proofs.Ytkajebhagkbcaac.gval (okGame gameB gameB_yes gameB_no)
open Go.Proofs.Ytkajebhagkbcaac.gscore (score)
open Go.Proofs.Ytkajebhagkbcaac.gbm (stp best am S)
open Go.Proofs.Ytkajebhagkbcaac.plays (at_ bit len_at)

theorem held5 {w w' : World} {p1 p2 p3 p4 p5 : Addr} {u1 u2 u3 u4 u5 : Value} (h1 : w.cell? p1 = some u1) (h2 : w.cell? p2 = some u2) (h3 : w.cell? p3 = some u3) (h4 : w.cell? p4 = some u4)
    (h5 : w.cell? p5 = some u5) (hb : Below w.heap.size w w') :
    w'.cell? p1 = some u1 ∧ w'.cell? p2 = some u2 ∧ w'.cell? p3 = some u3 ∧ w'.cell? p4 = some u4 ∧ w'.cell? p5 = some u5 ∧ Below w.heap.size w w' :=
  ⟨below_cell hb _ _ h1, below_cell hb _ _ h2, below_cell hb _ _ h3, below_cell hb _ _ h4, below_cell hb _ _ h5, hb⟩


set_option maxRecDepth 100000 in
set_option maxHeartbeats 8000000 in
theorem l4best (X Y : Nat) (v : Value) (ws : List Int) (u : Value) (xss : List (List Int)) (w : World) (h : game.GV w v ws u xss) (hok : okGame X Y ws xss) :
    Calls Try.prog 67 #[.agg #[.int .i64 (X : Int), .int .i64 (Y : Int), v, u]] w fun e w' => ∃ u', e = .returned u' ∧ Ints w' u' (best X Y ws xss) ∧ Below w.heap.size w w' := by
  obtain ⟨va, vn, vc, ua, un, uc, rfl, rfl⟩ := h.shape
  have H := Lib.hid h
  have hX3 : X ≤ 3 := by have := hok.1.1.2; omega
  have hY3 : Y ≤ 3 := by have := hok.1.2.2; omega
  have HPL := Lib.hid (fun (W : World) => plays.l2plays X Y W hok.1)
  have HB := Lib.hid (gbm.best_at X Y ws xss hX3 hY3)
  obtain ⟨c, hc⟩ : ∃ c : Nat, 2 ^ (X + Y) = c := ⟨_, rfl⟩
  have hc64 : c ≤ 64 := by rw [← hc]; exact plays.two_pow (by omega)
  have hc1 : 1 ≤ c := by rw [← hc]; exact Nat.two_pow_pos (X + Y)
  have hall : plays.all ((X : Int) + (Y : Int)).toNat = plays.upto (X + Y) c := by
    rw [show ((X : Int) + (Y : Int)).toNat = X + Y by omega, ← hc]; rfl
  rw [hall] at HPL
  have hlen : (plays.upto (X + Y) c).length = c := plays.len_upto _ _
  have hget : ∀ k (hk : k < (plays.upto (X + Y) c).length), (plays.upto (X + Y) c)[k] = at_ (X + Y) k := fun k hk => by simp [plays.upto]
  have K0 := Lib.hid (Blk.new w 28 #[.int .i64 (X : Int), .int .i64 (Y : Int), .slice va vn vc, .slice ua un uc])
  have B0 := Lib.hid (below_al (Below.refl w.heap.size w) (.cells #[.int .i64 (X : Int), .int .i64 (Y : Int), .slice va vn vc, .slice ua un uc] 28))
  have HOK := Lib.hid hok
  have HAC := Lib.hid hc
  have HLEN := Lib.hid hlen
  have HGET := Lib.hid hget
  obtain ⟨c0, c1, c2, c3, c4⟩ := four_cells K0.out
  clear h hok hc hall hlen hget
  go_enter Try.func67, Try.ntmps67
  go_wp2_with fail
  refine (HPL.out _).mono ?_
  rintro e w1 ⟨pu, rfl, hu, hb⟩
  obtain ⟨A, b, o, cap, R, rfl, _, _, hA, hcell⟩ := hu.rows.form
  have hcell : ∀ k, k < c → w1.cell? ⟨b, o + k, none⟩ = some (R k) ∧ Ints w1 (R k) (at_ (X + Y) k) := fun k hk => by
    have := hcell k (by rw [HLEN.out]; exact hk)
    rw [HGET.out] at this
    exact this
  obtain rfl := hA (by rw [HLEN.out]; omega)
  have HCE := Lib.hid hcell
  have B1 := Lib.hid (below_tr B0.out hb)
  have K1 := Lib.hid (K0.out.below hb)
  have HL2 := HLEN.out
  have HBW : Hid (Below w1.heap.size w1 w1) := Lib.hid (Below.refl _ _)
  rw [HL2]
  have g0 : w1.cell? ⟨b, o, none⟩ = some (R 0) := by simpa using (HCE.out 0 (by omega)).1
  have hcz : (0 : Int) < (c : Int) := by omega
  clear HL2 hA hcell hb hu c0 c1 c2 c3 c4 K0 B0 HPL
  obtain ⟨c0, c1, c2, c3, c4⟩ := four_cells K1.out
  have HSC : Hid (∀ (W : World) (k : Nat), Below w1.heap.size w1 W → k < c → Calls Try.prog 60 #[.agg #[.int .i64 (X : Int), .int .i64 (Y : Int), .slice va vn vc, .slice ua un uc], R k] W fun e w' => e = .returned (.int .i64 (S X Y ws xss k)) ∧ Below W.heap.size W w') := Lib.hid (fun W k hW hk => by
    refine gscore.l4score X Y _ ws _ xss _ (at_ (X + Y) k) W (H.out.below (below_tr B1.out hW)) ((HCE.out k hk).2.below hW) HOK.out ?_
    have := at_within (X + Y) k
    rw [Int.natCast_add] at this
    exact this)
  go_wp2_with fail
  clear c0 c1 c2 c3 c4 g0
  go_loopw [4, 5] (fun bv i wr => ∃ k : Nat, 1 ≤ k ∧ k ≤ c ∧ i = .int .i64 k ∧ ∃ m : Nat, m < c ∧ bv = R m ∧ Hid (am (S X Y ws xss) (k - 1) = m) ∧ Hid (Below w1.heap.size w1 wr)) (fun _ i _ => c - (intOf i).toNat)
  case atStart => exact ⟨1, Nat.le_refl _, hc1, rfl, 0, by omega, rfl, Lib.hid rfl, HBW⟩
  case round =>
    obtain ⟨k, hk1, hk2, rfl, m, hmc, rfl, hM, hB⟩ := hrel
    clear HBW
    obtain ⟨wi, rfl⟩ : ∃ wi : World, wi = wr := ⟨_, rfl⟩
    by_cases hlt : k < c
    · have hkz : (k : Int) < (c : Int) := by omega
      obtain ⟨c0, c1, c2, c3, c4⟩ := four_cells (K1.out.below hB.out)
      have f1 := below_cell hB.out _ _ (HCE.out k hlt).1
      obtain ⟨q1, hq1⟩ : ∃ q, S X Y ws xss k = q := ⟨_, rfl⟩
      obtain ⟨q2, hq2⟩ : ∃ q, S X Y ws xss m = q := ⟨_, rfl⟩
      have HSk : Hid (∀ W, Below wi.heap.size wi W → Calls Try.prog 60 #[.agg #[.int .i64 (X : Int), .int .i64 (Y : Int), .slice va vn vc, .slice ua un uc], R k] W fun e w' => e = .returned (.int .i64 q1) ∧ Below W.heap.size W w') := Lib.hid (fun W hW => by have := HSC.out W k (below_tr hB.out hW) hlt; rw [hq1] at this; exact this)
      have HSm : Hid (∀ W, Below wi.heap.size wi W → Calls Try.prog 60 #[.agg #[.int .i64 (X : Int), .int .i64 (Y : Int), .slice va vn vc, .slice ua un uc], R m] W fun e w' => e = .returned (.int .i64 q2) ∧ Below W.heap.size W w') := Lib.hid (fun W hW => by have := HSC.out W m (below_tr hB.out hW) hmc; rw [hq2] at this; exact this)
      have HQ1 := Lib.hid hq1
      have HQ2 := Lib.hid hq2
      have HLT := Lib.hid hlt
      obtain ⟨r1, hr1⟩ : ∃ r, R k = r := ⟨_, rfl⟩
      obtain ⟨r2, hr2⟩ : ∃ r, R m = r := ⟨_, rfl⟩
      have HR1 := Lib.hid hr1
      have HR2 := Lib.hid hr2
      rw [hr1] at HSk f1
      rw [hr2] at HSm
      rw [hr2]
      clear hq1 hq2 hr1 hr2
      by_cases hbetter : q2 < q1
      · have dq : decide (q2 < q1) = true := by simp [hbetter]
        have HAM : Hid (am (S X Y ws xss) (k + 1 - 1) = k) := Lib.hid (am_step_yes hk1 (by rw [hM.out, HQ1.out, HQ2.out]; exact hbetter))
        clear hbetter
        go_wp2_with fail
        go_region_held3 (fun w' => w'.cell? ⟨w.heap.size, 0, none⟩ = some (.int .i64 (X : Int)) ∧ w'.cell? ⟨w.heap.size, 1, none⟩ = some (.int .i64 (Y : Int)) ∧ w'.cell? ⟨w.heap.size, 2, none⟩ = some (.slice va vn vc) ∧ w'.cell? ⟨w.heap.size, 3, none⟩ = some (.slice ua un uc) ∧ w'.cell? ⟨b, o + k, none⟩ = some r1 ∧ Below wi.heap.size wi w')
          (((with_reducible refine held5 c0 c1 c2 c3 f1 ?_); repeat (first | (with_reducible exact Below.refl _ _) | (with_reducible refine below_dr ?_) | (with_reducible refine below_tr ?_ (by assumption)))))
          (first
            | (go_at_call 60; (with_reducible refine (HSk.out _ ?_).mono ?_); (repeat (first | (with_reducible exact Below.refl _ _) | (with_reducible refine below_dr ?_) | (with_reducible refine below_tr ?_ (by assumption)))); rintro e wq1 ⟨rfl, hx1⟩)
            | (go_at_call 60; (with_reducible refine (HSm.out _ ?_).mono ?_); (repeat (first | (with_reducible exact Below.refl _ _) | (with_reducible refine below_dr ?_) | (with_reducible refine below_tr ?_ (by assumption)))); rintro e wq2 ⟨rfl, hx2⟩))
        have hbt : Below wi.heap.size wi wq2 := by
          repeat (first | (with_reducible exact Below.refl _ _) | (with_reducible refine below_dr ?_) | (with_reducible refine below_tr ?_ (by assumption)))
        have B2 := Lib.hid (below_tr hB.out hbt)
        have f1 := below_cell hbt _ _ f1
        clear hbt hx1 hx2 c0 c1 c2 c3 c4
        go_wp2_with fail
        go_roundw
        case rel => exact ⟨k + 1, by omega, by omega, by go_num, k, HLT.out, HR1.out.symm, HAM, B2⟩
        case measure => simp [intOf]; omega
      · have dq : decide (q2 < q1) = false := by simp only [decide_eq_false_iff_not]; exact hbetter
        have HAM : Hid (am (S X Y ws xss) (k + 1 - 1) = m) := Lib.hid (by rw [am_step_no hk1 (by rw [hM.out, HQ1.out, HQ2.out]; exact hbetter)]; exact hM.out)
        clear hbetter
        go_wp2_with fail
        go_region_held3 (fun w' => w'.cell? ⟨w.heap.size, 0, none⟩ = some (.int .i64 (X : Int)) ∧ w'.cell? ⟨w.heap.size, 1, none⟩ = some (.int .i64 (Y : Int)) ∧ w'.cell? ⟨w.heap.size, 2, none⟩ = some (.slice va vn vc) ∧ w'.cell? ⟨w.heap.size, 3, none⟩ = some (.slice ua un uc) ∧ w'.cell? ⟨b, o + k, none⟩ = some r1 ∧ Below wi.heap.size wi w')
          (((with_reducible refine held5 c0 c1 c2 c3 f1 ?_); repeat (first | (with_reducible exact Below.refl _ _) | (with_reducible refine below_dr ?_) | (with_reducible refine below_tr ?_ (by assumption)))))
          (first
            | (go_at_call 60; (with_reducible refine (HSk.out _ ?_).mono ?_); (repeat (first | (with_reducible exact Below.refl _ _) | (with_reducible refine below_dr ?_) | (with_reducible refine below_tr ?_ (by assumption)))); rintro e wq1 ⟨rfl, hx1⟩)
            | (go_at_call 60; (with_reducible refine (HSm.out _ ?_).mono ?_); (repeat (first | (with_reducible exact Below.refl _ _) | (with_reducible refine below_dr ?_) | (with_reducible refine below_tr ?_ (by assumption)))); rintro e wq2 ⟨rfl, hx2⟩))
        have hbt : Below wi.heap.size wi wq2 := by
          repeat (first | (with_reducible exact Below.refl _ _) | (with_reducible refine below_dr ?_) | (with_reducible refine below_tr ?_ (by assumption)))
        have B2 := Lib.hid (below_tr hB.out hbt)
        clear hbt hx1 hx2 c0 c1 c2 c3 c4 f1
        go_wp2_with fail
        go_roundw
        case rel => exact ⟨k + 1, by omega, by omega, by go_num, m, hmc, HR2.out.symm, HAM, B2⟩
        case measure => simp [intOf]; omega
    · have hkz : ¬ (k : Int) < (c : Int) := by omega
      obtain rfl : k = c := by omega
      have HI : Hid (Ints wi (R m) (best X Y ws xss)) := Lib.hid (by
        have h1 := ((HCE.out m hmc).2).below hB.out
        have h2 := HB.out.1
        rw [HAC.out, hM.out] at h2
        rw [h2] at h1
        exact h1)
      obtain ⟨r, hr⟩ : ∃ r, R m = r := ⟨_, rfl⟩
      rw [hr] at HI ⊢
      have B2 := Lib.hid (below_tr B1.out hB.out)
      obtain ⟨ra, rn, rc, rfl⟩ := HI.out.shape
      clear hr
      go_wp2_with fail
      go_ret
      exact ⟨_, rfl, HI.out, B2.out⟩



set_option maxRecDepth 100000 in
set_option maxHeartbeats 4000000 in
theorem spec_any (x y : Int) (v : Value) (ws : List Int) (u : Value) (xss : List (List Int)) (w : World) (h : game.GV w v ws u xss) (hn : ws.length ≤ 1048576) (hm : total xss ≤ 1048576) :
    Calls Try.prog 31 #[.agg #[.int .i64 x, .int .i64 y, v, u]] w fun e w' => ∃ u', e = .returned (.tuple #[u', .int .i64 (res x y ws xss).2.1, .bool (res x y ws xss).2.2]) ∧ Ints w' u' (res x y ws xss).1 ∧ Below w.heap.size w w' := by
  obtain ⟨va, vn, vc, ua, un, uc, rfl, rfl⟩ := h.shape
  have H := Lib.hid h
  have K0 := Lib.hid (Blk.new w 28 #[.int .i64 x, .int .i64 y, .slice va vn vc, .slice ua un uc])
  have B0 := Lib.hid (below_al (Below.refl w.heap.size w) (.cells #[.int .i64 x, .int .i64 y, .slice va vn vc, .slice ua un uc] 28))
  have HC := Lib.hid (gval.spec_any x y _ ws _ xss _ (h.below B0.out) hn hm)
  clear h
  by_cases hok : okGame x y ws xss
  · have HE := Lib.hid (gameB_yes hok)
    rw [res_yes hok]
    obtain ⟨X, rfl⟩ : ∃ X : Nat, x = X := ⟨x.toNat, by have := hok.1.1; omega⟩
    obtain ⟨Y, rfl⟩ : ∃ Y : Nat, y = Y := ⟨y.toNat, by have := hok.1.2; omega⟩
    simp only [Int.toNat_natCast]
    have HOK := Lib.hid hok
    have HBW : Hid (play.within ((X : Int) + Y) 0 1 (best X Y ws xss)) := Lib.hid (by
      have hX3 : X ≤ 3 := by have := hok.1.1.2; omega
      have hY3 : Y ≤ 3 := by have := hok.1.2.2; omega
      rw [← (gbm.best_at X Y ws xss hX3 hY3).1]
      have := at_within (X + Y) (am (S X Y ws xss) (2 ^ (X + Y) - 1))
      rw [Int.natCast_add] at this
      exact this)
    clear hok
    go_enter Try.func31, Try.ntmps31
    go_wp2_with fail
    refine HC.out.mono ?_
    rintro e w1 ⟨rfl, hb⟩
    rw [HE.out]
    have B1 := Lib.hid (below_tr B0.out hb)
    have K1 := Lib.hid (K0.out.below hb)
    obtain ⟨c0, c1, c2, c3, c4⟩ := four_cells K1.out
    clear hb HC K0 B0
    go_wp2_with fail
    refine (l4best X Y _ ws _ xss _ (H.out.below B1.out) HOK.out).mono ?_
    rintro e w2 ⟨u', rfl, hu, hb⟩
    obtain ⟨ra, rn, rc, rfl⟩ := hu.shape
    have B2 := Lib.hid (below_tr B1.out hb)
    have K2 := Lib.hid (K1.out.below hb)
    have U2 := Lib.hid hu
    clear hb hu c0 c1 c2 c3 c4 K1
    obtain ⟨c0, c1, c2, c3, c4⟩ := four_cells K2.out
    go_wp2_with fail
    refine (gscore.l4score X Y _ ws _ xss _ (best X Y ws xss) _ (H.out.below B2.out) U2.out HOK.out HBW.out).mono ?_
    rintro e w3 ⟨rfl, hb⟩
    have B3 := Lib.hid (below_tr B2.out hb)
    have U3 := Lib.hid (U2.out.below hb)
    clear hb
    go_wp2_with fail
    go_ret3
    exact ⟨_, rfl, U3.out, B3.out⟩
  · have HE := Lib.hid (gameB_no hok)
    rw [res_no hok]
    clear hok
    go_enter Try.func31, Try.ntmps31
    go_wp2_with fail
    refine HC.out.mono ?_
    rintro e w1 ⟨rfl, hb⟩
    rw [HE.out]
    have B1 := Lib.hid (below_tr B0.out hb)
    clear hb HC K0
    go_wp2_with fail
    go_ret3
    exact ⟨_, rfl, app.empty _ _ _ (Nat.zero_le _), below_al B1.out _⟩


end Go.Proofs.Ytkajebhagkbcaac.gbp
