/- BestPlay of the program. -/
import Derived.Test.YtimfnhejiiagmaaGpwr
import Derived.Deep.RegionHeld3
namespace Go.Proofs.Ytimfnhejiiagmaa.gbp
open Go.RowKit Go.Deep Go.Proofs.Ytimfnhejiiagmaa.base
open Go.Proofs.Ytimfnhejiiagmaa.rws (total)
open Go.Proofs.Ytimfnhejiiagmaa.val (okSizes)
open Go.Proofs.Ytimfnhejiiagmaa.gval (okGame gameB gameB_yes gameB_no)
open Go.Proofs.Ytimfnhejiiagmaa.gscore (score)
open Go.Proofs.Ytimfnhejiiagmaa.gbm (stp best V am)
open Go.Proofs.Ytimfnhejiiagmaa.plays (at_ bit len_at)
open Go.Proofs.Ytimfnhejiiagmaa.gpwr (Row)

open Classical in
noncomputable def res (x y : Int) (ws : List Int) (xss : List (List Int)) : List Int × Int × Bool :=
  if okGame x y ws xss then (best x.toNat y.toNat ws xss, score x.toNat y.toNat ws xss (best x.toNat y.toNat ws xss), true) else ([], 0, false)
theorem res_yes {x y : Int} {ws : List Int} {xss : List (List Int)} (h : okGame x y ws xss) : res x y ws xss = (best x.toNat y.toNat ws xss, score x.toNat y.toNat ws xss (best x.toNat y.toNat ws xss), true) := if_pos h
theorem res_no {x y : Int} {ws : List Int} {xss : List (List Int)} (h : ¬ okGame x y ws xss) : res x y ws xss = ([], 0, false) := if_neg h
theorem len_best (X Y : Nat) (ws : List Int) (xss : List (List Int)) : (best X Y ws xss).length = X + Y := gbm.len_stp X Y ws xss (len_at _ _) _
theorem len_res (x y : Int) (ws : List Int) (xss : List (List Int)) : (res x y ws xss).1.length ≤ 1048576 := by
  by_cases h : okGame x y ws xss
  · rw [res_yes h]
    have h1 := h.1.1; have h2 := h.1.2
    show (best x.toNat y.toNat ws xss).length ≤ 1048576
    rw [len_best]; omega
  · rw [res_no h]; exact Nat.zero_le _
theorem at_within (X k : Nat) : play.within (X : Int) 0 1 (at_ X k) := by
  refine ⟨by rw [len_at], fun i hi => ?_⟩
  have : (at_ X k)[i] = bit X k i := by simp [at_]
  rw [this]
  have := gbm.bit_01 X k i
  omega
theorem am_step_yes {S : Nat → Int} {k : Nat} (hk : 1 ≤ k) (h : S (am S (k - 1)) < S k) : am S (k + 1 - 1) = k := by
  obtain ⟨m, rfl⟩ : ∃ m, k = m + 1 := ⟨k - 1, by omega⟩
  show am S (m + 1) = m + 1
  have h' : S (am S m) < S (m + 1) := h
  unfold am; exact if_pos h'
theorem am_step_no {S : Nat → Int} {k : Nat} (hk : 1 ≤ k) (h : ¬ S (am S (k - 1)) < S k) : am S (k + 1 - 1) = am S (k - 1) := by
  obtain ⟨m, rfl⟩ : ∃ m, k = m + 1 := ⟨k - 1, by omega⟩
  have h' : ¬ S (am S m) < S (m + 1) := h
  show (if S (am S m) < S (m + 1) then m + 1 else am S m) = am S m
  exact if_neg h'


set_option maxRecDepth 100000 in
set_option maxHeartbeats 8000000 in
theorem impl_any (x y : Int) (v : Value) (ws : List Int) (u : Value) (xss : List (List Int)) (w : World) (h : game.GV w v ws u xss) (hn : ws.length ≤ 1048576) (hm : total xss ≤ 1048576) :
    Calls Try.prog 177 #[.agg #[.int .i64 x, .int .i64 y, v, u]] w fun e w' => ∃ u', e = .returned (.tuple #[u', .int .i64 (res x y ws xss).2.1, .bool (res x y ws xss).2.2]) ∧ OwnInts w' w.heap.size w'.heap.size u' (res x y ws xss).1 ∧ Below w.heap.size w w' := by
  obtain ⟨va, vn, vc, ua, un, uc, rfl, rfl⟩ := h.shape
  have H := Lib.hid h
  have K0 := Lib.hid (Blk.new w 40 #[.int .i64 x, .int .i64 y, .slice va vn vc, .slice ua un uc])
  have B0 := Lib.hid (below_al (Below.refl w.heap.size w) (.cells #[.int .i64 x, .int .i64 y, .slice va vn vc, .slice ua un uc] 40))
  have HC := Lib.hid (gval.impl_any x y _ ws _ xss _ (h.below B0.out) hn hm)
  clear h
  by_cases hok : okGame x y ws xss
  · have HE := Lib.hid (gameB_yes hok)
    rw [res_yes hok]
    obtain ⟨X, rfl⟩ : ∃ X : Nat, x = X := ⟨x.toNat, by have := hok.1.1; omega⟩
    obtain ⟨Y, rfl⟩ : ∃ Y : Nat, y = Y := ⟨y.toNat, by have := hok.1.2; omega⟩
    simp only [Int.toNat_natCast]
    have hX3 : X ≤ 3 := by have := hok.1.1.2; omega
    have hY3 : Y ≤ 3 := by have := hok.1.2.2; omega
    obtain ⟨c, hc⟩ : ∃ c : Nat, 2 ^ X = c := ⟨_, rfl⟩
    have hc8 : c ≤ 8 := by rw [← hc]; exact gbm.pow_le hX3
    have hc1 : 1 ≤ c := by rw [← hc]; exact Nat.two_pow_pos X
    have hw2 : wrap64 (2 ^ X) = (c : Int) := by
      have e : (2 : Int) ^ X = (c : Int) := by rw [← hc]; simp
      rw [e]; exact IntWalk.wrap64_in _ (by omega)
    have HPA : Hid (∀ (p : Nat) (W : World), p < 64 → Calls Try.prog 91 #[.int .i64 (p : Int), .int .i64 (X : Int)] W fun e w' => ∃ u, e = .returned u ∧ OwnInts w' W.heap.size w'.heap.size u (at_ X p) ∧ pile.Typ w' u ∧ Below W.heap.size W w') := Lib.hid (fun p W hp => plays.play_at X p W (by omega) hp)
    have HPW : Hid (∀ (W : World) (fv : Value) (p : Nat), Below w.heap.size w W → Ints W fv (at_ X p) → Calls Try.prog 204 #[.agg #[.int .i64 (X : Int), .int .i64 (Y : Int), .slice va vn vc, .slice ua un uc], fv] W fun e w' => ∃ g, e = .returned (.tuple #[.slice (some ⟨g, 0, none⟩) (X + Y) (X + Y), .int .i64 (V X Y ws xss p)]) ∧
      Row w' g (stp X Y ws xss (at_ X p) Y) ∧ W.heap.size ≤ g ∧ Below W.heap.size W w') := Lib.hid (fun W fv p hW hf => gpwr.any X Y _ ws _ xss fv (at_ X p) W (H.out.below hW) hf hok (at_within X p))
    have HCC := Lib.hid hc
    have HLS := Lib.hid (fun k => gbm.len_stp X Y ws xss (len_at X k) Y)
    clear hok hc
    go_enter Try.func177, Try.ntmps177
    go_wp2_with fail
    refine HC.out.mono ?_
    rintro e w1 ⟨rfl, hb⟩
    rw [HE.out]
    have B1 := Lib.hid (below_tr B0.out hb)
    have K1 := Lib.hid (K0.out.below hb)
    obtain ⟨c0, c1, c2, c3, c4⟩ := four_cells K1.out
    clear hb HC K0 B0
    have HPA0 : Hid (∀ W : World, Calls Try.prog 91 #[.int .i64 0, .int .i64 (X : Int)] W fun e w' => ∃ u, e = .returned u ∧ OwnInts w' W.heap.size w'.heap.size u (at_ X 0) ∧ pile.Typ w' u ∧ Below W.heap.size W w') := Lib.hid (fun W => HPA.out 0 W (by omega))
    go_wp2_with fail
    go_region_held3 (fun w' => w'.cell? ⟨w.heap.size, 0, none⟩ = some (.int .i64 (X : Int)) ∧ w'.cell? ⟨w.heap.size, 1, none⟩ = some (.int .i64 (Y : Int)) ∧ w'.cell? ⟨w.heap.size, 2, none⟩ = some (.slice va vn vc) ∧ w'.cell? ⟨w.heap.size, 3, none⟩ = some (.slice ua un uc) ∧ Below w1.heap.size w1 w')
      (((with_reducible refine held4 c0 c1 c2 c3 ?_); repeat (first | (with_reducible exact Below.refl _ _) | (with_reducible refine below_dr ?_) | (with_reducible refine below_tr ?_ (by assumption)))))
      (first
        | (go_at_call 91; (with_reducible refine (HPA0.out _).mono ?_); rintro e wq1 ⟨f, rfl, hf, _, hq1⟩)
        | (go_at_call 204; (with_reducible refine (HPW.out _ _ 0 (below_tr B1.out ?_) ?_).mono ?_); (repeat (first | (with_reducible exact Below.refl _ _) | (with_reducible refine below_dr ?_) | (with_reducible refine below_tr ?_ (by assumption)))); (exact hf.ints); rintro e wq2 ⟨g, rfl, hr, hg, hq2⟩))
    have hbt : Below w1.heap.size w1 wq2 := by
      repeat (first | (with_reducible exact Below.refl _ _) | (with_reducible refine below_dr ?_) | (with_reducible refine below_tr ?_ (by assumption)))
    have B2 := Lib.hid (below_tr B1.out hbt)
    have K2 := Lib.hid (K1.out.below hbt)
    have R2 : Hid (Row wq2 g (stp X Y ws xss (at_ X (am (V X Y ws xss) (1 - 1))) Y) ∧ w.heap.size ≤ g) := Lib.hid ⟨hr, by have h1 := B1.out.size; have h2 := hq1.size; have h3 : w1.heap.size ≤ w1.drew.heap.size := Nat.le_refl _; exact Nat.le_trans h1 (Nat.le_trans h2 hg)⟩
    obtain ⟨q, hq⟩ : ∃ q, V X Y ws xss (am (V X Y ws xss) (1 - 1)) = q := ⟨_, rfl⟩
    have HQ := Lib.hid hq
    have hq' : V X Y ws xss 0 = q := hq
    rw [hq']
    clear hbt hq1 hq2 hf hr hg c0 c1 c2 c3 c4 B1 K1 hq hq'
    obtain ⟨c0, c1, c2, c3, c4⟩ := four_cells K2.out
    go_wp2_with fail
    clear c0 c1 c2 c3 c4
    go_loopw [5, 6, 7] (fun bv sv i wr => ∃ k : Nat, 1 ≤ k ∧ k ≤ c ∧ i = .int .i64 k ∧ ∃ g : Nat, bv = .slice (some ⟨g, 0, none⟩) (X + Y) (X + Y) ∧ ∃ q : Int, sv = .int .i64 q ∧ Hid (V X Y ws xss (am (V X Y ws xss) (k - 1)) = q) ∧ Hid (Row wr g (stp X Y ws xss (at_ X (am (V X Y ws xss) (k - 1))) Y) ∧ w.heap.size ≤ g) ∧ Hid (Below w.heap.size w wr) ∧ Hid (Blk wr w.heap.size 40 #[.int .i64 (X : Int), .int .i64 (Y : Int), .slice va vn vc, .slice ua un uc])) (fun _ _ i _ => c - (intOf i).toNat)
    case atStart => exact ⟨1, Nat.le_refl _, hc1, rfl, _, rfl, _, rfl, HQ, R2, B2, K2⟩
    case round =>
      clear HQ R2 B2 K2
      obtain ⟨k, hk1, hk2, rfl, g, rfl, q, rfl, hQ, hR, hB, hK⟩ := hrel
      obtain ⟨wi, rfl⟩ : ∃ wi : World, wi = wr := ⟨_, rfl⟩
      obtain ⟨c0, c1, c2, c3, c4⟩ := four_cells hK.out
      by_cases hlt : k < c
      · have hkz : (k : Int) < (c : Int) := by omega
        have HPAk := Lib.hid (fun W => HPA.out k W (by omega))
        obtain ⟨q2, hq2e⟩ : ∃ q2, V X Y ws xss k = q2 := ⟨_, rfl⟩
        have HQ2 := Lib.hid hq2e
        have HPWk : Hid (∀ (W : World) (fv : Value), Below w.heap.size w W → Ints W fv (at_ X k) → Calls Try.prog 204 #[.agg #[.int .i64 (X : Int), .int .i64 (Y : Int), .slice va vn vc, .slice ua un uc], fv] W fun e w' => ∃ g, e = .returned (.tuple #[.slice (some ⟨g, 0, none⟩) (X + Y) (X + Y), .int .i64 q2]) ∧
          Row w' g (stp X Y ws xss (at_ X k) Y) ∧ W.heap.size ≤ g ∧ Below W.heap.size W w') := Lib.hid (fun W fv hW hf => by have := HPW.out W fv k hW hf; rw [hq2e] at this; exact this)
        clear hq2e
        by_cases hbetter : q < q2
        · have dq : decide (q < q2) = true := by simp [hbetter]
          have HAM : Hid (am (V X Y ws xss) (k + 1 - 1) = k) := Lib.hid (am_step_yes hk1 (by rw [hQ.out, HQ2.out]; exact hbetter))
          clear hbetter
          go_wp2_with fail
          go_region_held3 (fun w' => w'.cell? ⟨w.heap.size, 0, none⟩ = some (.int .i64 (X : Int)) ∧ w'.cell? ⟨w.heap.size, 1, none⟩ = some (.int .i64 (Y : Int)) ∧ w'.cell? ⟨w.heap.size, 2, none⟩ = some (.slice va vn vc) ∧ w'.cell? ⟨w.heap.size, 3, none⟩ = some (.slice ua un uc) ∧ Below wi.heap.size wi w')
            (((with_reducible refine held4 c0 c1 c2 c3 ?_); repeat (first | (with_reducible exact Below.refl _ _) | (with_reducible refine below_dr ?_) | (with_reducible refine below_tr ?_ (by assumption)))))
            (first
              | (go_at_call 91; (with_reducible refine (HPAk.out _).mono ?_); rintro e wq1 ⟨f, rfl, hf, _, hq1⟩)
              | (go_at_call 204; (with_reducible refine (HPWk.out _ _ (below_tr hB.out ?_) ?_).mono ?_); (repeat (first | (with_reducible exact Below.refl _ _) | (with_reducible refine below_dr ?_) | (with_reducible refine below_tr ?_ (by assumption)))); (exact hf.ints); rintro e wq2 ⟨g2, rfl, hr, hg, hq2⟩))
          have hbt : Below wi.heap.size wi wq2 := by
            repeat (first | (with_reducible exact Below.refl _ _) | (with_reducible refine below_dr ?_) | (with_reducible refine below_tr ?_ (by assumption)))
          have B2 := Lib.hid (below_tr hB.out hbt)
          have K2 := Lib.hid (hK.out.below hbt)
          have R2 : Hid (Row wq2 g2 (stp X Y ws xss (at_ X (am (V X Y ws xss) (k + 1 - 1))) Y) ∧ w.heap.size ≤ g2) := Lib.hid ⟨by rw [HAM.out]; exact hr, by have h1 := hB.out.size; have h2 := hq1.size; exact Nat.le_trans h1 (Nat.le_trans h2 hg)⟩
          clear hbt hq1 hq2 hf hr hg c0 c1 c2 c3 c4
          go_wp2_with fail
          go_roundw
          case rel => exact ⟨k + 1, by omega, by omega, by go_num, _, rfl, _, rfl, Lib.hid (by rw [HAM.out]; exact HQ2.out), R2, B2, K2⟩
          case measure => simp [intOf]; omega
        · have dq : decide (q < q2) = false := by simp only [decide_eq_false_iff_not]; exact hbetter
          have HAM : Hid (am (V X Y ws xss) (k + 1 - 1) = am (V X Y ws xss) (k - 1)) := Lib.hid (am_step_no hk1 (by rw [hQ.out, HQ2.out]; exact hbetter))
          clear hbetter
          go_wp2_with fail
          go_region_held3 (fun w' => w'.cell? ⟨w.heap.size, 0, none⟩ = some (.int .i64 (X : Int)) ∧ w'.cell? ⟨w.heap.size, 1, none⟩ = some (.int .i64 (Y : Int)) ∧ w'.cell? ⟨w.heap.size, 2, none⟩ = some (.slice va vn vc) ∧ w'.cell? ⟨w.heap.size, 3, none⟩ = some (.slice ua un uc) ∧ Below wi.heap.size wi w')
            (((with_reducible refine held4 c0 c1 c2 c3 ?_); repeat (first | (with_reducible exact Below.refl _ _) | (with_reducible refine below_dr ?_) | (with_reducible refine below_tr ?_ (by assumption)))))
            (first
              | (go_at_call 91; (with_reducible refine (HPAk.out _).mono ?_); rintro e wq1 ⟨f, rfl, hf, _, hq1⟩)
              | (go_at_call 204; (with_reducible refine (HPWk.out _ _ (below_tr hB.out ?_) ?_).mono ?_); (repeat (first | (with_reducible exact Below.refl _ _) | (with_reducible refine below_dr ?_) | (with_reducible refine below_tr ?_ (by assumption)))); (exact hf.ints); rintro e wq2 ⟨g2, rfl, hr, hg, hq2⟩))
          have hbt : Below wi.heap.size wi wq2 := by
            repeat (first | (with_reducible exact Below.refl _ _) | (with_reducible refine below_dr ?_) | (with_reducible refine below_tr ?_ (by assumption)))
          have B2 := Lib.hid (below_tr hB.out hbt)
          have K2 := Lib.hid (hK.out.below hbt)
          have R2 : Hid (Row wq2 g (stp X Y ws xss (at_ X (am (V X Y ws xss) (k + 1 - 1))) Y) ∧ w.heap.size ≤ g) := Lib.hid ⟨by rw [HAM.out]; exact hR.out.1.below hbt, hR.out.2⟩
          clear hbt hq1 hq2 hf hr hg c0 c1 c2 c3 c4
          go_wp2_with fail
          go_roundw
          case rel => exact ⟨k + 1, by omega, by omega, by go_num, _, rfl, _, rfl, Lib.hid (by rw [HAM.out]; exact hQ.out), R2, B2, K2⟩
          case measure => simp [intOf]; omega
      · have hkz : ¬ (k : Int) < (c : Int) := by omega
        obtain rfl : k = c := by omega
        have HBE : Hid (stp X Y ws xss (at_ X (am (V X Y ws xss) (k - 1))) Y = best X Y ws xss) := Lib.hid (by unfold best; rw [HCC.out])
        have HVE : Hid (q = score X Y ws xss (best X Y ws xss)) := Lib.hid (by rw [← hQ.out, ← HBE.out]; rfl)
        go_wp2_with fail
        go_ret3
        refine ⟨_, by rw [HVE.out]; rfl, ?_, hB.out⟩
        have ho := (gpwr.Row.own hR.out.1 (HLS.out _) (by unfold maxLen; omega)).mono (B' := w.heap.size) (T' := wi.heap.size) hR.out.2 hR.out.1.lt
        rw [HBE.out] at ho
        exact ho
  · have HE := Lib.hid (gameB_no hok)
    rw [res_no hok]
    clear hok
    go_enter Try.func177, Try.ntmps177
    go_wp2_with fail
    refine HC.out.mono ?_
    rintro e w1 ⟨rfl, hb⟩
    rw [HE.out]
    have B1 := Lib.hid (below_tr B0.out hb)
    clear hb HC K0
    go_wp2_with fail
    go_ret3
    exact ⟨_, rfl, OwnInts.nil _ _ _, B1.out⟩


end Go.Proofs.Ytimfnhejiiagmaa.gbp
