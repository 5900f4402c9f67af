/- PerfectPlay of both sides. -/
import Derived.Test.YtkajebhagkbcaacGbps
namespace Go.Proofs.Ytkajebhagkbcaac.gpp
open Go.RowKit Go.Deep Go.Proofs.Ytkajebhagkbcaac.base
open Go.Proofs.Ytkajebhagkbcaac.rws (total)
open Go.Proofs.Ytkajebhagkbcaac.gval (okGame gameB gameB_yes gameB_no)
open Go.Proofs.Ytkajebhagkbcaac.gscore (score)
open Go.Proofs.Ytkajebhagkbcaac.gbm (best am S)
open Go.Proofs.Ytkajebhagkbcaac.gbp (at_within)

open Classical in
noncomputable def res (x y : Int) (ws : List Int) (xss : List (List Int)) : List Int × Bool :=
  if okGame x y ws xss ∧ ¬ score x.toNat y.toNat ws xss (best x.toNat y.toNat ws xss) < ws.sum then (best x.toNat y.toNat ws xss, true) else ([], false)
theorem res_yes {x y : Int} {ws : List Int} {xss : List (List Int)} (h : okGame x y ws xss ∧ ¬ score x.toNat y.toNat ws xss (best x.toNat y.toNat ws xss) < ws.sum) : res x y ws xss = (best x.toNat y.toNat ws xss, true) := if_pos h
theorem res_no {x y : Int} {ws : List Int} {xss : List (List Int)} (h : ¬ (okGame x y ws xss ∧ ¬ score x.toNat y.toNat ws xss (best x.toNat y.toNat ws xss) < ws.sum)) : res x y ws xss = ([], false) := if_neg h
theorem len_res (x y : Int) (ws : List Int) (xss : List (List Int)) : (res x y ws xss).1.length ≤ 1048576 := by
  by_cases h : okGame x y ws xss ∧ ¬ score x.toNat y.toNat ws xss (best x.toNat y.toNat ws xss) < ws.sum
  · rw [res_yes h]
    have h1 := h.1.1.1; have h2 := h.1.1.2
    show (best x.toNat y.toNat ws xss).length ≤ 1048576
    rw [gbp.len_best]; omega
  · rw [res_no h]; exact Nat.zero_le _
theorem best_within {X Y : Nat} {ws : List Int} {xss : List (List Int)} (hok : okGame X Y ws xss) : play.within ((X : Int) + Y) 0 1 (best X Y ws xss) := by
  have hX3 : X ≤ 3 := by have := hok.1.1.2; omega
  have hY3 : Y ≤ 3 := by have := hok.1.2.2; omega
  rw [← (gbm.best_at X Y ws xss hX3 hY3).1]
  have := at_within (X + Y) (am (S X Y ws xss) (2 ^ (X + Y) - 1))
  rw [Int.natCast_add] at this
  exact this


set_option maxRecDepth 100000 in
set_option maxHeartbeats 4000000 in
theorem impl_any (x y : Int) (v : Value) (ws : List Int) (u : Value) (xss : List (List Int)) (w : World) (h : game.GV w v ws u xss) (hn : ws.length ≤ 1048576) (hm : total xss ≤ 1048576) :
    Calls Try.prog 36 #[.agg #[.int .i64 x, .int .i64 y, v, u]] w fun e w' => ∃ u', e = .returned (.tuple #[u', .bool (res x y ws xss).2]) ∧ OwnInts w' w.heap.size w'.heap.size u' (res x y ws xss).1 ∧ Below w.heap.size w w' := by
  obtain ⟨va, vn, vc, ua, un, uc, rfl, rfl⟩ := h.shape
  have H := Lib.hid h
  have K0 := Lib.hid (Blk.new w 28 #[.int .i64 x, .int .i64 y, .slice va vn vc, .slice ua un uc])
  have B0 := Lib.hid (below_al (Below.refl w.heap.size w) (.cells #[.int .i64 x, .int .i64 y, .slice va vn vc, .slice ua un uc] 28))
  have HC := Lib.hid (gbp.impl_any x y _ ws _ xss _ (h.below B0.out) hn hm)
  clear h
  by_cases hok : okGame x y ws xss
  · have HE := Lib.hid (gbp.res_yes hok)
    have HOK := Lib.hid hok
    obtain ⟨sc, hsc⟩ : ∃ sc, score x.toNat y.toNat ws xss (best x.toNat y.toNat ws xss) = sc := ⟨_, rfl⟩
    obtain ⟨sm, hsm⟩ : ∃ sm, ws.sum = sm := ⟨_, rfl⟩
    have HSC := Lib.hid hsc
    have HSM := Lib.hid hsm
    by_cases hlt : sc < sm
    · have dq : decide (sc < sm) = true := by simp [hlt]
      rw [res_no (fun h => h.2 (by rw [hsc, hsm]; exact hlt))]
      clear hok hlt hsc hsm
      go_enter Try.func36, Try.ntmps36
      go_wp2_with fail
      refine HC.out.mono ?_
      rintro e w1 ⟨u', rfl, hu, hb⟩
      rw [HE.out] at hu ⊢
      obtain ⟨ra, rn, rc, rfl⟩ := hu.ints.shape
      have B1 := Lib.hid (below_tr B0.out hb)
      obtain ⟨c0, c1, c2, c3, c4⟩ := four_cells (K0.out.below hb)
      simp only [HSC.out]
      clear hb hu HC K0 HE
      go_wp2_with fail
      refine (gtot.totalof x y _ ws _ xss _ (H.out.below B1.out) HOK.out).mono ?_
      rintro e w2 ⟨rfl, hb⟩
      have B2 := Lib.hid (below_tr B1.out hb)
      rw [HSM.out]
      clear hb
      go_wp2_with fail
      go_ret2
      exact ⟨_, rfl, OwnInts.nil _ _ _, B2.out⟩
    · have dq : decide (sc < sm) = false := by simp only [decide_eq_false_iff_not]; exact hlt
      rw [res_yes ⟨hok, by rw [hsc, hsm]; exact hlt⟩]
      clear hok hlt hsc hsm
      go_enter Try.func36, Try.ntmps36
      go_wp2_with fail
      refine HC.out.mono ?_
      rintro e w1 ⟨u', rfl, hu, hb⟩
      rw [HE.out] at hu ⊢
      obtain ⟨ra, rn, rc, rfl⟩ := hu.ints.shape
      have B1 := Lib.hid (below_tr B0.out hb)
      have U1 := Lib.hid (hu.mono (B' := w.heap.size) B0.out.size (Nat.le_refl _))
      obtain ⟨c0, c1, c2, c3, c4⟩ := four_cells (K0.out.below hb)
      simp only [HSC.out]
      clear hb hu HC K0 HE
      go_wp2_with fail
      refine (gtot.totalof x y _ ws _ xss _ (H.out.below B1.out) HOK.out).mono ?_
      rintro e w2 ⟨rfl, hb⟩
      have B2 := Lib.hid (below_tr B1.out hb)
      have U2 := Lib.hid ((U1.out.keep hb).mono (Nat.le_refl _) hb.size)
      rw [HSM.out]
      clear hb
      go_wp2_with fail
      go_ret2
      exact ⟨_, rfl, U2.out, B2.out⟩
  · have HE := Lib.hid (gbp.res_no hok)
    rw [res_no (fun h => hok h.1)]
    clear hok
    go_enter Try.func36, Try.ntmps36
    go_wp2_with fail
    refine HC.out.mono ?_
    rintro e w1 ⟨u', rfl, hu, hb⟩
    rw [HE.out] at hu ⊢
    obtain ⟨ra, rn, rc, rfl⟩ := hu.ints.shape
    have B1 := Lib.hid (below_tr B0.out hb)
    clear hb hu HC K0 HE
    go_wp2_with fail
    go_ret2
    exact ⟨_, rfl, OwnInts.nil _ _ _, B1.out⟩



set_option maxRecDepth 100000 in
set_option maxHeartbeats 4000000 in
theorem spec_any (x y : Int) (v : Value) (ws : List Int) (u : Value) (xss : List (List Int)) (w : World) (h : game.GV w v ws u xss) (hn : ws.length ≤ 1048576) (hm : total xss ≤ 1048576) :
    Calls Try.prog 35 #[.agg #[.int .i64 x, .int .i64 y, v, u]] w fun e w' => ∃ u', e = .returned (.tuple #[u', .bool (res x y ws xss).2]) ∧ Ints w' u' (res x y ws xss).1 ∧ Below w.heap.size w w' := by
  obtain ⟨va, vn, vc, ua, un, uc, rfl, rfl⟩ := h.shape
  have H := Lib.hid h
  have K0 := Lib.hid (Blk.new w 28 #[.int .i64 x, .int .i64 y, .slice va vn vc, .slice ua un uc])
  have B0 := Lib.hid (below_al (Below.refl w.heap.size w) (.cells #[.int .i64 x, .int .i64 y, .slice va vn vc, .slice ua un uc] 28))
  have HC := Lib.hid (gval.spec_any x y _ ws _ xss _ (h.below B0.out) hn hm)
  clear h
  by_cases hok : okGame x y ws xss
  · have HE := Lib.hid (gameB_yes hok)
    obtain ⟨X, rfl⟩ : ∃ X : Nat, x = X := ⟨x.toNat, by have := hok.1.1; omega⟩
    obtain ⟨Y, rfl⟩ : ∃ Y : Nat, y = Y := ⟨y.toNat, by have := hok.1.2; omega⟩
    have HOK := Lib.hid hok
    have HBW := Lib.hid (best_within hok)
    obtain ⟨sc, hsc⟩ : ∃ sc, score X Y ws xss (best X Y ws xss) = sc := ⟨_, rfl⟩
    obtain ⟨sm, hsm⟩ : ∃ sm, ws.sum = sm := ⟨_, rfl⟩
    have hpost : (if sc < sm then ([], false) else (best X Y ws xss, true)) = res X Y ws xss := by
      by_cases hlt : sc < sm
      · rw [if_pos hlt, res_no (fun h => h.2 (by simp only [Int.toNat_natCast]; rw [hsc, hsm]; exact hlt))]
      · rw [if_neg hlt, res_yes ⟨hok, by simp only [Int.toNat_natCast]; rw [hsc, hsm]; exact hlt⟩]
        simp only [Int.toNat_natCast]
    rw [← hpost]
    have HSC := Lib.hid hsc
    have HSM := Lib.hid hsm
    clear hok hsc hsm hpost
    have HARM : Hid (∀ (w2 : World) (ra : Option Addr) (rn rc : Nat), Below w.heap.size w w2 → Ints w2 (.slice ra rn rc) (best X Y ws xss) →
        (∀ W, Below w2.heap.size w2 W → Calls Try.prog 60 #[.agg #[.int .i64 (X : Int), .int .i64 (Y : Int), .slice va vn vc, .slice ua un uc], .slice ra rn rc] W fun e w' => e = .returned (.int .i64 sc) ∧ Below W.heap.size W w') ∧
        (∀ W, Below w2.heap.size w2 W → Calls Try.prog 57 #[.agg #[.int .i64 (X : Int), .int .i64 (Y : Int), .slice va vn vc, .slice ua un uc]] W fun e w' => e = .returned (.int .i64 sm) ∧ Below W.heap.size W w')) := Lib.hid (fun w2 ra rn rc hb hu => ⟨fun W hW => by
      have := gscore.l4score X Y _ ws _ xss _ (best X Y ws xss) W (H.out.below (below_tr hb hW)) (hu.below hW) HOK.out HBW.out
      rw [HSC.out] at this
      exact this, fun W hW => by
      have := gtot.l4total X Y _ ws _ xss W (H.out.below (below_tr hb hW)) HOK.out
      rw [HSM.out] at this
      exact this⟩)
    by_cases hlt : sc < sm
    · have dq : decide (sc < sm) = true := by simp [hlt]
      rw [if_pos hlt]
      clear hlt
      go_enter Try.func35, Try.ntmps35
      go_wp2_with fail
      refine HC.out.mono ?_
      rintro e w1 ⟨rfl, hb⟩
      rw [HE.out]
      have B1 := Lib.hid (below_tr B0.out hb)
      have K1 := Lib.hid (K0.out.below hb)
      obtain ⟨c0, c1, c2, c3, c4⟩ := four_cells K1.out
      clear hb HC K0
      go_wp2_with fail
      refine (gbp.l4best X Y _ ws _ xss _ (H.out.below B1.out) HOK.out).mono ?_
      rintro e w2 ⟨u', rfl, hu, hb⟩
      obtain ⟨ra, rn, rc, rfl⟩ := hu.shape
      have B2 := Lib.hid (below_tr B1.out hb)
      have K2 := Lib.hid (K1.out.below hb)
      have HA1 := Lib.hid (HARM.out w2 ra rn rc B2.out hu).1
      have HA2 := Lib.hid (HARM.out w2 ra rn rc B2.out hu).2
      clear hb hu c0 c1 c2 c3 c4 K1
      obtain ⟨c0, c1, c2, c3, c4⟩ := four_cells K2.out
      go_wp2_with fail
      go_region_held3 (fun w' => w'.cell? ⟨w.heap.size, 0, none⟩ = some (.int .i64 (X : Int)) ∧ w'.cell? ⟨w.heap.size, 1, none⟩ = some (.int .i64 (Y : Int)) ∧ w'.cell? ⟨w.heap.size, 2, none⟩ = some (.slice va vn vc) ∧ w'.cell? ⟨w.heap.size, 3, none⟩ = some (.slice ua un uc) ∧ Below w2.heap.size w2 w')
        (((with_reducible refine held4 c0 c1 c2 c3 ?_); repeat (first | (with_reducible exact Below.refl _ _) | (with_reducible refine below_dr ?_) | (with_reducible refine below_tr ?_ (by assumption)))))
        (first
          | (go_at_call 60; (with_reducible refine (HA1.out _ ?_).mono ?_); (repeat (first | (with_reducible exact Below.refl _ _) | (with_reducible refine below_dr ?_) | (with_reducible refine below_tr ?_ (by assumption)))); rintro e wq1 ⟨rfl, hx1⟩)
          | (go_at_call 57; (with_reducible refine (HA2.out _ ?_).mono ?_); (repeat (first | (with_reducible exact Below.refl _ _) | (with_reducible refine below_dr ?_) | (with_reducible refine below_tr ?_ (by assumption)))); rintro e wq2 ⟨rfl, hx2⟩))
      have hbt : Below w2.heap.size w2 wq2 := by
        repeat (first | (with_reducible exact Below.refl _ _) | (with_reducible refine below_dr ?_) | (with_reducible refine below_tr ?_ (by assumption)))
      have B3 := Lib.hid (below_tr B2.out hbt)
      clear hbt hx1 hx2 c0 c1 c2 c3 c4
      go_wp2_with fail
      go_ret2
      exact ⟨_, rfl, app.empty _ _ _ (Nat.zero_le _), below_al B3.out _⟩
    · have dq : decide (sc < sm) = false := by simp only [decide_eq_false_iff_not]; exact hlt
      rw [if_neg hlt]
      clear hlt
      go_enter Try.func35, Try.ntmps35
      go_wp2_with fail
      refine HC.out.mono ?_
      rintro e w1 ⟨rfl, hb⟩
      rw [HE.out]
      have B1 := Lib.hid (below_tr B0.out hb)
      have K1 := Lib.hid (K0.out.below hb)
      obtain ⟨c0, c1, c2, c3, c4⟩ := four_cells K1.out
      clear hb HC K0
      go_wp2_with fail
      refine (gbp.l4best X Y _ ws _ xss _ (H.out.below B1.out) HOK.out).mono ?_
      rintro e w2 ⟨u', rfl, hu, hb⟩
      obtain ⟨ra, rn, rc, rfl⟩ := hu.shape
      have B2 := Lib.hid (below_tr B1.out hb)
      have K2 := Lib.hid (K1.out.below hb)
      have U2 := Lib.hid hu
      have HA1 := Lib.hid (HARM.out w2 ra rn rc B2.out hu).1
      have HA2 := Lib.hid (HARM.out w2 ra rn rc B2.out hu).2
      clear hb hu c0 c1 c2 c3 c4 K1
      obtain ⟨c0, c1, c2, c3, c4⟩ := four_cells K2.out
      go_wp2_with fail
      go_region_held3 (fun w' => w'.cell? ⟨w.heap.size, 0, none⟩ = some (.int .i64 (X : Int)) ∧ w'.cell? ⟨w.heap.size, 1, none⟩ = some (.int .i64 (Y : Int)) ∧ w'.cell? ⟨w.heap.size, 2, none⟩ = some (.slice va vn vc) ∧ w'.cell? ⟨w.heap.size, 3, none⟩ = some (.slice ua un uc) ∧ Below w2.heap.size w2 w')
        (((with_reducible refine held4 c0 c1 c2 c3 ?_); repeat (first | (with_reducible exact Below.refl _ _) | (with_reducible refine below_dr ?_) | (with_reducible refine below_tr ?_ (by assumption)))))
        (first
          | (go_at_call 60; (with_reducible refine (HA1.out _ ?_).mono ?_); (repeat (first | (with_reducible exact Below.refl _ _) | (with_reducible refine below_dr ?_) | (with_reducible refine below_tr ?_ (by assumption)))); rintro e wq1 ⟨rfl, hx1⟩)
          | (go_at_call 57; (with_reducible refine (HA2.out _ ?_).mono ?_); (repeat (first | (with_reducible exact Below.refl _ _) | (with_reducible refine below_dr ?_) | (with_reducible refine below_tr ?_ (by assumption)))); rintro e wq2 ⟨rfl, hx2⟩))
      have hbt : Below w2.heap.size w2 wq2 := by
        repeat (first | (with_reducible exact Below.refl _ _) | (with_reducible refine below_dr ?_) | (with_reducible refine below_tr ?_ (by assumption)))
      have B3 := Lib.hid (below_tr B2.out hbt)
      have U3 := Lib.hid (U2.out.below hbt)
      clear hbt hx1 hx2 c0 c1 c2 c3 c4
      go_wp2_with fail
      go_ret2
      exact ⟨_, rfl, U3.out, B3.out⟩
  · have HE := Lib.hid (gameB_no hok)
    rw [res_no (fun h => hok h.1)]
    clear hok
    go_enter Try.func35, Try.ntmps35
    go_wp2_with fail
    refine HC.out.mono ?_
    rintro e w1 ⟨rfl, hb⟩
    rw [HE.out]
    have B1 := Lib.hid (below_tr B0.out hb)
    clear hb HC K0
    go_wp2_with fail
    go_ret2
    exact ⟨_, rfl, app.empty _ _ _ (Nat.zero_le _), below_al B1.out _⟩


end Go.Proofs.Ytkajebhagkbcaac.gpp
