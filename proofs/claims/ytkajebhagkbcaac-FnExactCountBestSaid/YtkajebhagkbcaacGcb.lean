/- CountBest of both sides. -/
import Derived.Test.YtkajebhagkbcaacGpp
namespace Go.Proofs.Ytkajebhagkbcaac.gcb
open Go.RowKit Go.Deep Go.Proofs.Ytkajebhagkbcaac.base
open Go.Proofs.Ytkajebhagkbcaac.ints (ret_int)
open Go.Proofs.Ytkajebhagkbcaac.rws (total)
open Go.Proofs.Ytkajebhagkbcaac.gval (okGame gameB gameB_yes gameB_no)
open Go.Proofs.Ytkajebhagkbcaac.gscore (score)
open Go.Proofs.Ytkajebhagkbcaac.gbm (best S)
open Go.Proofs.Ytkajebhagkbcaac.gbp (at_within held5)
open Go.Proofs.Ytkajebhagkbcaac.plays (at_ bit len_at)

/-- how many of the first n places have a score -/
def cnt (F : Nat → Int) (z : Int) (n : Nat) : Nat := ((List.range n).filter (fun i => F i == z)).length
theorem cnt_le (F : Nat → Int) (z : Int) (n : Nat) : cnt F z n ≤ n := by
  unfold cnt; exact Nat.le_trans (List.length_filter_le _ _) (by simp)
theorem cnt_yes {F : Nat → Int} {z : Int} {n : Nat} (h : F n = z) : cnt F z (n + 1) = cnt F z n + 1 := by
  unfold cnt; rw [List.range_succ, List.filter_append]; simp [h]
theorem cnt_no {F : Nat → Int} {z : Int} {n : Nat} (h : ¬ F n = z) : cnt F z (n + 1) = cnt F z n := by
  unfold cnt; rw [List.range_succ, List.filter_append]; simp [h]
open Classical in
noncomputable def res (x y : Int) (ws : List Int) (xss : List (List Int)) : Int × Bool :=
  if okGame x y ws xss then (((cnt (S x.toNat y.toNat ws xss) (score x.toNat y.toNat ws xss (best x.toNat y.toNat ws xss)) (2 ^ (x.toNat + y.toNat)) : Nat) : Int), true) else (0, false)
theorem res_yes {x y : Int} {ws : List Int} {xss : List (List Int)} (h : okGame x y ws xss) : res x y ws xss = (((cnt (S x.toNat y.toNat ws xss) (score x.toNat y.toNat ws xss (best x.toNat y.toNat ws xss)) (2 ^ (x.toNat + y.toNat)) : Nat) : Int), true) := if_pos h
theorem res_no {x y : Int} {ws : List Int} {xss : List (List Int)} (h : ¬ okGame x y ws xss) : res x y ws xss = (0, false) := if_neg h


set_option maxRecDepth 100000 in
set_option maxHeartbeats 4000000 in
theorem impl_any (x y : Int) (v : Value) (ws : List Int) (u : Value) (xss : List (List Int)) (w : World) (h : game.GV w v ws u xss) (hn : ws.length ≤ 1048576) (hm : total xss ≤ 1048576) :
    Calls Try.prog 38 #[.agg #[.int .i64 x, .int .i64 y, v, u]] w fun e w' => e = .returned (.tuple #[.int .i64 (res x y ws xss).1, .bool (res x y ws xss).2]) ∧ Below w.heap.size w w' := by
  obtain ⟨va, vn, vc, ua, un, uc, rfl, rfl⟩ := h.shape
  have H := Lib.hid h
  have K0 := Lib.hid (Blk.new w 28 #[.int .i64 x, .int .i64 y, .slice va vn vc, .slice ua un uc])
  have B0 := Lib.hid (below_al (Below.refl w.heap.size w) (.cells #[.int .i64 x, .int .i64 y, .slice va vn vc, .slice ua un uc] 28))
  have HC := Lib.hid (gbp.impl_any x y _ ws _ xss _ (h.below B0.out) hn hm)
  clear h
  by_cases hok : okGame x y ws xss
  · have HE := Lib.hid (gbp.res_yes hok)
    rw [res_yes hok]
    obtain ⟨X, rfl⟩ : ∃ X : Nat, x = X := ⟨x.toNat, by have := hok.1.1; omega⟩
    obtain ⟨Y, rfl⟩ : ∃ Y : Nat, y = Y := ⟨y.toNat, by have := hok.1.2; omega⟩
    simp only [Int.toNat_natCast] at HE ⊢
    have hX3 : X ≤ 3 := by have := hok.1.1.2; omega
    have hY3 : Y ≤ 3 := by have := hok.1.2.2; omega
    obtain ⟨sc, hsc⟩ : ∃ sc, score X Y ws xss (best X Y ws xss) = sc := ⟨_, rfl⟩
    obtain ⟨c, hc⟩ : ∃ c : Nat, 2 ^ (X + Y) = c := ⟨_, rfl⟩
    have hc64 : c ≤ 64 := by rw [← hc]; exact plays.two_pow (by omega)
    have hw3 : wrap64 (2 ^ (X + Y)) = (c : Int) := by
      have e : (2 : Int) ^ (X + Y) = (c : Int) := by rw [← hc]; simp
      rw [e]; exact IntWalk.wrap64_in _ (by omega)
    rw [hsc, hc]
    have HSC := Lib.hid hsc
    have HPA : Hid (∀ (p : Nat) (W : World), p < c → Calls Try.prog 69 #[.int .i64 (p : Int), .int .i64 ((X : Int) + (Y : Int))] W fun e w' => ∃ u, e = .returned u ∧ OwnInts w' W.heap.size w'.heap.size u (at_ (X + Y) p) ∧ pile.Typ w' u ∧ Below W.heap.size W w') := Lib.hid (fun p W hp => by
      have := plays.play_at (X + Y) p W (by omega) (by omega)
      rw [Int.natCast_add] at this
      exact this)
    have HSO : Hid (∀ (p : Nat) (W : World) (fv : Value), Below w.heap.size w W → Ints W fv (at_ (X + Y) p) → Calls Try.prog 62 #[.agg #[.int .i64 (X : Int), .int .i64 (Y : Int), .slice va vn vc, .slice ua un uc], fv] W fun e w' => e = .returned (.int .i64 (S X Y ws xss p)) ∧ Below W.heap.size W w') := Lib.hid (fun p W fv hW hf => by
      refine gscore.scoreof X Y _ ws _ xss fv (at_ (X + Y) p) W (H.out.below hW) hf hok ?_
      have := at_within (X + Y) p
      rw [Int.natCast_add] at this
      exact this)
    have hxy0 : (0 : Int) ≤ (X : Int) + (Y : Int) := by omega
    clear hok hsc hc
    go_enter Try.func38, Try.ntmps38
    go_wp2_with fail
    refine HC.out.mono ?_
    rintro e w1 ⟨u', rfl, hu, hb⟩
    rw [HE.out] at hu ⊢
    obtain ⟨ra, rn, rc, rfl⟩ := hu.ints.shape
    have B1 := Lib.hid (below_tr B0.out hb)
    have K1 := Lib.hid (K0.out.below hb)
    obtain ⟨c0, c1, c2, c3, c4⟩ := four_cells K1.out
    simp only [HSC.out]
    clear hb hu HC K0 HE B0
    go_wp2_with fail
    simp only [hw3]
    clear c0 c1 c2 c3 c4 hw3
    go_loopw [7, 8, 23] (fun nv z i wr => ∃ k m : Nat, k ≤ c ∧ m ≤ k ∧ i = .int .i64 k ∧ nv = .int .i64 m ∧ (∃ z', z = z') ∧ Hid (cnt (S X Y ws xss) sc k = m) ∧ Hid (Below w.heap.size w wr) ∧ Hid (Blk wr w.heap.size 28 #[.int .i64 (X : Int), .int .i64 (Y : Int), .slice va vn vc, .slice ua un uc])) (fun _ _ i _ => c - (intOf i).toNat)
    case atStart => exact ⟨0, 0, Nat.zero_le _, Nat.le_refl _, rfl, rfl, ⟨_, rfl⟩, Lib.hid rfl, B1, K1⟩
    case round =>
      clear B1 K1
      obtain ⟨k, m, hk, hmk, rfl, rfl, ⟨z', rfl⟩, hM, hB, hK⟩ := hrel
      obtain ⟨wi, rfl⟩ : ∃ wi : World, wi = wr := ⟨_, rfl⟩
      by_cases hlt : k < c
      · have hkz : (k : Int) < (c : Int) := by omega
        obtain ⟨c0, c1, c2, c3, c4⟩ := four_cells hK.out
        have HPAk := Lib.hid (fun W => HPA.out k W hlt)
        obtain ⟨q, hq⟩ : ∃ q, S X Y ws xss k = q := ⟨_, rfl⟩
        have HSk : Hid (∀ (W : World) (fv : Value), Below wi.heap.size wi W → Ints W fv (at_ (X + Y) k) → Calls Try.prog 62 #[.agg #[.int .i64 (X : Int), .int .i64 (Y : Int), .slice va vn vc, .slice ua un uc], fv] W fun e w' => e = .returned (.int .i64 q) ∧ Below W.heap.size W w') := Lib.hid (fun W fv hW hf => by have := HSO.out k W fv (below_tr hB.out hW) hf; rw [hq] at this; exact this)
        have hwx : IntKind.i64.wrap ((X : Int) + (Y : Int)) = (X : Int) + (Y : Int) := IntWalk.i64_in _ (by omega)
        by_cases heq : q = sc
        · have dq : (q == sc) = true := by simp [heq]
          have HCN : Hid (cnt (S X Y ws xss) sc (k + 1) = cnt (S X Y ws xss) sc k + 1) := Lib.hid (cnt_yes (by rw [hq]; exact heq))
          clear heq hq
          go_wp2_with fail
          go_region_held3 (fun w' => w'.cell? ⟨w.heap.size, 0, none⟩ = some (.int .i64 (X : Int)) ∧ w'.cell? ⟨w.heap.size, 1, none⟩ = some (.int .i64 (Y : Int)) ∧ w'.cell? ⟨w.heap.size, 2, none⟩ = some (.slice va vn vc) ∧ w'.cell? ⟨w.heap.size, 3, none⟩ = some (.slice ua un uc) ∧ Below wi.heap.size wi w')
            (((with_reducible refine held4 c0 c1 c2 c3 ?_); repeat (first | (with_reducible exact Below.refl _ _) | (with_reducible refine below_dr ?_) | (with_reducible refine below_tr ?_ (by assumption)))))
            (first
              | (go_at_call 69; (with_reducible refine (HPAk.out _).mono ?_); rintro e wq1 ⟨f, rfl, hf, _, hq1⟩)
              | (go_at_call 62; (with_reducible refine (HSk.out _ _ ?_ ?_).mono ?_); (repeat (first | (with_reducible exact Below.refl _ _) | (with_reducible refine below_dr ?_) | (with_reducible refine below_tr ?_ (by assumption)))); (exact hf.ints); rintro e wq2 ⟨rfl, hq2⟩))
          have hbt : Below wi.heap.size wi wq2 := by repeat (first | (with_reducible exact Below.refl _ _) | (with_reducible refine below_dr ?_) | (with_reducible refine below_tr ?_ (by assumption)))
          have B2 := Lib.hid (below_tr hB.out hbt)
          have K2 := Lib.hid (hK.out.below hbt)
          clear hbt hq1 hq2 hf c0 c1 c2 c3 c4 hwx
          go_wp2_with fail
          go_roundw
          case rel => exact ⟨k + 1, m + 1, by omega, by omega, by go_num, by go_num, ⟨_, rfl⟩, Lib.hid (by rw [HCN.out, hM.out]), B2, K2⟩
          case measure => simp [intOf]; omega
        · have dq : (q == sc) = false := by simp [heq]
          have HCN : Hid (cnt (S X Y ws xss) sc (k + 1) = cnt (S X Y ws xss) sc k) := Lib.hid (cnt_no (by rw [hq]; exact heq))
          clear heq hq
          go_wp2_with fail
          go_region_held3 (fun w' => w'.cell? ⟨w.heap.size, 0, none⟩ = some (.int .i64 (X : Int)) ∧ w'.cell? ⟨w.heap.size, 1, none⟩ = some (.int .i64 (Y : Int)) ∧ w'.cell? ⟨w.heap.size, 2, none⟩ = some (.slice va vn vc) ∧ w'.cell? ⟨w.heap.size, 3, none⟩ = some (.slice ua un uc) ∧ Below wi.heap.size wi w')
            (((with_reducible refine held4 c0 c1 c2 c3 ?_); repeat (first | (with_reducible exact Below.refl _ _) | (with_reducible refine below_dr ?_) | (with_reducible refine below_tr ?_ (by assumption)))))
            (first
              | (go_at_call 69; (with_reducible refine (HPAk.out _).mono ?_); rintro e wq1 ⟨f, rfl, hf, _, hq1⟩)
              | (go_at_call 62; (with_reducible refine (HSk.out _ _ ?_ ?_).mono ?_); (repeat (first | (with_reducible exact Below.refl _ _) | (with_reducible refine below_dr ?_) | (with_reducible refine below_tr ?_ (by assumption)))); (exact hf.ints); rintro e wq2 ⟨rfl, hq2⟩))
          have hbt : Below wi.heap.size wi wq2 := by repeat (first | (with_reducible exact Below.refl _ _) | (with_reducible refine below_dr ?_) | (with_reducible refine below_tr ?_ (by assumption)))
          have B2 := Lib.hid (below_tr hB.out hbt)
          have K2 := Lib.hid (hK.out.below hbt)
          clear hbt hq1 hq2 hf c0 c1 c2 c3 c4 hwx
          go_wp2_with fail
          go_roundw
          case rel => exact ⟨k + 1, m, by omega, by omega, by go_num, rfl, ⟨_, rfl⟩, Lib.hid (by rw [HCN.out, hM.out]), B2, K2⟩
          case measure => simp [intOf]; omega
      · have hkz : ¬ (k : Int) < (c : Int) := by omega
        obtain rfl : k = c := by omega
        go_wp2_with fail
        go_ret2
        exact ⟨by rw [hM.out]; rfl, hB.out⟩
  · have HE := Lib.hid (gbp.res_no hok)
    rw [res_no hok]
    clear hok
    go_enter Try.func38, Try.ntmps38
    go_wp2_with fail
    refine HC.out.mono ?_
    rintro e w1 ⟨u', rfl, hu, hb⟩
    rw [HE.out] at hu ⊢
    obtain ⟨ra, rn, rc, rfl⟩ := hu.ints.shape
    have B1 := Lib.hid (below_tr B0.out hb)
    clear hb hu HC K0 HE
    go_wp2_with fail
    go_ret2
    exact ⟨rfl, B1.out⟩



set_option maxRecDepth 100000 in
set_option maxHeartbeats 8000000 in
theorem spec_any (x y : Int) (v : Value) (ws : List Int) (u : Value) (xss : List (List Int)) (w : World) (h : game.GV w v ws u xss) (hn : ws.length ≤ 1048576) (hm : total xss ≤ 1048576) :
    Calls Try.prog 37 #[.agg #[.int .i64 x, .int .i64 y, v, u]] w fun e w' => e = .returned (.tuple #[.int .i64 (res x y ws xss).1, .bool (res x y ws xss).2]) ∧ Below w.heap.size w w' := by
  obtain ⟨va, vn, vc, ua, un, uc, rfl, rfl⟩ := h.shape
  have H := Lib.hid h
  have K0 := Lib.hid (Blk.new w 28 #[.int .i64 x, .int .i64 y, .slice va vn vc, .slice ua un uc])
  have B0 := Lib.hid (below_al (Below.refl w.heap.size w) (.cells #[.int .i64 x, .int .i64 y, .slice va vn vc, .slice ua un uc] 28))
  have HC := Lib.hid (gval.spec_any x y _ ws _ xss _ (h.below B0.out) hn hm)
  clear h
  by_cases hok : okGame x y ws xss
  · have HE := Lib.hid (gameB_yes hok)
    rw [res_yes hok]
    obtain ⟨X, rfl⟩ : ∃ X : Nat, x = X := ⟨x.toNat, by have := hok.1.1; omega⟩
    obtain ⟨Y, rfl⟩ : ∃ Y : Nat, y = Y := ⟨y.toNat, by have := hok.1.2; omega⟩
    simp only [Int.toNat_natCast]
    have hX3 : X ≤ 3 := by have := hok.1.1.2; omega
    have hY3 : Y ≤ 3 := by have := hok.1.2.2; omega
    have HOK := Lib.hid hok
    have HBW := Lib.hid (gpp.best_within hok)
    obtain ⟨sc, hsc⟩ : ∃ sc, score X Y ws xss (best X Y ws xss) = sc := ⟨_, rfl⟩
    obtain ⟨c, hc⟩ : ∃ c : Nat, 2 ^ (X + Y) = c := ⟨_, rfl⟩
    have hc64 : c ≤ 64 := by rw [← hc]; exact plays.two_pow (by omega)
    have hc1 : 1 ≤ c := by rw [← hc]; exact Nat.two_pow_pos (X + Y)
    have HPL := Lib.hid (fun (W : World) => plays.l2plays X Y W hok.1)
    have hall : plays.all ((X : Int) + (Y : Int)).toNat = plays.upto (X + Y) c := by
      rw [show ((X : Int) + (Y : Int)).toNat = X + Y by omega, ← hc]; rfl
    rw [hall] at HPL
    have HLEN : Hid ((plays.upto (X + Y) c).length = c) := Lib.hid (plays.len_upto _ _)
    have HGET : Hid (∀ k (hk : k < (plays.upto (X + Y) c).length), (plays.upto (X + Y) c)[k] = at_ (X + Y) k) := Lib.hid (fun k hk => by simp [plays.upto])
    rw [hsc, hc]
    have HSC := Lib.hid hsc
    clear hok hsc hc hall
    go_enter Try.func37, Try.ntmps37
    go_wp2_with fail
    refine HC.out.mono ?_
    rintro e w1 ⟨rfl, hb⟩
    rw [HE.out]
    have B1 := Lib.hid (below_tr B0.out hb)
    have K1 := Lib.hid (K0.out.below hb)
    obtain ⟨c0, c1, c2, c3, c4⟩ := four_cells K1.out
    have HLB := Lib.hid (fun (W : World) (hW : Below w1.heap.size w1 W) => gbp.l4best X Y _ ws _ xss W (H.out.below (below_tr B1.out hW)) HOK.out)
    have HLS : Hid (∀ (W : World) (fv : Value), Below w1.heap.size w1 W → Ints W fv (best X Y ws xss) → Calls Try.prog 60 #[.agg #[.int .i64 (X : Int), .int .i64 (Y : Int), .slice va vn vc, .slice ua un uc], fv] W fun e w' => e = .returned (.int .i64 sc) ∧ Below W.heap.size W w') := Lib.hid (fun W fv hW hf => by
      have := gscore.l4score X Y _ ws _ xss fv (best X Y ws xss) W (H.out.below (below_tr B1.out hW)) hf HOK.out HBW.out
      rw [HSC.out] at this
      exact this)
    clear hb HC K0 B0
    go_wp2_with fail
    go_region_held3 (fun w' => w'.cell? ⟨w.heap.size, 0, none⟩ = some (.int .i64 (X : Int)) ∧ w'.cell? ⟨w.heap.size, 1, none⟩ = some (.int .i64 (Y : Int)) ∧ w'.cell? ⟨w.heap.size, 2, none⟩ = some (.slice va vn vc) ∧ w'.cell? ⟨w.heap.size, 3, none⟩ = some (.slice ua un uc) ∧ Below w1.heap.size w1 w')
      (((with_reducible refine held4 c0 c1 c2 c3 ?_); repeat (first | (with_reducible exact Below.refl _ _) | (with_reducible refine below_dr ?_) | (with_reducible refine below_tr ?_ (by assumption)))))
      (first
        | (go_at_call 67; (with_reducible refine (HLB.out _ ?_).mono ?_); (repeat (first | (with_reducible exact Below.refl _ _) | (with_reducible refine below_dr ?_) | (with_reducible refine below_tr ?_ (by assumption)))); rintro e wq1 ⟨f, rfl, hf, hq1⟩)
        | (go_at_call 60; (with_reducible refine (HLS.out _ _ ?_ ?_).mono ?_); (repeat (first | (with_reducible exact Below.refl _ _) | (with_reducible refine below_dr ?_) | (with_reducible refine below_tr ?_ (by assumption)))); (exact hf); rintro e wq2 ⟨rfl, hq2⟩))
    have hbt : Below w1.heap.size w1 wq2 := by repeat (first | (with_reducible exact Below.refl _ _) | (with_reducible refine below_dr ?_) | (with_reducible refine below_tr ?_ (by assumption)))
    have B2 := Lib.hid (below_tr B1.out hbt)
    have K2 := Lib.hid (K1.out.below hbt)
    clear hbt hq1 hq2 hf c0 c1 c2 c3 c4 K1 B1
    obtain ⟨c0, c1, c2, c3, c4⟩ := four_cells K2.out
    go_wp2_with fail
    refine (HPL.out _).mono ?_
    rintro e w3 ⟨pu, rfl, hu, hb⟩
    obtain ⟨A, b, o, cap, R, rfl, _, _, hA, hcell⟩ := hu.rows.form
    have hcell : ∀ k, k < c → w3.cell? ⟨b, o + k, none⟩ = some (R k) ∧ Ints w3 (R k) (at_ (X + Y) k) := fun k hk => by
      have := hcell k (by rw [HLEN.out]; exact hk)
      rw [HGET.out] at this
      exact this
    obtain rfl := hA (by rw [HLEN.out]; omega)
    have HCE := Lib.hid hcell
    have B3 := Lib.hid (below_tr B2.out hb)
    have K3 := Lib.hid (K2.out.below hb)
    have HL2 := HLEN.out
    have HBW3 : Hid (Below w3.heap.size w3 w3) := Lib.hid (Below.refl _ _)
    rw [HL2]
    clear HL2 hA hcell hb hu c0 c1 c2 c3 c4 K2 HPL
    have HSO : Hid (∀ (W : World) (k : Nat), Below w3.heap.size w3 W → k < c → Calls Try.prog 60 #[.agg #[.int .i64 (X : Int), .int .i64 (Y : Int), .slice va vn vc, .slice ua un uc], R k] W fun e w' => e = .returned (.int .i64 (S X Y ws xss k)) ∧ Below W.heap.size W w') := Lib.hid (fun W k hW hk => by
      refine gscore.l4score X Y _ ws _ xss _ (at_ (X + Y) k) W (H.out.below (below_tr B3.out hW)) ((HCE.out k hk).2.below hW) HOK.out ?_
      have := at_within (X + Y) k
      rw [Int.natCast_add] at this
      exact this)
    go_wp2_with fail
    go_loopw [4, 7] (fun nv i wr => ∃ k m : Nat, k ≤ c ∧ m ≤ k ∧ i = .int .i64 k ∧ nv = .int .i64 m ∧ Hid (cnt (S X Y ws xss) sc k = m) ∧ Hid (Below w3.heap.size w3 wr)) (fun _ i _ => c - (intOf i).toNat)
    case atStart => exact ⟨0, 0, Nat.zero_le _, Nat.le_refl _, rfl, rfl, Lib.hid rfl, HBW3⟩
    case round =>
      obtain ⟨k, m, hk, hmk, rfl, rfl, hM, hB⟩ := hrel
      clear HBW3
      obtain ⟨wi, rfl⟩ : ∃ wi : World, wi = wr := ⟨_, rfl⟩
      by_cases hlt : k < c
      · have hkz : (k : Int) < (c : Int) := by omega
        obtain ⟨c0, c1, c2, c3, c4⟩ := four_cells (K3.out.below hB.out)
        have f1 := below_cell hB.out _ _ (HCE.out k hlt).1
        obtain ⟨q, hq⟩ : ∃ q, S X Y ws xss k = q := ⟨_, rfl⟩
        have HSk : Hid (∀ W, Below wi.heap.size wi W → Calls Try.prog 60 #[.agg #[.int .i64 (X : Int), .int .i64 (Y : Int), .slice va vn vc, .slice ua un uc], R k] W fun e w' => e = .returned (.int .i64 q) ∧ Below W.heap.size W w') := Lib.hid (fun W hW => by have := HSO.out W k (below_tr hB.out hW) hlt; rw [hq] at this; exact this)
        obtain ⟨r1, hr1⟩ : ∃ r, R k = r := ⟨_, rfl⟩
        rw [hr1] at HSk f1
        clear hr1
        by_cases heq : q = sc
        · have dq : (q == sc) = true := by simp [heq]
          have HCN : Hid (cnt (S X Y ws xss) sc (k + 1) = cnt (S X Y ws xss) sc k + 1) := Lib.hid (cnt_yes (by rw [hq]; exact heq))
          clear heq hq
          go_wp2_with fail
          go_region_held3 (fun w' => w'.cell? ⟨w.heap.size, 0, none⟩ = some (.int .i64 (X : Int)) ∧ w'.cell? ⟨w.heap.size, 1, none⟩ = some (.int .i64 (Y : Int)) ∧ w'.cell? ⟨w.heap.size, 2, none⟩ = some (.slice va vn vc) ∧ w'.cell? ⟨w.heap.size, 3, none⟩ = some (.slice ua un uc) ∧ w'.cell? ⟨b, o + k, none⟩ = some r1 ∧ Below wi.heap.size wi w')
            (((with_reducible refine held5 c0 c1 c2 c3 f1 ?_); repeat (first | (with_reducible exact Below.refl _ _) | (with_reducible refine below_dr ?_) | (with_reducible refine below_tr ?_ (by assumption)))))
            (first
              | (go_at_call 60; (with_reducible refine (HSk.out _ ?_).mono ?_); (repeat (first | (with_reducible exact Below.refl _ _) | (with_reducible refine below_dr ?_) | (with_reducible refine below_tr ?_ (by assumption)))); rintro e wq1 ⟨rfl, hx1⟩))
          have hbt : Below wi.heap.size wi wq1 := by repeat (first | (with_reducible exact Below.refl _ _) | (with_reducible refine below_dr ?_) | (with_reducible refine below_tr ?_ (by assumption)))
          have B2 := Lib.hid (below_tr hB.out hbt)
          clear hbt hx1 c0 c1 c2 c3 c4 f1
          go_wp2_with fail
          go_roundw
          case rel => exact ⟨k + 1, m + 1, by omega, by omega, by go_num, by go_num, Lib.hid (by rw [HCN.out, hM.out]), B2⟩
          case measure => simp [intOf]; omega
        · have dq : (q == sc) = false := by simp [heq]
          have HCN : Hid (cnt (S X Y ws xss) sc (k + 1) = cnt (S X Y ws xss) sc k) := Lib.hid (cnt_no (by rw [hq]; exact heq))
          clear heq hq
          go_wp2_with fail
          go_region_held3 (fun w' => w'.cell? ⟨w.heap.size, 0, none⟩ = some (.int .i64 (X : Int)) ∧ w'.cell? ⟨w.heap.size, 1, none⟩ = some (.int .i64 (Y : Int)) ∧ w'.cell? ⟨w.heap.size, 2, none⟩ = some (.slice va vn vc) ∧ w'.cell? ⟨w.heap.size, 3, none⟩ = some (.slice ua un uc) ∧ w'.cell? ⟨b, o + k, none⟩ = some r1 ∧ Below wi.heap.size wi w')
            (((with_reducible refine held5 c0 c1 c2 c3 f1 ?_); repeat (first | (with_reducible exact Below.refl _ _) | (with_reducible refine below_dr ?_) | (with_reducible refine below_tr ?_ (by assumption)))))
            (first
              | (go_at_call 60; (with_reducible refine (HSk.out _ ?_).mono ?_); (repeat (first | (with_reducible exact Below.refl _ _) | (with_reducible refine below_dr ?_) | (with_reducible refine below_tr ?_ (by assumption)))); rintro e wq1 ⟨rfl, hx1⟩))
          have hbt : Below wi.heap.size wi wq1 := by repeat (first | (with_reducible exact Below.refl _ _) | (with_reducible refine below_dr ?_) | (with_reducible refine below_tr ?_ (by assumption)))
          have B2 := Lib.hid (below_tr hB.out hbt)
          clear hbt hx1 c0 c1 c2 c3 c4 f1
          go_wp2_with fail
          go_roundw
          case rel => exact ⟨k + 1, m, by omega, by omega, by go_num, rfl, Lib.hid (by rw [HCN.out, hM.out]), B2⟩
          case measure => simp [intOf]; omega
      · have hkz : ¬ (k : Int) < (c : Int) := by omega
        obtain rfl : k = c := by omega
        have B4 := Lib.hid (below_tr B3.out hB.out)
        go_wp2_with fail
        go_ret2
        exact ⟨by rw [hM.out]; rfl, B4.out⟩
  · have HE := Lib.hid (gameB_no hok)
    rw [res_no hok]
    clear hok
    go_enter Try.func37, Try.ntmps37
    go_wp2_with fail
    refine HC.out.mono ?_
    rintro e w1 ⟨rfl, hb⟩
    rw [HE.out]
    have B1 := Lib.hid (below_tr B0.out hb)
    clear hb HC K0
    go_wp2_with fail
    go_ret2
    exact ⟨rfl, B1.out⟩


end Go.Proofs.Ytkajebhagkbcaac.gcb
