/- GameFunctional of both sides. -/
import Derived.Test.YtlaaiahkdkhehabGplay
import Derived.Test.YtlaaiahkdkhehabPile
import Derived.Deep.RegionWith
namespace Go.Proofs.Ytlaaiahkdkhehab.gfun
open Go.RowKit Go.Deep Go.Proofs.Ytlaaiahkdkhehab.base
open Go.Proofs.Ytlaaiahkdkhehab.ints (ret_int infoInt infoInts)
open Go.Proofs.Ytlaaiahkdkhehab.rws (total)
open Go.Proofs.Ytlaaiahkdkhehab.val (okSizes ret_b)
open Go.Proofs.Ytlaaiahkdkhehab.gval (okGame gameB gameB_yes gameB_no)
open Go.Proofs.Ytlaaiahkdkhehab.row (nn at_)
open Go.Proofs.Ytlaaiahkdkhehab.gwon (wt wt_bd nn_bd)
open Go.Proofs.Ytlaaiahkdkhehab.gscore (at_cast)

def N (ws : List Int) (xss : List (List Int)) (t k : Nat) : Int := wt ws t * nn xss t k
/-- the functional of a valid Game -/
def rows (ws : List Int) (xss : List (List Int)) (n : Nat) : List (List Int) := make.rowsOf (N ws xss) n
open Classical in
noncomputable def res (x y : Int) (ws : List Int) (xss : List (List Int)) : List (List Int) × Bool := if okGame x y ws xss then (rows ws xss (x.toNat * y.toNat), true) else ([], false)
theorem res_yes {x y : Int} {ws : List Int} {xss : List (List Int)} (h : okGame x y ws xss) : res x y ws xss = (rows ws xss (x.toNat * y.toNat), true) := if_pos h
theorem res_no {x y : Int} {ws : List Int} {xss : List (List Int)} (h : ¬ okGame x y ws xss) : res x y ws xss = ([], false) := if_neg h
theorem mul_nat {x y : Int} (h : okSizes x y) : x.toNat * y.toNat ≤ 9 := by
  have := (val.mul_small h).2
  have e : ((x.toNat * y.toNat : Nat) : Int) = x * y := by
    rw [Int.natCast_mul, Int.toNat_of_nonneg (by have := h.1; omega), Int.toNat_of_nonneg (by have := h.2; omega)]
  omega
theorem tot (x y : Int) (ws : List Int) (xss : List (List Int)) : total (res x y ws xss).1 ≤ 1048576 := by
  by_cases h : okGame x y ws xss
  · rw [res_yes h]; exact make.total_rowsOf _ _ (mul_nat h.1)
  · rw [res_no h]; exact Nat.zero_le _



def st (z n0 n1 n2 n3 : Int) (j : Nat) : Array Value := #[.int .i64 (if 0 < j then z * n0 else n0), .int .i64 (if 1 < j then z * n1 else n1), .int .i64 (if 2 < j then z * n2 else n2), .int .i64 (if 3 < j then z * n3 else n3)]
set_option maxRecDepth 100000 in
set_option maxHeartbeats 4000000 in
theorem clo (p0 : Nat) (X Y a c : Nat) (v : Value) (ws : List Int) (u : Value) (xss : List (List Int)) (w : World) (hK : Blk w p0 29 #[.int .i64 (X : Int), .int .i64 (Y : Int), v, u])
    (h : game.GV w v ws u xss) (hok : okGame X Y ws xss) (ha : a < X) (hc : c < Y) :
    Calls Try.prog 157 #[.int .i64 (a : Int), .int .i64 (c : Int), .pointer (some ⟨p0, 0, none⟩)] w fun e w' =>
      e = .returned (.agg #[.int .i64 (N ws xss (a * Y + c) 0), .int .i64 (N ws xss (a * Y + c) 1), .int .i64 (N ws xss (a * Y + c) 2), .int .i64 (N ws xss (a * Y + c) 3)]) ∧ Below w.heap.size w w' := by
  unfold N
  have HWO := Lib.hid (fun (W : World) (hb : Below w.heap.size w W) => gwon.winsof X Y a c v ws u xss W (h.below hb) hok (by omega) (by omega) (by omega) (by omega))
  have HWT := Lib.hid (fun (W : World) (hb : Below w.heap.size w W) => gwon.weightof X Y a c v ws u xss W (h.below hb) hok (by omega) (by omega) (by omega) (by omega))
  rw [at_cast] at HWO HWT
  obtain ⟨wb0, wb1⟩ := wt_bd hok (a * Y + c)
  obtain ⟨n00, n01⟩ := nn_bd hok (a * Y + c) 0
  obtain ⟨n10, n11⟩ := nn_bd hok (a * Y + c) 1
  obtain ⟨n20, n21⟩ := nn_bd hok (a * Y + c) 2
  obtain ⟨n30, n31⟩ := nn_bd hok (a * Y + c) 3
  obtain ⟨va, vn, vc, ua, un, uc, rfl, rfl⟩ := h.shape
  clear h hok
  generalize nn xss (a * Y + c) 0 = n0 at *
  generalize nn xss (a * Y + c) 1 = n1 at *
  generalize nn xss (a * Y + c) 2 = n2 at *
  generalize nn xss (a * Y + c) 3 = n3 at *
  generalize wt ws (a * Y + c) = z at *
  have mb : ∀ n : Int, 0 ≤ n → n ≤ 1 → IntKind.i64.wrap (n * z) = z * n := fun n h0 h1 => by
    have hx : n = 0 ∨ n = 1 := by omega
    rw [Int.mul_comm n z]
    rcases hx with e | e <;> subst e <;> exact IntWalk.i64_in _ (by omega)
  have m0 := mb n0 n00 n01
  have m1 := mb n1 n10 n11
  have m2 := mb n2 n20 n21
  have m3 := mb n3 n30 n31
  clear mb n00 n01 n10 n11 n20 n21 n30 n31 wb0 wb1
  have B0 := Lib.hid (below_al (Below.refl w.heap.size w) (.cells #[.int .i64 0, .int .i64 0, .int .i64 0, .int .i64 0] 90))
  have R0 := Lib.hid (Blk.new w 90 #[.int .i64 0, .int .i64 0, .int .i64 0, .int .i64 0])
  have HK := Lib.hid hK
  obtain ⟨c0, c1, c2, c3, c4⟩ := four_cells (hK.below B0.out)
  clear hK
  go_enter Try.func157, Try.ntmps157
  go_wp2_with fail
  refine (HWO.out _ B0.out).mono ?_
  rintro e w1 ⟨rfl, hb⟩
  have B1 := Lib.hid (below_tr B0.out hb)
  have R1 := Lib.hid (R0.out.below hb)
  obtain ⟨g, hg⟩ : ∃ g, w1.heap.size = g := ⟨_, rfl⟩
  have hgz : w.heap.size < g := by have := hb.size; simp at this; omega
  clear hb c0 c1 c2 c3 c4 HWO B0 R0
  go_wp2_with fail
  have HS0 : Hid (Blk (w1.alloc (.cells #[.int .i64 n0, .int .i64 n1, .int .i64 n2, .int .i64 n3] 90)) g 90 (st z n0 n1 n2 n3 0) ∧ Blk (w1.alloc (.cells #[.int .i64 n0, .int .i64 n1, .int .i64 n2, .int .i64 n3] 90)) w.heap.size 90 #[.int .i64 0, .int .i64 0, .int .i64 0, .int .i64 0] ∧ Below w.heap.size w (w1.alloc (.cells #[.int .i64 n0, .int .i64 n1, .int .i64 n2, .int .i64 n3] 90))) :=
    Lib.hid ⟨by have := Blk.new w1 90 #[.int .i64 n0, .int .i64 n1, .int .i64 n2, .int .i64 n3]; rw [hg] at this; simpa [st] using this, R1.out.alloc _, below_al B1.out _⟩
  clear hg B1 R1
  go_loopw [7, 12] (fun q i wr => ∃ j : Nat, j ≤ 4 ∧ i = .int .i64 j ∧ (∃ q', q = q') ∧ Hid (Blk wr g 90 (st z n0 n1 n2 n3 j) ∧ Blk wr w.heap.size 90 #[.int .i64 0, .int .i64 0, .int .i64 0, .int .i64 0] ∧ Below w.heap.size w wr)) (fun _ i _ => 4 - (intOf i).toNat)
  case atStart => exact ⟨0, Nat.zero_le _, rfl, ⟨_, rfl⟩, HS0⟩
  case round =>
    obtain ⟨j, hj, rfl, ⟨q', rfl⟩, hS⟩ := hrel
    clear HS0
    obtain ⟨wi, rfl⟩ : ∃ wi : World, wi = wr := ⟨_, rfl⟩
    obtain rfl | rfl | rfl | rfl | rfl : j = 0 ∨ j = 1 ∨ j = 2 ∨ j = 3 ∨ j = 4 := by omega
    · have hB : Blk wi g 90 #[.int .i64 n0, .int .i64 n1, .int .i64 n2, .int .i64 n3] := by simpa [st] using hS.out.1
      have HBI := Lib.hid hB
      obtain ⟨c0, c1, c2, c3, c4⟩ := four_cells hB
      obtain ⟨k0, k1, k2, k3, k4⟩ := four_cells (HK.out.below hS.out.2.2)
      clear hB
      go_wp2_with fail
      go_region_with ((go_at_call 70; (with_reducible refine (HWT.out _ (below_tr hS.out.2.2 ?_)).mono ?_); (repeat (first | (with_reducible exact Below.refl _ _) | (with_reducible refine below_dr ?_) | (with_reducible refine below_tr ?_ (by assumption)))); rintro e wq ⟨rfl, hq⟩; (have ht : Below wi.heap.size wi wq := by repeat (first | (with_reducible exact Below.refl _ _) | (with_reducible refine below_dr ?_) | (with_reducible refine below_tr ?_ (by assumption)))); have hBq := HBI.out.below ht; obtain ⟨d0, d1, d2, d3, d4⟩ := four_cells hBq; (have rf : ∀ k, wq.frozen? ⟨g, k, none⟩ = false := fun k => Joins.unfrozen_of_block hBq k); have HT := Lib.hid ht; have HBQ := Lib.hid hBq; clear hq ht hBq))
      all_goals
        go_wp2_with fail
        go_roundw
        case rel =>
          refine ⟨1, by omega, by go_num, ⟨_, rfl⟩, Lib.hid ⟨?_, ?_, ?_⟩⟩
          · have hB2 : Blk (wq.setCell ⟨g, 0, none⟩ (.int .i64 (z * n0))) g 90 (st z n0 n1 n2 n3 1) := by
              have := Joins.block_setCell (i := 0) HBQ.out (.int .i64 (z * n0))
              unfold Blk
              simpa [st] using this
            exact hB2.below (by repeat (first | exact Below.refl _ _ | refine below_dr ?_))
          · refine Blk.wrote (S := fun p => p.block = g) (hS.out.2.1.below HT.out) ?_ (fun p hp => by rw [show p.block = g from hp]; omega)
            exact (Wrote.refl (fun p : Addr => p.block = g) wq).setCell (p := (⟨g, 0, none⟩ : Addr)) rfl _
          · repeat (first | exact below_tr hS.out.2.2 HT.out | refine below_dr ?_ | refine Below.setCell ?_ (by show w.heap.size ≤ g; omega) _)
        case measure => simp [intOf]
    · have hB : Blk wi g 90 #[.int .i64 (z * n0), .int .i64 n1, .int .i64 n2, .int .i64 n3] := by simpa [st] using hS.out.1
      have HBI := Lib.hid hB
      obtain ⟨c0, c1, c2, c3, c4⟩ := four_cells hB
      obtain ⟨k0, k1, k2, k3, k4⟩ := four_cells (HK.out.below hS.out.2.2)
      clear hB
      go_wp2_with fail
      go_region_with ((go_at_call 70; (with_reducible refine (HWT.out _ (below_tr hS.out.2.2 ?_)).mono ?_); (repeat (first | (with_reducible exact Below.refl _ _) | (with_reducible refine below_dr ?_) | (with_reducible refine below_tr ?_ (by assumption)))); rintro e wq ⟨rfl, hq⟩; (have ht : Below wi.heap.size wi wq := by repeat (first | (with_reducible exact Below.refl _ _) | (with_reducible refine below_dr ?_) | (with_reducible refine below_tr ?_ (by assumption)))); have hBq := HBI.out.below ht; obtain ⟨d0, d1, d2, d3, d4⟩ := four_cells hBq; (have rf : ∀ k, wq.frozen? ⟨g, k, none⟩ = false := fun k => Joins.unfrozen_of_block hBq k); have HT := Lib.hid ht; have HBQ := Lib.hid hBq; clear hq ht hBq))
      all_goals
        go_wp2_with fail
        go_roundw
        case rel =>
          refine ⟨2, by omega, by go_num, ⟨_, rfl⟩, Lib.hid ⟨?_, ?_, ?_⟩⟩
          · have hB2 : Blk (wq.setCell ⟨g, 1, none⟩ (.int .i64 (z * n1))) g 90 (st z n0 n1 n2 n3 2) := by
              have := Joins.block_setCell (i := 1) HBQ.out (.int .i64 (z * n1))
              unfold Blk
              simpa [st] using this
            exact hB2.below (by repeat (first | exact Below.refl _ _ | refine below_dr ?_))
          · refine Blk.wrote (S := fun p => p.block = g) (hS.out.2.1.below HT.out) ?_ (fun p hp => by rw [show p.block = g from hp]; omega)
            exact (Wrote.refl (fun p : Addr => p.block = g) wq).setCell (p := (⟨g, 1, none⟩ : Addr)) rfl _
          · repeat (first | exact below_tr hS.out.2.2 HT.out | refine below_dr ?_ | refine Below.setCell ?_ (by show w.heap.size ≤ g; omega) _)
        case measure => simp [intOf]
    · have hB : Blk wi g 90 #[.int .i64 (z * n0), .int .i64 (z * n1), .int .i64 n2, .int .i64 n3] := by simpa [st] using hS.out.1
      have HBI := Lib.hid hB
      obtain ⟨c0, c1, c2, c3, c4⟩ := four_cells hB
      obtain ⟨k0, k1, k2, k3, k4⟩ := four_cells (HK.out.below hS.out.2.2)
      clear hB
      go_wp2_with fail
      go_region_with ((go_at_call 70; (with_reducible refine (HWT.out _ (below_tr hS.out.2.2 ?_)).mono ?_); (repeat (first | (with_reducible exact Below.refl _ _) | (with_reducible refine below_dr ?_) | (with_reducible refine below_tr ?_ (by assumption)))); rintro e wq ⟨rfl, hq⟩; (have ht : Below wi.heap.size wi wq := by repeat (first | (with_reducible exact Below.refl _ _) | (with_reducible refine below_dr ?_) | (with_reducible refine below_tr ?_ (by assumption)))); have hBq := HBI.out.below ht; obtain ⟨d0, d1, d2, d3, d4⟩ := four_cells hBq; (have rf : ∀ k, wq.frozen? ⟨g, k, none⟩ = false := fun k => Joins.unfrozen_of_block hBq k); have HT := Lib.hid ht; have HBQ := Lib.hid hBq; clear hq ht hBq))
      all_goals
        go_wp2_with fail
        go_roundw
        case rel =>
          refine ⟨3, by omega, by go_num, ⟨_, rfl⟩, Lib.hid ⟨?_, ?_, ?_⟩⟩
          · have hB2 : Blk (wq.setCell ⟨g, 2, none⟩ (.int .i64 (z * n2))) g 90 (st z n0 n1 n2 n3 3) := by
              have := Joins.block_setCell (i := 2) HBQ.out (.int .i64 (z * n2))
              unfold Blk
              simpa [st] using this
            exact hB2.below (by repeat (first | exact Below.refl _ _ | refine below_dr ?_))
          · refine Blk.wrote (S := fun p => p.block = g) (hS.out.2.1.below HT.out) ?_ (fun p hp => by rw [show p.block = g from hp]; omega)
            exact (Wrote.refl (fun p : Addr => p.block = g) wq).setCell (p := (⟨g, 2, none⟩ : Addr)) rfl _
          · repeat (first | exact below_tr hS.out.2.2 HT.out | refine below_dr ?_ | refine Below.setCell ?_ (by show w.heap.size ≤ g; omega) _)
        case measure => simp [intOf]
    · have hB : Blk wi g 90 #[.int .i64 (z * n0), .int .i64 (z * n1), .int .i64 (z * n2), .int .i64 n3] := by simpa [st] using hS.out.1
      have HBI := Lib.hid hB
      obtain ⟨c0, c1, c2, c3, c4⟩ := four_cells hB
      obtain ⟨k0, k1, k2, k3, k4⟩ := four_cells (HK.out.below hS.out.2.2)
      clear hB
      go_wp2_with fail
      go_region_with ((go_at_call 70; (with_reducible refine (HWT.out _ (below_tr hS.out.2.2 ?_)).mono ?_); (repeat (first | (with_reducible exact Below.refl _ _) | (with_reducible refine below_dr ?_) | (with_reducible refine below_tr ?_ (by assumption)))); rintro e wq ⟨rfl, hq⟩; (have ht : Below wi.heap.size wi wq := by repeat (first | (with_reducible exact Below.refl _ _) | (with_reducible refine below_dr ?_) | (with_reducible refine below_tr ?_ (by assumption)))); have hBq := HBI.out.below ht; obtain ⟨d0, d1, d2, d3, d4⟩ := four_cells hBq; (have rf : ∀ k, wq.frozen? ⟨g, k, none⟩ = false := fun k => Joins.unfrozen_of_block hBq k); have HT := Lib.hid ht; have HBQ := Lib.hid hBq; clear hq ht hBq))
      all_goals
        go_wp2_with fail
        go_roundw
        case rel =>
          refine ⟨4, by omega, by go_num, ⟨_, rfl⟩, Lib.hid ⟨?_, ?_, ?_⟩⟩
          · have hB2 : Blk (wq.setCell ⟨g, 3, none⟩ (.int .i64 (z * n3))) g 90 (st z n0 n1 n2 n3 4) := by
              have := Joins.block_setCell (i := 3) HBQ.out (.int .i64 (z * n3))
              unfold Blk
              simpa [st] using this
            exact hB2.below (by repeat (first | exact Below.refl _ _ | refine below_dr ?_))
          · refine Blk.wrote (S := fun p => p.block = g) (hS.out.2.1.below HT.out) ?_ (fun p hp => by rw [show p.block = g from hp]; omega)
            exact (Wrote.refl (fun p : Addr => p.block = g) wq).setCell (p := (⟨g, 3, none⟩ : Addr)) rfl _
          · repeat (first | exact below_tr hS.out.2.2 HT.out | refine below_dr ?_ | refine Below.setCell ?_ (by show w.heap.size ≤ g; omega) _)
        case measure => simp [intOf]
    · have hB : Blk wi g 90 #[.int .i64 (z * n0), .int .i64 (z * n1), .int .i64 (z * n2), .int .i64 (z * n3)] := by simpa [st] using hS.out.1
      obtain ⟨c0, c1, c2, c3, c4⟩ := four_cells hB
      obtain ⟨r0, r1, r2, r3, r4⟩ := four_cells hS.out.2.1
      have rf : ∀ k, wi.frozen? ⟨w.heap.size, k, none⟩ = false := fun k => Joins.unfrozen_of_block hS.out.2.1 k
      have HB := Lib.hid hS.out.2.2
      clear hS
      go_wp2_with fail
      refine bodyPost_ret (v := .agg #[.int .i64 (z * n0), .int .i64 (z * n1), .int .i64 (z * n2), .int .i64 (z * n3)]) (by simp [results, Try.results157, go_sem, r0, r1, r2, r3]) rfl ⟨rfl, ?_⟩
      repeat (refine Below.setCell ?_ (by simp <;> omega) _)
      exact HB.out

set_option maxHeartbeats 4000000 in
theorem make_anyR (p0 : Nat) (X Y : Nat) (N : Nat → Nat → Int) (w : World) (hX : X ≤ 3) (hY : Y ≤ 3)
    (hrow : ∀ (i j : Nat) (W : World), i < X → j < Y → Below w.heap.size w W → Calls Try.prog 157 #[.int .i64 (i : Int), .int .i64 (j : Int), .pointer (some ⟨p0, 0, none⟩)] W fun e w' =>
      e = .returned (.agg #[.int .i64 (N (i * Y + j) 0), .int .i64 (N (i * Y + j) 1), .int .i64 (N (i * Y + j) 2), .int .i64 (N (i * Y + j) 3)]) ∧ Below W.heap.size W w') :
    Calls Try.prog 129 #[.int .i64 (X : Int), .int .i64 (Y : Int), .func (.func 157) #[] #[.pointer (some ⟨p0, 0, none⟩)]] w fun e w' => ∃ u, e = .returned u ∧
      OwnRows w' w.heap.size w'.heap.size u (make.rowsOf N (X * Y)) ∧ Below w.heap.size w w' := by
  obtain ⟨i0, hi, hz0, hz1, hz2⟩ := info_parts infoInts
  have h9 : X * Y ≤ 9 := Nat.mul_le_mul hX hY
  have hm : (X : Int) * (Y : Int) = ((X * Y : Nat) : Int) := by simp
  have hmk := app.mk0s (X * Y) (by omega)
  rw [← hm] at hmk
  have hw1 : IntKind.i64.wrap ((X : Int) * (Y : Int)) = (X : Int) * (Y : Int) := IntWalk.i64_in _ (by omega)
  have HM := Lib.hid hm
  have HR := Lib.hid hrow
  have P0 : Hid (pile.Pile w (w.alloc (.cells (madeCells #[.slice none 0 0] (X * Y)) 22)) w.heap.size (w.alloc (.cells (madeCells #[.slice none 0 0] (X * Y)) 22)).heap.size (.slice (some ⟨w.heap.size, 0, none⟩) 0 (X * Y)) [] (make.rowsOf N (0 * Y))) := Lib.hid (by
    rw [Nat.zero_mul]
    refine pile.start (below_al (Below.refl _ _) _) (Nat.le_refl _) ?_ (by simp)
    have := World.ownsRow_made (base := w.heap.size) (e := 22) (size := 1) w (madeCells #[.slice none 0 0] (X * Y)) (X * Y) (Nat.le_refl _) (by unfold maxLen; omega) (by simp [madeCells])
    simpa using this)
  clear hm hrow
  go_enter Try.func129, Try.ntmps129
  go_wp2_with fail
  clear hmk hw1
  go_loopw [7, 17] (fun v i wr => ∃ a : Nat, a ≤ X ∧ i = .int .i64 a ∧ ∃ vals, Hid (pile.Pile w wr w.heap.size wr.heap.size v vals (make.rowsOf N (a * Y)))) (fun _ i _ => X - (intOf i).toNat)
  case atStart => exact ⟨0, Nat.zero_le _, rfl, _, P0⟩
  case round =>
    obtain ⟨a, ha, rfl, vals, hP⟩ := hrel
    clear P0
    obtain ⟨wo, rfl⟩ : ∃ wo : World, wo = wr := ⟨_, rfl⟩
    by_cases hlt : a < X
    · have hkz : (a : Int) < (X : Int) := by omega
      go_wp2_with fail
      go_loopw [7, 21] (fun v j wi => ∃ c : Nat, c ≤ Y ∧ j = .int .i64 c ∧ ∃ vals, Hid (pile.Pile w wi w.heap.size wi.heap.size v vals (make.rowsOf N (a * Y + c)))) (fun _ j _ => Y - (intOf j).toNat)
      case atStart => exact ⟨0, Nat.zero_le _, rfl, _, hP⟩
      case round =>
        obtain ⟨c, hc, rfl, vals, hP⟩ := hrel
        obtain ⟨wi, rfl⟩ : ∃ wi : World, wi = wr := ⟨_, rfl⟩
        by_cases hlc : c < Y
        · have hkc : (c : Int) < (Y : Int) := by omega
          have HCA := Lib.hid (HR.out a c wi hlt hlc hP.out.below)
          have hk9 : a * Y + c < 9 := by
            have h1 : a * Y + c < (a + 1) * Y := by rw [Nat.add_mul]; omega
            have h2 : (a + 1) * Y ≤ X * Y := Nat.mul_le_mul_right _ (by omega)
            omega
          have HK9 := Lib.hid hk9
          have HLE := Lib.hid (make.len_rowsOf N (a * Y + c))
          clear hk9
          go_wp2_with fail
          refine HCA.out.mono ?_
          rintro e w2 ⟨rfl, hb⟩
          have W2 := Lib.hid (hP.out.keep hb)
          have hcp := row.copy4p (W := w2.alloc (.cells #[.int .i64 (N (a * Y + c) 0), .int .i64 (N (a * Y + c) 1), .int .i64 (N (a * Y + c) 2), .int .i64 (N (a * Y + c) 3)] 90)) (b := w2.heap.size) (o := 0) (cap := 4) (n := w2.heap.size + 1)
            (n0 := .int .i64 (N (a * Y + c) 0)) (n1 := .int .i64 (N (a * Y + c) 1)) (n2 := .int .i64 (N (a * Y + c) 2)) (n3 := .int .i64 (N (a * Y + c) 3)) #[.int .i64 0, .int .i64 0, .int .i64 0, .int .i64 0] 3 rfl (by simp)
            (by rw [Joins.cell_of_block (heap_alloc_new w2 _)]; rfl) (by rw [Joins.cell_of_block (heap_alloc_new w2 _)]; rfl) (by rw [Joins.cell_of_block (heap_alloc_new w2 _)]; rfl) (by rw [Joins.cell_of_block (heap_alloc_new w2 _)]; rfl) rfl rfl rfl rfl
          have hrowis : ((w2.alloc (.cells #[.int .i64 (N (a * Y + c) 0), .int .i64 (N (a * Y + c) 1), .int .i64 (N (a * Y + c) 2), .int .i64 (N (a * Y + c) 3)] 90)).alloc (.cells #[.int .i64 (N (a * Y + c) 0), .int .i64 (N (a * Y + c) 1), .int .i64 (N (a * Y + c) 2), .int .i64 (N (a * Y + c) 3)] 3)).rowIs (w2.heap.size + 1) 3 4 (fun j => .int .i64 ((make.quad N (a * Y + c)).getD j 0)) := by
            refine ⟨#[.int .i64 (N (a * Y + c) 0), .int .i64 (N (a * Y + c) 1), .int .i64 (N (a * Y + c) 2), .int .i64 (N (a * Y + c) 3)], by
              have := heap_alloc_new (w2.alloc (.cells #[.int .i64 (N (a * Y + c) 0), .int .i64 (N (a * Y + c) 1), .int .i64 (N (a * Y + c) 2), .int .i64 (N (a * Y + c) 3)] 90)) (.cells #[.int .i64 (N (a * Y + c) 0), .int .i64 (N (a * Y + c) 1), .int .i64 (N (a * Y + c) 2), .int .i64 (N (a * Y + c) 3)] 3)
              simpa using this, rfl, fun i hi => ?_⟩
            match i, hi with
            | 0, _ => rfl
            | 1, _ => rfl
            | 2, _ => rfl
            | 3, _ => rfl
          have HRI := Lib.hid (hrowis.alloc (.cells #[.slice (some ⟨w2.heap.size + 1, 0, none⟩) 4 4] 22))
          have P3 := Lib.hid (((W2.out.keep (below_al (Below.refl _ _) (.cells #[.int .i64 (N (a * Y + c) 0), .int .i64 (N (a * Y + c) 1), .int .i64 (N (a * Y + c) 2), .int .i64 (N (a * Y + c) 3)] 90))).keep (below_al (Below.refl _ _) (.cells #[.int .i64 (N (a * Y + c) 0), .int .i64 (N (a * Y + c) 1), .int .i64 (N (a * Y + c) 2), .int .i64 (N (a * Y + c) 3)] 3))).keep (below_al (Below.refl _ _) (.cells #[.slice (some ⟨w2.heap.size + 1, 0, none⟩) 4 4] 22)))
          have hm4 := make.mk4
          have hsz := hb.size
          have hsw := W2.out.below.size
          clear hb hP HCA hrowis W2
          go_wp2_with (at_builtin; go_must (refine wpList_append_own _ rfl (.tmp 32) (.tmp 34) 23 rfl w.heap.size 22 i0 (.slice none 0 0) 1 24 Try.underlying23 hi hz0 hz1 hz2 rfl (by decide) _ _ _ rfl P3.out.owns ⟨w2.heap.size + 1 + 1, 0, none⟩ 1 1 [.slice (some ⟨w2.heap.size + 1, 0, none⟩) 4 4] rfl rfl ?c1 ?c2 ?c3 ?c4 ?c5 ?_))
          case c1 =>
            have := app.one_at ((w2.alloc (.cells #[.int .i64 (N (a * Y + c) 0), .int .i64 (N (a * Y + c) 1), .int .i64 (N (a * Y + c) 2), .int .i64 (N (a * Y + c) 3)] 90)).alloc (.cells #[.int .i64 (N (a * Y + c) 0), .int .i64 (N (a * Y + c) 1), .int .i64 (N (a * Y + c) 2), .int .i64 (N (a * Y + c) 3)] 3)) (.slice (some ⟨w2.heap.size + 1, 0, none⟩) 4 4) 22
            simpa using this
          case c2 => intro u hu; simp at hu; subst hu; rfl
          case c3 => rw [HLE.out]; have := HK9.out; unfold maxLen; omega
          case c4 => rw [HLE.out]; have := HK9.out; omega
          case c5 => simp; omega
          intro v' w3 hown' hgrow _
          have P4 : Hid (pile.Pile w w3 w.heap.size w3.heap.size v' (vals ++ [.slice (some ⟨w2.heap.size + 1, 0, none⟩) 4 4]) (make.rowsOf N (a * Y + (c + 1)))) := Lib.hid (by
            have e : make.rowsOf N (a * Y + (c + 1)) = make.rowsOf N (a * Y + c) ++ [make.quad N (a * Y + c)] := by simp [make.rowsOf, ← Nat.add_assoc, List.range_succ]
            rw [e]
            refine P3.out.grow (m' := w2.heap.size + 1) (T := w2.heap.size + 1 + 1) (ints.own_of_row (xs := make.quad N (a * Y + c)) HRI.out (Nat.le_refl _) (by omega) (by simp [make.quad, maxLen])) (by omega) (by simp) (pile.typ_row HRI.out _ _) hown' hgrow)
          obtain ⟨va, vl, vc, rfl⟩ := make.shape hown'
          clear hown' hgrow P3 HRI hcp hm4
          go_wp2_with fail
          go_roundw
          case rel => exact ⟨c + 1, by omega, by go_num, _, P4⟩
          case measure => simp [intOf]; omega
        · have hkc : ¬ (c : Int) < (Y : Int) := by omega
          obtain rfl : c = Y := by omega
          go_wp2_with fail
          go_roundw
          case rel => exact ⟨a + 1, by omega, by go_num, vals, by rw [Nat.add_mul, Nat.one_mul]; exact hP⟩
          case measure => simp [intOf]; omega
    · have hkz : ¬ (a : Int) < (X : Int) := by omega
      obtain rfl : a = X := by omega
      obtain ⟨va, vl, vc, rfl⟩ := make.shape hP.out.owns
      go_wp2_with fail
      go_ret
      exact ⟨_, rfl, hP.out.rows, hP.out.below⟩

set_option maxHeartbeats 2000000 in
theorem impl_any (x y : Int) (v : Value) (ws : List Int) (u : Value) (xss : List (List Int)) (w : World) (h : game.GV w v ws u xss) (hn : ws.length ≤ 1048576) (hm : total xss ≤ 1048576) :
    Calls Try.prog 118 #[.agg #[.int .i64 x, .int .i64 y, v, u]] w fun e w' => ∃ u', e = .returned (.tuple #[u', .bool (res x y ws xss).2]) ∧ OwnRows w' w.heap.size w'.heap.size u' (res x y ws xss).1 ∧ Below w.heap.size w w' := by
  obtain ⟨va, vn, vc, ua, un, uc, rfl, rfl⟩ := h.shape
  have H := Lib.hid h
  have K0 := Lib.hid (Blk.new w 29 #[.int .i64 x, .int .i64 y, .slice va vn vc, .slice ua un uc])
  have HC := Lib.hid (fun o => gval.impl_any x y _ ws _ xss (w.alloc o) (h.below (below_al (Below.refl _ _) o)) hn hm)
  clear h
  by_cases hok : okGame x y ws xss
  · have HE := Lib.hid (gameB_yes hok)
    obtain ⟨X, rfl⟩ : ∃ X : Nat, x = X := ⟨x.toNat, by have := hok.1.1; omega⟩
    obtain ⟨Y, rfl⟩ : ∃ Y : Nat, y = Y := ⟨y.toNat, by have := hok.1.2; omega⟩
    rw [res_yes hok]
    have HOK := Lib.hid hok
    have hX : X ≤ 3 := by have := hok.1.1; omega
    have hY : Y ≤ 3 := by have := hok.1.2; omega
    clear hok
    go_enter Try.func118, Try.ntmps118
    go_wp2_with fail
    refine (HC.out _).mono ?_
    rintro e w1 ⟨rfl, hb⟩
    rw [HE.out]
    have B1 := Lib.hid (below_tr (below_al (Below.refl w.heap.size w) _) hb)
    have K1 := Lib.hid (K0.out.below hb)
    obtain ⟨c0, c1, c2, c3, c4⟩ := four_cells K1.out
    have HMK := Lib.hid (make_anyR w.heap.size X Y (N ws xss) w1 hX hY (fun i j W hi hj hW => clo w.heap.size X Y i j _ ws _ xss W (K1.out.below hW) (H.out.below (below_tr B1.out hW)) HOK.out hi hj))
    clear hb K0 HC
    go_wp2_with fail
    refine HMK.out.mono ?_
    rintro e w2 ⟨u', rfl, hu, hb⟩
    obtain ⟨xa, xn, xc, rfl⟩ := hu.rows.shape
    have U2 := Lib.hid (hu.mono (B' := w.heap.size) B1.out.size (Nat.le_refl _))
    have B2 := Lib.hid (below_tr B1.out hb)
    clear hu hb HMK
    go_wp2_with fail
    go_ret2
    exact ⟨_, rfl, U2.out, B2.out⟩
  · have HE := Lib.hid (gameB_no hok)
    rw [res_no hok]
    clear hok
    go_enter Try.func118, Try.ntmps118
    go_wp2_with fail
    refine (HC.out _).mono ?_
    rintro e w1 ⟨rfl, hb⟩
    rw [HE.out]
    have B1 := Lib.hid (below_tr (below_al (Below.refl _ _) _) hb)
    clear hb
    go_wp2_with fail
    go_ret2
    exact ⟨_, rfl, OwnRows.nil _ _ _, B1.out⟩


end Go.Proofs.Ytlaaiahkdkhehab.gfun
