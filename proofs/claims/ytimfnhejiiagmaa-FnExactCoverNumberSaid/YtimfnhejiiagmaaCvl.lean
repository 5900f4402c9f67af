/- l8Rectangles of the model. -/
import Derived.Test.YtimfnhejiiagmaaCvk
import Derived.Test.YtimfnhejiiagmaaApp
import Derived.Test.YtimfnhejiiagmaaPlg
namespace Go.Proofs.Ytimfnhejiiagmaa.cvl
open Go.RowKit Go.Deep Go.Proofs.Ytimfnhejiiagmaa.base
open Go.Proofs.Ytimfnhejiiagmaa.ints (infoInt)
open Go.Proofs.Ytimfnhejiiagmaa.task (okTask wide)
open Go.Proofs.Ytimfnhejiiagmaa.grid (nn at_ inB)
open Go.Proofs.Ytimfnhejiiagmaa.cvm Go.Proofs.Ytimfnhejiiagmaa.mem Go.Proofs.Ytimfnhejiiagmaa.cvs Go.Proofs.Ytimfnhejiiagmaa.cvk

theorem sum_z {a b c : Nat} (h : a + b = c) : (a : Int) + (b : Int) = (c : Int) := by omega
theorem le_sum {a b c m n : Nat} (h : a + b = c) (ha : a ≤ m) (hb : b ≤ n) : c ≤ m + n := by omega
theorem wrap_small (a : Nat) (h : a ≤ 16) : IntKind.i64.wrap (a : Int) = (a : Int) := IntWalk.i64_in _ (by omega)
theorem wrap_mid (a : Nat) (h : a ≤ 65536) : IntKind.i64.wrap (a : Int) = (a : Int) := IntWalk.i64_in _ (by omega)

set_option maxRecDepth 100000 in
set_option maxHeartbeats 8000000 in
theorem rects (tv : Value) (T : List (List Int)) (bt : Int) (w : World) (hok : okTask T) (hb : bt = 0 ∨ bt = 1) (ht : IRows w tv T) :
    Calls Try.prog 124 #[tv, .int .i64 bt] w fun e w' => ∃ u, e = .returned u ∧ Ints w' u (is (recC T bt T.length (wide T) (2 ^ T.length - 1))) ∧ Below w.heap.size w w' := by
  obtain ⟨i0, hi, hz0, hz1, hz2⟩ := info_parts infoInt
  obtain ⟨tb, td, tcap, rb, ro, rc, rfl, hcells⟩ := grid.cells ht hok
  have hX1 := hok.1.1
  have hX4 := hok.1.2
  have hY1 := hok.2.1.1
  have hY4 := hok.2.1.2
  have HOK := Lib.hid hok
  have HT := Lib.hid ht
  have HB := Lib.hid hb
  obtain ⟨X, hX⟩ : ∃ X, T.length = X := ⟨_, rfl⟩
  obtain ⟨Y, hY⟩ : ∃ Y, wide T = Y := ⟨_, rfl⟩
  rw [hX] at hX1 hX4 hcells ⊢
  rw [hY] at hY1 hY4 hcells ⊢
  have HX := Lib.hid hX
  have HY := Lib.hid hY
  obtain ⟨N, hN⟩ : ∃ N : Nat, 2 ^ X = N := ⟨_, rfl⟩
  have hN16 : N ≤ 16 := by rw [← hN]; exact Nat.pow_le_pow_right (n := 2) (by omega) hX4
  have hN2 : 1 ≤ N := by rw [← hN]; exact Nat.pow_pos (by omega)
  have hNz : (2 : Int) ^ X = (N : Int) := by rw [← hN]; simp
  have hu : IntKind.i64.wrap (N : Int) = (N : Int) := IntWalk.i64_in _ (by omega)

  have HN := Lib.hid hN
  rw [hN]
  obtain ⟨t0, -⟩ := hcells 0 (by omega)
  rw [Nat.add_zero] at t0
  have t1 := below_cell (below_al (Below.refl _ _) (.cells #[] 3)) _ _ t0
  have hxz : (0 : Int) < (X : Int) := by omega
  have B0 := Lib.hid (below_dr (below_al (Below.refl w.heap.size w) (.cells #[] 3)))
  have O0 : Hid ((w.alloc (.cells #[] 3)).drew.ownsRow w.heap.size 3 1 (.slice (some ⟨w.heap.size, 0, none⟩) 0 0) (is (recC T bt X Y 0)).length (i64s (is (recC T bt X Y 0)))) := Lib.hid (by
    have := World.ownsRow_made (base := w.heap.size) (e := 3) (size := 1) w #[] 0 (Nat.le_refl _) (Nat.zero_le _) rfl
    refine app.owns_below ?_ (below_dr (Below.refl _ _))
    simpa [i64s, is, recC] using this)
  have HPL : Hid (∀ (W : World) (C k : Nat) (v1 v2 : Value), 1 ≤ C → C < N → k < Y → Below w.heap.size w W → Ints W v1 (mem C X) → Ints W v2 [((k : Nat) : Int)] → Calls Try.prog 165 #[.slice (some ⟨tb, td, none⟩) X tcap, v1, v2] W fun e w' => e = .returned (.int .i64 (pln.num T (mem C X) [((k : Nat) : Int)])) ∧ ∃ q, w' = W.drewN q) := Lib.hid (by
    intro W C k v1 v2 h1 h2 h3 hW hv1 hv2
    have h5 := pln.spec_plain _ T v1 (mem C X) v2 [((k : Nat) : Int)] W (HT.out.below hW) hv1 hv2 HOK.out (by rw [HX.out]; exact mem_in h1 (by rw [HN.out]; exact h2)) ⟨by simp, fun a ha => by simp at ha; subst ha; rw [HY.out]; simp; omega⟩
    rw [HX.out] at h5
    exact h5)
  clear hok ht hb hcells hX hY hN
  go_enter Try.func124, Try.ntmps124
  go_wp2_with fail
  go_region
  go_wp2_with fail
  clear t0 t1
  go_loopw [5, 8] (fun v s wr => ∃ c : Nat, c + 1 ≤ N ∧ s = .int .i64 ((c + 1 : Nat) : Int) ∧ Hid (wr.ownsRow w.heap.size 3 1 v (is (recC T bt X Y c)).length (i64s (is (recC T bt X Y c)))) ∧ Hid (Below w.heap.size w wr)) (fun _ s _ => N + 1 - (intOf s).toNat)
  case atStart => exact ⟨0, by omega, rfl, O0, B0⟩
  case round =>
    clear O0 B0
    obtain ⟨c, hc, rfl, hO, hB⟩ := hrel
    obtain ⟨wo, rfl⟩ : ∃ wo : World, wo = wr := ⟨_, rfl⟩
    have hsz := hB.out.size
    obtain ⟨C, hC⟩ : ∃ C, c + 1 = C := ⟨_, rfl⟩
    have HC := Lib.hid hC
    rw [hC] at hc ⊢
    have hC1 : 1 ≤ C := by omega
    by_cases hlt : C < N
    · have hkz : (C : Int) < (N : Int) := by omega
      have hCx : C < 2 ^ X := by rw [HN.out]; exact hlt
      have HCX := Lib.hid hCx
      have HML := Lib.hid (fun W => members X C (by omega) W)
      have HG := Lib.hid (fun j => num_good (T := T) (j := j) HB.out hC1 hCx)
      have HLT := Lib.hid hlt
      have M0 : Hid (colM T bt C X 0 = 0) := Lib.hid rfl
      clear hCx hC
      go_wp2_with fail
      go_loopw [9, 10] (fun cm j wr => ∃ k : Nat, k ≤ Y ∧ j = .int .i64 (k : Nat) ∧ (∃ M : Nat, cm = .int .i64 (M : Int) ∧ Hid (colM T bt C X k = M)) ∧ Hid (Below wo.heap.size wo wr)) (fun _ j _ => Y - (intOf j).toNat)
      case atStart => exact ⟨0, Nat.zero_le _, rfl, ⟨0, rfl, M0⟩, Below.refl _ _⟩
      case round =>
        clear M0
        obtain ⟨k, hk, rfl, ⟨M, rfl, hM⟩, hBI⟩ := hrel
        obtain ⟨wi, rfl⟩ : ∃ wi : World, wi = wr := ⟨_, rfl⟩
        by_cases hlk : k < Y
        · have hkb : (k : Int) < (Y : Int) := by omega
          go_wp2_with fail
          refine (HML.out _).mono ?_
          rintro e w5 ⟨u5, rfl, hu, hb5⟩
          have HU := Lib.hid hu
          have B5 := Lib.hid (below_tr hBI.out hb5)
          have BW := Lib.hid (below_tr hB.out (below_tr hBI.out hb5))
          clear hu hb5
          go_wp2_with fail
          have hcall := HPL.out (w5.alloc (.cells #[.int .i64 (k : Int)] 3)) C k u5 (.slice (some ⟨w5.heap.size, 0, none⟩) 1 1) hC1 HLT.out hlk (below_al BW.out _) (HU.out.ints.below (below_al (Below.refl _ _) _)) ⟨some ⟨w5.heap.size, 0, none⟩, 1, rfl, Nat.le_refl _, by unfold maxLen; omega, fun q u hq => ⟨_, _, rfl, by
            cases q with
            | zero => simp [i64s] at hq; subst hq; simp
            | succ q => simp [i64s] at hq⟩⟩
          refine hcall.mono ?_
          rintro e w6 ⟨rfl, n6, rfl⟩
          have B6 := Lib.hid (below_drewN (below_al B5.out (.cells #[.int .i64 (k : Int)] 3)) n6)
          obtain ⟨z, hz⟩ : ∃ z, pln.num T (mem C X) [((k : Nat) : Int)] = z := ⟨_, rfl⟩
          have hgo := HG.out k
          rw [hz] at hgo ⊢
          have HGO := Lib.hid hgo
          have HLK := Lib.hid hlk
          clear hcall hgo hz
          by_cases hzb : z = bt
          · have e1 : (z == bt) = true := by simp [hzb]
            have hcy := colM_yes (HGO.out.1 hzb)
            obtain ⟨P, hP⟩ : ∃ P : Nat, 2 ^ k = P := ⟨_, rfl⟩
            have hP16 : P ≤ 16 := by rw [← hP]; exact Nat.pow_le_pow_right (n := 2) (by omega) (show k ≤ 4 by omega)
            have hM16 : M ≤ 16 := by rw [← hM.out]; exact Nat.le_trans (Nat.le_of_lt (colM_lt k)) (by rw [hP]; exact hP16)
            obtain ⟨Q, hQ⟩ : ∃ Q : Nat, M + P = Q := ⟨_, rfl⟩
            have hQz := sum_z hQ
            have hQ16 := le_sum hQ hM16 hP16
            have hPz : (2 : Int) ^ k = (P : Int) := by rw [← hP]; simp
            have hpu := wrap_small P hP16
            rw [hM.out, hP] at hcy
            rw [hQ] at hcy
            have HQ := Lib.hid hcy
            clear hcy hP hQ
            go_wp2_with fail
            go_roundw
            case rel => exact ⟨k + 1, by omega, by go_num, ⟨Q, rfl, HQ⟩, B6.out⟩
            case measure => simp [intOf]; omega
          · have e1 : (z == bt) = false := by simp [hzb]
            have hcn := colM_no (fun h => hzb (HGO.out.2 h))
            rw [hM.out] at hcn
            have HQ := Lib.hid hcn
            clear hcn
            go_wp2_with fail
            go_roundw
            case rel => exact ⟨k + 1, by omega, by go_num, ⟨M, rfl, HQ⟩, B6.out⟩
            case measure => simp [intOf]; omega
        · have hkb : ¬ (k : Int) < (Y : Int) := by omega
          obtain rfl : k = Y := by omega
          have hMl : M < 2 ^ k := by rw [← hM.out]; exact colM_lt k
          have hM16 : M ≤ 16 := Nat.le_trans (Nat.le_of_lt hMl) (Nat.pow_le_pow_right (n := 2) (by omega) hY4)
          have HML2 := Lib.hid hMl
          have R0 : Hid (rowP C M k 0 = 0) := Lib.hid rfl
          have hC16 : C ≤ 16 := by omega
          clear hMl
          go_wp2_with fail
          go_loopw [11, 12] (fun pm i wr => ∃ q : Nat, q ≤ X ∧ i = .int .i64 (q : Nat) ∧ (∃ R : Nat, pm = .int .i64 (R : Int) ∧ Hid (rowP C M k q = R)) ∧ Hid (Below wo.heap.size wo wr)) (fun _ i _ => X - (intOf i).toNat)
          case atStart => exact ⟨0, Nat.zero_le _, rfl, ⟨0, rfl, R0⟩, hBI⟩
          case round =>
            clear R0 hBI
            obtain ⟨q, hq, rfl, ⟨R, rfl, hR⟩, hBI⟩ := hrel
            obtain ⟨wi, rfl⟩ : ∃ wi : World, wi = wr := ⟨_, rfl⟩
            by_cases hlq : q < X
            · have hqb : (q : Int) < (X : Int) := by omega
              obtain ⟨P, hP⟩ : ∃ P : Nat, 2 ^ q = P := ⟨_, rfl⟩
              have hPz : (2 : Int) ^ q = (P : Int) := by rw [← hP]; simp
              obtain ⟨D, hD⟩ : ∃ D : Nat, C / P = D := ⟨_, rfl⟩
              have hDz : (C : Int) / (P : Int) = (D : Int) := by rw [← hD]; simp
              have hDl : D ≤ 16 := by rw [← hD]; exact Nat.le_trans (Nat.div_le_self _ _) hC16
              have hbn := plg.and_one D
              obtain ⟨b, hb⟩ : ∃ b : Nat, D % 2 = b := ⟨_, rfl⟩
              have hb1 : b ≤ 1 := by omega
              rw [hb] at hbn
              obtain ⟨E, hE⟩ : ∃ E : Nat, b * M = E := ⟨_, rfl⟩
              have hEz : (b : Int) * (M : Int) = (E : Int) := by rw [← hE]; simp
              have hEl : E ≤ 16 := by
                rw [← hE]
                obtain rfl | rfl : b = 0 ∨ b = 1 := by omega
                · omega
                · omega
              obtain ⟨sh, hs⟩ : ∃ sh : Nat, q * k = sh := ⟨_, rfl⟩
              have hsz2 : (q : Int) * (k : Int) = (sh : Int) := by rw [← hs]; simp
              have hsl : sh ≤ 12 := by rw [← hs]; exact Nat.mul_le_mul (show q ≤ 3 by omega) hY4
              obtain ⟨S, hS⟩ : ∃ S : Nat, 2 ^ sh = S := ⟨_, rfl⟩
              have hSz : (2 : Int) ^ sh = (S : Int) := by rw [← hS]; simp
              have hSl : S ≤ 4096 := by rw [← hS]; exact Nat.pow_le_pow_right (n := 2) (by omega) hsl
              obtain ⟨F, hF⟩ : ∃ F : Nat, E * S = F := ⟨_, rfl⟩
              have hFz : (E : Int) * (S : Int) = (F : Int) := by rw [← hF]; simp
              have hFl : F ≤ 65536 := by rw [← hF]; exact Nat.mul_le_mul hEl hSl
              have hRl : R ≤ 4096 := by
                have h5 := rowP_lt (c := C) HML2.out q
                rw [hR.out, hs, hS] at h5; omega
              obtain ⟨G, hG⟩ : ∃ G : Nat, R + F = G := ⟨_, rfl⟩
              have hGz := sum_z hG
              have hGl := le_sum hG hRl hFl
              have HQ : Hid (rowP C M k (q + 1) = G) := Lib.hid (by
                show rowP C M k q + (C / 2 ^ q % 2) * M * 2 ^ (q * k) = G
                rw [hR.out, hP, hD, hb, hE, hs, hS, hF, hG])
              have w1 := wrap_small D hDl
              have w2 := wrap_small E hEl
              have w3 := wrap_small sh (Nat.le_trans hsl (by decide))
              have w4 := wrap_mid F hFl
              clear hP hD hb hE hs hS hF hG
              go_wp2_with fail
              go_roundw
              case rel => exact ⟨q + 1, by omega, by go_num, ⟨G, rfl, HQ⟩, hBI⟩
              case measure => simp [intOf]; omega
            · have hqb : ¬ (q : Int) < (X : Int) := by omega
              obtain rfl : q = X := by omega
              have hRl : R ≤ 65536 := by
                have h5 := rowP_lt (c := C) HML2.out q
                rw [hR.out] at h5
                exact Nat.le_trans (Nat.le_of_lt h5) (Nat.pow_le_pow_right (n := 2) (by omega) (show q * k ≤ 16 from Nat.mul_le_mul hX4 hY4))
              have BWI := Lib.hid (below_tr hB.out hBI.out)
              have hszi := BWI.out.size
              by_cases hM0 : 0 < M
              · have hMz : (0 : Int) < (M : Int) := by omega
                have hyes := recC_yes (T := T) (bt := bt) (X := q) (Y := k) (c := c) (by rw [HC.out, hM.out]; exact hM0)
                rw [HC.out, hM.out, hR.out] at hyes
                have HYS := Lib.hid hyes
                obtain ⟨n, hn⟩ : ∃ n, (is (recC T bt q k c)).length = n := ⟨_, rfl⟩
                have hnl : n ≤ 16 := by
                  rw [← hn]; have h5 := recC_len (T := T) (bt := bt) (X := q) (Y := k) c
                  have : (is (recC T bt q k c)).length = (recC T bt q k c).length := List.length_map _
                  have := HC.out
                  omega
                have OI := Lib.hid (app.owns_below hO.out hBI.out)
                rw [hn] at OI
                have HN9 : Hid ((is (recC T bt q k C)).length = n + 1) := Lib.hid (by rw [hyes]; simp [is] at hn ⊢; exact hn)
                clear hyes hn
                go_wp2_with (at_builtin; go_must (refine wpList_append_own _ rfl (.tmp 63) (.tmp 65) 34 rfl (w.heap.size) 3 i0 (.int .i64 0) 1 8 Try.underlying34 hi hz0 hz1 hz2 rfl (by decide) _ _ _ rfl (OI.out.alloc _) ⟨wi.heap.size, 0, none⟩ 1 1 [.int .i64 (R : Int)] rfl rfl ?c1 ?c2 ?c3 ?c4 ?c5 ?_))
                try (case c1 => first | exact app.one_at _ _ _ | (intro q u hq; have h5 := app.one_at wi (.int .i64 (R : Int)) 3 q u hq; simpa using h5))
                case c2 => first | rfl | (intro u hu; simp at hu; subst hu; rfl)
                case c3 => unfold maxLen; omega
                case c4 => omega
                try (case c5 => first | omega | (simp; omega))
                intro v9 w9 hown hgrow _
                have B9 := Lib.hid ((below_al BWI.out _).grown hgrow (by simp; omega) (fun j hj => by have := (OI.out.lt j hj).1; omega))
                have O9 := Lib.hid hown
                rw [app.i64s_snoc] at O9
                clear hown hgrow
                have O10 : Hid (w9.ownsRow w.heap.size 3 1 v9 (is (recC T bt q k C)).length (i64s (is (recC T bt q k C)))) := Lib.hid (by
                  rw [HN9.out, HYS.out, show is (recC T bt q k c ++ [R]) = is (recC T bt q k c) ++ [(R : Int)] by simp [is]]
                  exact O9.out)
                clear O9
                go_wp2_with fail
                go_roundw
                case rel => exact ⟨C, by have := HLT.out; omega, by go_num, O10, B9⟩
                case measure => have := HLT.out; simp [intOf]; omega
              · have hMz : ¬ (0 : Int) < (M : Int) := by omega
                have hno := recC_no (T := T) (bt := bt) (X := q) (Y := k) (c := c) (by rw [HC.out, hM.out]; exact hM0)
                rw [HC.out] at hno
                have OI : Hid (wi.ownsRow w.heap.size 3 1 u5 (is (recC T bt q k C)).length (i64s (is (recC T bt q k C)))) := Lib.hid (by rw [hno]; exact app.owns_below hO.out hBI.out)
                clear hno
                go_wp2_with fail
                go_roundw
                case rel => exact ⟨C, by have := HLT.out; omega, by go_num, OI, BWI⟩
                case measure => have := HLT.out; simp [intOf]; omega
    · have hkz : ¬ (C : Int) < (N : Int) := by omega
      have HF : Hid (Ints wo u5 (is (recC T bt X Y (N - 1)))) := Lib.hid (by
        rw [show N - 1 = c by omega]
        exact (app.ints_of_owns hO.out).ints)
      go_wp2_with fail
      go_ret
      exact ⟨_, rfl, HF.out, hB.out⟩

end Go.Proofs.Ytimfnhejiiagmaa.cvl
