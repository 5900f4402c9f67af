/- LocalValue and BestPlays of the model. -/
import Derived.Test.YtkajebhagkbcaabLocal
namespace Go.Proofs.Ytkajebhagkbcaab.loc
open Go.RowKit Go.Deep Go.Proofs.Ytkajebhagkbcaab.base
open Go.Proofs.Ytkajebhagkbcaab.val (okSizes okBox ret_b)
open Go.Proofs.Ytkajebhagkbcaab.play (within)
open Go.Proofs.Ytkajebhagkbcaab.worth (okFun funB funB_yes funB_no worth)
open Go.Proofs.Ytkajebhagkbcaab.ints (infoInts ret_int)
open Go.Proofs.Ytkajebhagkbcaab.rws (total)

theorem nat_of {x y : Int} (hs : okSizes x y) : ∃ X Y : Nat, x = X ∧ y = Y ∧ X ≤ 3 ∧ Y ≤ 3 ∧ (x + y).toNat = X + Y ∧ X + Y ≤ 6 :=
  ⟨x.toNat, y.toNat, by have := hs.1.1; omega, by have := hs.2.1; omega, by have := hs.1.2; omega, by have := hs.2.2; omega, by have := hs.1.1; have := hs.2.1; omega, by have := hs.1.2; have := hs.2.2; omega⟩

/-- the play's box and its worth, as the model takes them -/
theorem l2both (x y : Int) (vf : Value) (fss : List (List Int)) (hf : okFun x y fss) (p : Nat) :
    (∀ (v : Value) (w : World), Ints w v (plays.at_ (x + y).toNat p) → Calls Try.prog 63 #[.int .i64 x, .int .i64 y, v, .int .i64 1] w fun e w' => ∃ u, e = .returned (.agg #[.int .i64 x, .int .i64 y, .int .i64 1, u]) ∧ IRows w' u (pworth.prows x y (plays.at_ (x + y).toNat p)) ∧ Below w.heap.size w w') ∧
    (∀ (u : Value) (w : World), IRows w vf fss → IRows w u (pworth.prows x y (plays.at_ (x + y).toNat p)) → Calls Try.prog 62 #[vf, .agg #[.int .i64 x, .int .i64 y, .int .i64 1, u]] w fun e w' => e = .returned (.int .i64 (g x y fss p)) ∧ Below w.heap.size w w') := by
  have hw := at_within hf.1 p
  obtain ⟨X, Y, rfl, rfl, hX, hY, hn, h6⟩ := nat_of hf.1
  constructor
  · intro v w h
    have hwl := hw.1
    have := pbox.l2playbox v _ X Y 1 w h (by omega) hw.2 hX hY
    refine this.mono ?_
    rintro e w' ⟨u, rfl, hu, hb⟩
    exact ⟨u, rfl, by rw [pworth.prows_nat]; exact hu.rows, hb⟩
  · intro u w h h'
    exact worth.l2worth X Y 1 vf u fss _ w h h' ⟨pworth.prows_ok hf.1 hw, hf⟩

set_option maxHeartbeats 2000000 in
theorem l3value (x y : Int) (vf : Value) (fss : List (List Int)) (w : World) (h : IRows w vf fss) (hf : okFun x y fss) :
    Calls Try.prog 59 #[.int .i64 x, .int .i64 y, vf] w fun e w' => e = .returned (.int .i64 (val x y fss)) ∧ Below w.heap.size w w' := by
  have HF := Lib.hid h
  obtain ⟨fa, fn, fc, rfl⟩ := h.shape
  have HL := Lib.hid (plays.l2plays x y w hf.1)
  have HO := Lib.hid hf
  obtain ⟨n, hn⟩ : ∃ n, (x + y).toNat = n := ⟨_, rfl⟩
  have h6 : n ≤ 6 := by obtain ⟨X, Y, _, _, _, _, e, h6⟩ := nat_of hf.1; omega
  obtain ⟨c, hc⟩ : ∃ c, 2 ^ n = c := ⟨_, rfl⟩
  have h64 : c ≤ 64 := hc ▸ plays.two_pow h6
  have HV : Hid (val x y fss = mx (g x y fss) c) := Lib.hid (by unfold val; rw [hn, hc])
  have HAL : Hid (plays.all (x + y).toNat = plays.upto n c) := Lib.hid (by unfold plays.all; rw [hn, hc])
  have HN := Lib.hid hn
  rw [HV.out]
  clear h hf hn h6 hc
  go_enter Try.func59, Try.ntmps59
  go_wp2_with fail
  refine HL.out.mono ?_
  rintro e w1 ⟨u, rfl, hu, hb⟩
  have U1 := Lib.hid (show IRows w1 u (plays.upto n c) from HAL.out ▸ hu.rows)
  have B1 := Lib.hid hb
  obtain ⟨A, b, o, cap, R, rfl, hcap, hmax, hA, hcc⟩ := U1.out.form
  have hlu := plays.len_upto n c
  rw [hlu] at hcap hA
  rw [hlu]
  have HCC := Lib.hid hcc
  clear hu hb HL hmax hcc hlu U1
  go_wp2_with fail
  go_loopw [8, 9, 10] (fun m i z wr => ∃ k : Nat, ∃ d : Int, k ≤ c ∧ i = .int .i64 k ∧ m = .int .i64 d ∧ (∃ z', z = z') ∧ Hid (d = mx (g x y fss) k) ∧ Hid (Below w1.heap.size w1 wr)) (fun _ i _ _ => c - (intOf i).toNat)
  case atStart => exact ⟨0, 0, Nat.zero_le _, rfl, rfl, ⟨_, rfl⟩, rfl, Below.refl _ _⟩
  case round =>
    obtain ⟨k, d, hk, rfl, rfl, ⟨z', rfl⟩, hD, hB⟩ := hrel
    obtain ⟨wo, rfl⟩ : ∃ wo : World, wo = wr := ⟨_, rfl⟩
    by_cases hlt : k < c
    · have hkz : (k : Int) < (c : Int) := by omega
      obtain rfl := hA (by omega)
      obtain ⟨g0, gi⟩ := HCC.out k (by rw [plays.len_upto]; exact hlt)
      have g1 := below_cell hB.out _ _ g0
      have gi1 : Ints wo (R k) (plays.at_ n k) := by
        have e : (plays.upto n c)[k]'(by rw [plays.len_upto]; exact hlt) = plays.at_ n k := by simp [plays.upto]
        rw [e] at gi
        exact gi.below hB.out
      obtain ⟨ra, rn, rc, hR⟩ := gi1.shape
      rw [hR] at g1 gi1
      rw [← HN.out] at gi1
      have L2 := l2both x y (.slice fa fn fc) fss HO.out k
      have HC1 := Lib.hid (L2.1 _ wo gi1)
      have HC2 := Lib.hid L2.2
      clear g0 gi gi1 L2 hR
      by_cases h0 : k = 0
      · have t0 : ((k : Int) == 0) = true := by simp [h0]
        have HN2 : Hid (g x y fss k = mx (g x y fss) (k + 1)) := Lib.hid (mx_new (.inl h0)).symm
        clear h0
        go_wp2_with fail
        refine HC1.out.mono ?_
        rintro e w2 ⟨u, rfl, hu, hb⟩
        obtain ⟨ua, ul, uc, rfl⟩ := hu.shape
        have B2 := Lib.hid (below_tr hB.out hb)
        have U2 := Lib.hid hu
        clear hu hb hB HC1
        go_wp2_with fail
        refine (HC2.out _ _ (HF.out.below (below_tr B1.out B2.out)) U2.out).mono ?_
        rintro e w3 ⟨rfl, hb⟩
        have B3 := Lib.hid (below_tr B2.out hb)
        clear hb
        go_wp2_with fail
        go_roundw
        case rel => exact ⟨k + 1, _, by omega, by go_num, rfl, ⟨_, rfl⟩, HN2, B3⟩
        case measure => simp [intOf]; omega
      · have t0 : ((k : Int) == 0) = false := by simp; omega
        by_cases hgt : mx (g x y fss) k < g x y fss k
        · have HN2 : Hid (g x y fss k = mx (g x y fss) (k + 1)) := Lib.hid (mx_new (.inr hgt)).symm
          have t1 : d < g x y fss k := by rw [hD.out]; exact hgt
          clear h0 hgt
          generalize g x y fss k = q at *
          go_wp2_with fail
          refine HC1.out.mono ?_
          rintro e w2 ⟨u, rfl, hu, hb⟩
          obtain ⟨ua, ul, uc, rfl⟩ := hu.shape
          have B2 := Lib.hid (below_tr hB.out hb)
          have U2 := Lib.hid hu
          clear hu hb hB HC1
          go_wp2_with fail
          refine (HC2.out _ _ (HF.out.below (below_tr B1.out B2.out)) U2.out).mono ?_
          rintro e w3 ⟨rfl, hb⟩
          have B3 := Lib.hid (below_tr B2.out hb)
          clear hb
          go_wp2_with fail
          go_roundw
          case rel => exact ⟨k + 1, _, by omega, by go_num, rfl, ⟨_, rfl⟩, HN2, B3⟩
          case measure => simp [intOf]; omega
        · have HN2 : Hid (d = mx (g x y fss) (k + 1)) := Lib.hid (by rw [mx_old (fun h => h.elim h0 hgt)]; exact hD.out)
          have t1 : ¬ d < g x y fss k := by rw [hD.out]; exact hgt
          have t2 : decide (d < g x y fss k) = false := by simp [t1]
          clear h0 hgt
          generalize g x y fss k = q at *
          go_wp2_with fail
          refine HC1.out.mono ?_
          rintro e w2 ⟨u, rfl, hu, hb⟩
          obtain ⟨ua, ul, uc, rfl⟩ := hu.shape
          have B2 := Lib.hid (below_tr hB.out hb)
          have U2 := Lib.hid hu
          clear hu hb hB HC1
          go_wp2_with fail
          refine (HC2.out _ _ (HF.out.below (below_tr B1.out B2.out)) U2.out).mono ?_
          rintro e w3 ⟨rfl, hb⟩
          have B3 := Lib.hid (below_tr B2.out hb)
          clear hb
          go_wp2_with fail
          go_roundw
          case rel => exact ⟨k + 1, _, by omega, by go_num, rfl, ⟨_, rfl⟩, HN2, B3⟩
          case measure => simp [intOf]; omega
    · have hkz : ¬ (k : Int) < (c : Int) := by omega
      obtain rfl : k = c := by omega
      go_wp2_with fail
      go_ret
      exact ⟨ret_int hD.out, below_tr B1.out hB.out⟩

theorem asks (x y : Int) (vf : Value) (fss : List (List Int)) (w : World) (h : IRows w vf fss) (hn : total fss ≤ 1048576) :
    Calls Try.prog 58 #[.int .i64 x, .int .i64 y, vf] w fun e w' => e = .returned (.bool (funB x y fss)) ∧ w = w' := by
  have HC := Lib.hid (worth.spec_fun x y vf fss w h hn)
  obtain ⟨fa, fn, fc, rfl⟩ := h.shape
  clear h
  by_cases hs : okSizes x y
  · have HS := Lib.hid hs
    clear hs
    go_enter Try.func58, Try.ntmps58
    go_wp2_with fail
    refine (val.sizes_yes _ _ _ HS.out).mono ?_
    rintro e w' ⟨rfl, rfl⟩
    go_wp2_with fail
    refine HC.out.mono ?_
    rintro e w' ⟨rfl, rfl⟩
    go_wp2_with fail
    go_ret
    exact ⟨rfl, rfl⟩
  · have HS := Lib.hid hs
    have HN := Lib.hid (funB_no (fun h => hs h.1 : ¬ okFun x y fss))
    clear hs
    go_enter Try.func58, Try.ntmps58
    go_wp2_with fail
    refine (val.sizes_no _ _ _ HS.out).mono ?_
    rintro e w' ⟨rfl, rfl⟩
    go_wp2_with fail
    go_ret
    exact ⟨ret_b HN.out.symm, rfl⟩

theorem spec_value (x y : Int) (vf : Value) (fss : List (List Int)) (w : World) (h : IRows w vf fss) (hn : total fss ≤ 1048576) :
    Calls Try.prog 16 #[.int .i64 x, .int .i64 y, vf] w fun e w' => e = .returned (.tuple #[.int .i64 (res x y fss).1, .bool (res x y fss).2.2]) ∧ Below w.heap.size w w' := by
  have HC := Lib.hid (asks x y vf fss w h hn)
  have HF := Lib.hid h
  obtain ⟨fa, fn, fc, rfl⟩ := h.shape
  clear h
  by_cases hf : okFun x y fss
  · rw [res_yes hf]
    have HL := Lib.hid (l3value x y _ fss w HF.out hf)
    have EB := Lib.hid (funB_yes hf)
    clear hf
    go_enter Try.func16, Try.ntmps16
    go_wp2_with fail
    refine HC.out.mono ?_
    rintro e w' ⟨rfl, rfl⟩
    rw [EB.out]
    go_wp2_with fail
    refine HL.out.mono ?_
    rintro e w1 ⟨rfl, hb⟩
    have B := Lib.hid hb
    clear hb
    go_wp2_with fail
    go_ret2
    exact ⟨rfl, B.out⟩
  · rw [res_no hf]
    have EB := Lib.hid (funB_no hf)
    clear hf
    go_enter Try.func16, Try.ntmps16
    go_wp2_with fail
    refine HC.out.mono ?_
    rintro e w' ⟨rfl, rfl⟩
    rw [EB.out]
    go_wp2_with fail
    go_ret2
    exact ⟨rfl, Below.refl _ _⟩

end Go.Proofs.Ytkajebhagkbcaab.loc
