/- ReduceBox: the greatest common divisor of both sides. -/
import Derived.Test.YtlaaiahkdkhehaaRed
import Derived.Test.YtlaaiahkdkhehaaWorthc
namespace Go.Proofs.Ytlaaiahkdkhehaa.red
open Go.RowKit Go.Deep Go.Proofs.Ytlaaiahkdkhehaa.base
open Go.Proofs.Ytlaaiahkdkhehaa.ints (ret_int infoInt infoInts)
open Go.Proofs.Ytlaaiahkdkhehaa.rws (total)
open Go.Proofs.Ytlaaiahkdkhehaa.val (okSizes okBox boxB boxB_yes boxB_no)
open Go.Proofs.Ytlaaiahkdkhehaa.row (nn nn_bd at_ at_lt)
open Go.Proofs.Ytlaaiahkdkhehaa.worth (row4 box_len)

theorem gcd_next (p q r : Nat) (h : p % q = r) : Nat.gcd q r = Nat.gcd p q := by
  rw [← h, Nat.gcd_comm q, ← Nat.gcd_rec, Nat.gcd_comm]
theorem rem_nat (p q r : Nat) (h : p % q = r) : (p : Int).tmod (q : Int) = (r : Int) := by
  rw [← h]; exact (Int.ofNat_tmod p q).symm

set_option maxHeartbeats 1000000 in
theorem l2gcd (a b : Nat) (w : World) (ha : a ≤ 1000) (hb : b ≤ 1000) :
    Calls Try.prog 123 #[.int .i64 (a : Int), .int .i64 (b : Int)] w fun e w' => e = .returned (.int .i64 (Nat.gcd a b : Int)) ∧ ∃ n, w' = w.drewN n := by
  go_enter Try.func123, Try.ntmps123
  go_wp2_with fail
  go_loopw [0, 1] (fun s0 s1 wr => ∃ p q : Nat, s0 = .int .i64 p ∧ s1 = .int .i64 q ∧ p ≤ 1000 ∧ q ≤ 1000 ∧ Hid (Nat.gcd p q = Nat.gcd a b) ∧ ∃ n, wr = w.drewN n) (fun _ s1 _ => (intOf s1).toNat)
  case atStart => exact ⟨a, b, rfl, rfl, ha, hb, rfl, 0, rfl⟩
  case round =>
    obtain ⟨p, q, rfl, rfl, hp, hq, hG, n, rfl⟩ := hrel
    by_cases h0 : 0 < q
    · have hq0 : (0 : Int) < (q : Int) := by omega
      obtain ⟨r, hr⟩ : ∃ r, p % q = r := ⟨_, rfl⟩
      have hrem := rem_nat p q r hr
      have HL := Lib.hid (show r < q from hr ▸ Nat.mod_lt _ h0)
      have HN := Lib.hid ((gcd_next p q r hr).trans hG.out)
      clear hr
      go_wp2_with fail
      go_quiet (fail)
      go_wp2_with fail
      go_roundw
      case rel => exact ⟨q, r, rfl, rfl, hq, by have := HL.out; omega, HN, _, ints.drewN_drewN _ _ _⟩
      case measure => have := HL.out; simp [intOf]; omega
    · have hq0 : ¬ (0 : Int) < (q : Int) := by omega
      have HE : Hid (p = Nat.gcd a b) := Lib.hid (by rw [← hG.out, show q = 0 from by omega, Nat.gcd_zero_right])
      go_wp2_with fail
      go_ret
      exact ⟨ret_int (by rw [HE.out]), n, rfl⟩

theorem step_g {xss : List (List Int)} {wh : Int} {r d m : Nat} (hd : d < 4) {g : Nat} (hg : g = cg xss wh (4 * r + d)) (hm : (nn xss r d) = (m : Int)) : Nat.gcd g m = cg xss wh (4 * r + (d + 1)) := by
  rw [cg_at xss wh hd, ← hg, hm, Int.toNat_natCast]

set_option maxHeartbeats 2000000 in
theorem divisor (x y wh : Int) (v : Value) (xss : List (List Int)) (w : World) (h : IRows w v xss) (hok : okBox x y wh xss) :
    Calls Try.prog 124 #[.agg #[.int .i64 x, .int .i64 y, .int .i64 wh, v]] w fun e w' => e = .returned (.int .i64 (dv wh xss : Int)) ∧ Below w.heap.size w w' := by
  obtain ⟨A, b, o, cap, R, rfl, hcap, hmax, hA, hc⟩ := h.form
  have hl9 := val.ok_len hok
  have HOK := Lib.hid hok
  have HW := Lib.hid hok.2.1
  obtain ⟨k, hk⟩ : ∃ k : Nat, wh = k := ⟨wh.toNat, by have := hok.2.1; omega⟩
  have hk1 : k ≤ 1000 := by have := hok.2.1; omega
  have HK : Hid (k = cg xss wh (4 * 0)) := Lib.hid (by show k = wh.toNat; omega)
  have HWK := Lib.hid hk
  have HB := Lib.hid (fun t => (show cg xss wh t ≤ 1000 from by have := cg_le (xss := xss) hok.2.1.1 t; have := hok.2.1; omega))
  clear h hok hmax
  obtain ⟨P0, hP0⟩ : ∃ P0, P0 = w.alloc (.cells #[.int .i64 x, .int .i64 y, .int .i64 wh, .slice A xss.length cap] 24) := ⟨_, rfl⟩
  have HP := Lib.hid (hP0 ▸ below_al (Below.refl w.heap.size w) _ : Below w.heap.size w P0)
  clear hP0
  subst hk
  have HP2 : Hid (Below w.heap.size w (w.alloc (.cells #[.int .i64 x, .int .i64 y, .int .i64 (k : Int), .slice A xss.length cap] 24))) := Lib.hid (below_al (Below.refl _ _) _)
  go_enter Try.func124, Try.ntmps124
  go_wp2_with fail
  go_loopw [3, 5, 7, 13] (fun s z5 z7 i wr => ∃ r g : Nat, r ≤ xss.length ∧ i = .int .i64 r ∧ s = .int .i64 g ∧ g ≤ 1000 ∧ (∃ z, z5 = z) ∧ (∃ z, z7 = z) ∧ Hid (g = cg xss (k : Int) (4 * r)) ∧ ∃ q, wr = (w.alloc (.cells #[.int .i64 x, .int .i64 y, .int .i64 (k : Int), .slice A xss.length cap] 24)).drewN q) (fun _ _ _ i _ => xss.length - (intOf i).toNat)
  case atStart => exact ⟨0, k, Nat.zero_le _, rfl, rfl, hk1, ⟨_, rfl⟩, ⟨_, rfl⟩, HK, 0, rfl⟩
  case round =>
    obtain ⟨r, g, hr, rfl, rfl, hg1, ⟨z5, rfl⟩, ⟨z7, rfl⟩, hC, q, rfl⟩ := hrel
    by_cases hlt : r < xss.length
    · have hkz : (r : Int) < (xss.length : Int) := by omega
      obtain rfl := hA (by omega)
      have g0 := (hc r hlt).1
      have gl := World.block_lt_of_cell? _ _ g0
      obtain ⟨b2, o2, cap2, hR, hcap2, hl2, hc2⟩ := row4 hlt (box_len HOK.out hlt) (hc r hlt).2
      rw [hR] at g0
      have HC := Lib.hid hc
      clear hc hA hR
      go_wp2_with fail
      go_loopw [3, 7, 19] (fun s z7 i wr => ∃ d g : Nat, d ≤ 4 ∧ i = .int .i64 d ∧ s = .int .i64 g ∧ g ≤ 1000 ∧ (∃ z, z7 = z) ∧ Hid (g = cg xss (k : Int) (4 * r + d)) ∧ ∃ q, wr = (w.alloc (.cells #[.int .i64 x, .int .i64 y, .int .i64 (k : Int), .slice (some ⟨b, o, none⟩) xss.length cap] 24)).drewN q) (fun _ _ i _ => 4 - (intOf i).toNat)
      case atStart => exact ⟨0, g, Nat.zero_le _, rfl, rfl, hg1, ⟨_, rfl⟩, hC, q, rfl⟩
      case round =>
        clear hC hg1
        obtain ⟨d, g, hd, rfl, rfl, hg1, ⟨z7, rfl⟩, hC, q, rfl⟩ := hrel
        by_cases hdl : d < 4
        · have hdz : (d : Int) < 4 := by omega
          have g1 := hc2 d hdl
          have nb := nn_bd HOK.out hlt hdl
          obtain ⟨m, hm⟩ : ∃ m : Nat, nn xss r d = m := ⟨(nn xss r d).toNat, by omega⟩
          have hm1 : m ≤ 1000 := by omega
          have HST := Lib.hid (step_g (r := r) hdl hC.out hm)
          rw [hm] at g1
          have HC2 := Lib.hid hc2
          clear hc2 nb hm
          go_wp2_with fail
          go_loopw [3, 7] (fun s n wr => ∃ p q' : Nat, s = .int .i64 p ∧ n = .int .i64 q' ∧ p ≤ 1000 ∧ q' ≤ 1000 ∧ Hid (Nat.gcd p q' = Nat.gcd g m) ∧ ∃ q, wr = (w.alloc (.cells #[.int .i64 x, .int .i64 y, .int .i64 (k : Int), .slice (some ⟨b, o, none⟩) xss.length cap] 24)).drewN q) (fun _ n _ => (intOf n).toNat)
          case atStart => exact ⟨g, m, rfl, rfl, hg1, hm1, rfl, q, rfl⟩
          case round =>
            obtain ⟨p, q', rfl, rfl, hp, hq, hG, n, rfl⟩ := hrel
            by_cases h0 : 0 < q'
            · have hq0 : (0 : Int) < (q' : Int) := by omega
              obtain ⟨t, ht⟩ : ∃ t, p % q' = t := ⟨_, rfl⟩
              have hrem := rem_nat p q' t ht
              have HL := Lib.hid (show t < q' from ht ▸ Nat.mod_lt _ h0)
              have HN := Lib.hid ((gcd_next p q' t ht).trans hG.out)
              clear ht
              go_wp2_with fail
              go_quiet (fail)
              go_wp2_with fail
              go_roundw
              case rel => exact ⟨q', t, rfl, rfl, hq, by have := HL.out; omega, HN, _, ints.drewN_drewN _ _ _⟩
              case measure => have := HL.out; simp [intOf]; omega
            · have hq0 : ¬ (0 : Int) < (q' : Int) := by omega
              have HE : Hid (p = cg xss (k : Int) (4 * r + (d + 1))) := Lib.hid (by rw [← HST.out, ← hG.out, show q' = 0 from by omega, Nat.gcd_zero_right])
              go_wp2_with fail
              go_roundw
              case rel => exact ⟨d + 1, p, by omega, by go_num, rfl, hp, ⟨_, rfl⟩, HE, _, rfl⟩
              case measure => simp [intOf]; omega
        · have hdz : ¬ (d : Int) < 4 := by omega
          obtain rfl : d = 4 := by omega
          clear hc2
          go_wp2_with fail
          go_roundw
          case rel => exact ⟨r + 1, g, by omega, by go_num, rfl, hg1, ⟨_, rfl⟩, ⟨_, rfl⟩, hC, _, rfl⟩
          case measure => simp [intOf]; omega
    · have hkz : ¬ (r : Int) < (xss.length : Int) := by omega
      have HE : Hid (g = dv (k : Int) xss) := Lib.hid (by rw [hC.out]; unfold dv; rw [show r = xss.length from by omega])
      clear hc hA
      go_wp2_with fail
      go_ret
      exact ⟨ret_int (by rw [HE.out]), below_drewN HP2.out _⟩

end Go.Proofs.Ytlaaiahkdkhehaa.red
