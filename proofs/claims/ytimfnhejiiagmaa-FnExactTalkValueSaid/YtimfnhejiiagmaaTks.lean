/- TalkValue of the model. -/
import Derived.Test.YtimfnhejiiagmaaTan
import Derived.Test.YtimfnhejiiagmaaBvs
import Derived.Test.YtimfnhejiiagmaaLmm
import Derived.Test.YtimfnhejiiagmaaLast
import Derived.Test.YtimfnhejiiagmaaGbps
import Derived.Deep.RegionHeld3
namespace Go.Proofs.Ytimfnhejiiagmaa.tks
open Go.RowKit Go.Deep Go.Proofs.Ytimfnhejiiagmaa.base
open Go.Proofs.Ytimfnhejiiagmaa.ints (ret_int infoInt)
open Go.Proofs.Ytimfnhejiiagmaa.rws (total)
open Go.Proofs.Ytimfnhejiiagmaa.gval (okGame gameB gameB_yes gameB_no)
open Go.Proofs.Ytimfnhejiiagmaa.gwon (won won_bd)
open Go.Proofs.Ytimfnhejiiagmaa.prt (two_cells)
open Go.Proofs.Ytimfnhejiiagmaa.bvm (mx mx_nn mx_le)
open Go.Proofs.Ytimfnhejiiagmaa.bvs (mx_yes mx_no)
open Go.Proofs.Ytimfnhejiiagmaa.tam
open Go.Proofs.Ytimfnhejiiagmaa.gscore (at_cast)

open Classical in
/-- what TalkValue answers -/
noncomputable def res (x y : Int) (ws : List Int) (xss : List (List Int)) : Int × Bool := if okGame x y ws xss then (mx (prg x.toNat y.toNat ws xss) (2 ^ x.toNat), true) else (0, false)
theorem res_yes {x y : Int} {ws : List Int} {xss : List (List Int)} (h : okGame x y ws xss) : res x y ws xss = (mx (prg x.toNat y.toNat ws xss) (2 ^ x.toNat), true) := if_pos h
theorem res_no {x y : Int} {ws : List Int} {xss : List (List Int)} (h : ¬ okGame x y ws xss) : res x y ws xss = (0, false) := if_neg h
theorem sc_yes {Y : Nat} {ws : List Int} {xss : List (List Int)} {A T : Nat → Int} {d b : Int} {y n : Nat} (h : T n = d) : sc Y ws xss A T d y b (n + 1) = sc Y ws xss A T d y b n + won ws xss (n * Y + y) (A n) b := by
  show sc Y ws xss A T d y b n + (if T n = d then won ws xss (n * Y + y) (A n) b else 0) = _
  rw [if_pos h]
theorem sc_no {Y : Nat} {ws : List Int} {xss : List (List Int)} {A T : Nat → Int} {d b : Int} {y n : Nat} (h : ¬ T n = d) : sc Y ws xss A T d y b (n + 1) = sc Y ws xss A T d y b n := by
  show sc Y ws xss A T d y b n + (if T n = d then won ws xss (n * Y + y) (A n) b else 0) = _
  rw [if_neg h, Int.add_zero]
theorem cb_bits (s n : Nat) : bits .and .i64 ((s : Int) / 2 ^ n) 1 = cb s n := by
  have e : ((s : Int) / 2 ^ n) = ((s / 2 ^ n : Nat) : Int) := by simp
  rw [e, plg.and_one]
  rfl
theorem cb01 (c x : Nat) : cb c x = 0 ∨ cb c x = 1 := by unfold cb; omega

set_option maxRecDepth 100000 in
set_option maxHeartbeats 8000000 in
theorem spec_any (x y : Int) (v : Value) (ws : List Int) (u : Value) (xss : List (List Int)) (w : World) (h : game.GV w v ws u xss) (hn : ws.length ≤ 1048576) (hm : total xss ≤ 1048576) :
    Calls Try.prog 61 #[.agg #[.int .i64 x, .int .i64 y, v, u]] w fun e w' => e = .returned (.tuple #[.int .i64 (res x y ws xss).1, .bool (res x y ws xss).2]) ∧ Below w.heap.size w w' := by
  have H := Lib.hid h
  obtain ⟨va, vn, vc, ua, un, uc, rfl, rfl⟩ := h.shape
  have B0 := Lib.hid (below_al (Below.refl w.heap.size w) (.cells #[.int .i64 x, .int .i64 y, .slice va vn vc, .slice ua un uc] 40))
  have K0 := Lib.hid (Blk.new w 40 #[.int .i64 x, .int .i64 y, .slice va vn vc, .slice ua un uc])
  have HC := Lib.hid (gval.spec_any x y _ ws _ xss _ (h.below B0.out) hn hm)
  obtain ⟨c0, c1, c2, c3, c4⟩ := four_cells K0.out
  clear h
  by_cases hok : okGame x y ws xss
  · rw [gameB_yes hok] at HC
    rw [res_yes hok]
    obtain ⟨X, rfl⟩ : ∃ X : Nat, x = X := ⟨x.toNat, by have := hok.1.1; omega⟩
    obtain ⟨Y, rfl⟩ : ∃ X : Nat, y = X := ⟨y.toNat, by have := hok.1.2; omega⟩
    simp only [Int.toNat_natCast]
    rw [same X Y ws xss hok]
    have hX3 : (X : Int) ≤ 3 := hok.1.1.2
    have hY3 : (Y : Int) ≤ 3 := hok.1.2.2
    have HOK := Lib.hid hok
    obtain ⟨c, hc⟩ : ∃ c : Nat, 2 ^ X = c := ⟨_, rfl⟩
    have hc8 : c ≤ 8 := by rw [← hc]; exact Nat.le_trans (Nat.pow_le_pow_right (by omega) (show X ≤ 3 by omega)) (by decide)
    have hc1 : 1 ≤ c := by rw [← hc]; exact Nat.pow_pos (by omega)
    have e1 : (2 : Int) ^ X = (c : Int) := by rw [← hc]; simp
    have hw1 : wrap64 (2 ^ X) = (c : Int) := by rw [e1]; exact IntWalk.wrap64_in _ (by omega)
    have hcz : (c : Int) ≤ 8 := by omega
    obtain ⟨M, hM⟩ : ∃ M : Nat → Int, mod' X Y ws xss = M := ⟨_, rfl⟩
    have HM : Hid (∀ a s, s < c → M (a * c + s) = full X Y ws xss (cb a) (cb s) (2 * Y)) := Lib.hid (fun a s hs => by
      rw [← hM]
      unfold mod'
      rw [hc]
      have q1 : (a * c + s) / c = a := by rw [Nat.add_comm, Nat.add_mul_div_right _ _ (by omega), Nat.div_eq_of_lt hs, Nat.zero_add]
      have q2 : (a * c + s) % c = s := by rw [Nat.add_comm, Nat.add_mul_mod_self_right, Nat.mod_eq_of_lt hs]
      rw [q1, q2])
    have HFB := Lib.hid (fun A T n => full_bd X Y ws xss hok A T n)
    have HTB := Lib.hid (fun A T d y => top_bd X Y ws xss hok A T d y)
    have HSB : Hid (∀ A T d y b n, n ≤ 3 → 0 ≤ sc Y ws xss A T d y b n ∧ sc Y ws xss A T d y b n ≤ 297) := Lib.hid (fun A T d y b n hn3 => ⟨sc_pos X Y ws xss hok A T d y b n, sc_le X Y ws xss hok A T d y b n hn3⟩)
    have HWB : Hid (∀ t a b, 0 ≤ won ws xss t a b ∧ won ws xss t a b ≤ 99) := Lib.hid (fun t a b => won_bd hok t a b)
    have HW : Hid (∀ (W : World) (n y : Nat) (az b : Int), Below w.heap.size w W → n < X → y < Y → (az = 0 ∨ az = 1) → (b = 0 ∨ b = 1) → Calls Try.prog 129 #[.agg #[.int .i64 (X : Int), .int .i64 (Y : Int), .slice va vn vc, .slice ua un uc], .int .i64 (n : Int), .int .i64 (y : Int), .int .i64 az, .int .i64 b] W fun e w' => e = .returned (.int .i64 (won ws xss (n * Y + y) az b)) ∧ Below W.heap.size W w') := Lib.hid (fun W n y az b hW hn hy haz hb => by
      have := gwon.l4won X Y n y az b _ ws _ xss W (H.out.below hW) hok (by omega) (by omega) (by omega) (by omega) haz hb
      rw [at_cast] at this
      exact this)
    rw [hc, hM]
    clear hM hok hc e1
    go_enter Try.func61, Try.ntmps61
    go_wp2_with fail
    refine HC.out.mono ?_
    rintro e w1 ⟨rfl, hb⟩
    have B1 := Lib.hid (below_tr B0.out hb)
    have K1 := Lib.hid (K0.out.below hb)
    clear c0 c1 c2 c3 c4 hb B0 K0 HC
    go_wp2_with fail
    go_loopw [4, 5, 6, 7, 8, 9, 10, 11, 12] (fun bv cv z6 z7 z8 z9 z10 z11 z12 wr => ∃ a : Nat, ∃ t : Int, a ≤ c ∧ cv = .int .i64 (a : Nat) ∧ bv = .int .i64 t ∧ 0 ≤ t ∧ t ≤ 1782 ∧ (∃ z, z6 = z) ∧ (∃ z, z7 = z) ∧ (∃ z, z8 = z) ∧ (∃ z, z9 = z) ∧ (∃ z, z10 = z) ∧ (∃ z, z11 = z) ∧ (∃ z, z12 = z) ∧ Hid (t = mx M (a * c)) ∧ Hid (Below w.heap.size w wr) ∧ Hid (Blk wr w.heap.size 40 #[.int .i64 (X : Int), .int .i64 (Y : Int), .slice va vn vc, .slice ua un uc])) (fun _ cv _ _ _ _ _ _ _ _ => c - (intOf cv).toNat)
    case atStart => exact ⟨0, 0, Nat.zero_le _, rfl, rfl, by omega, by omega, ⟨_, rfl⟩, ⟨_, rfl⟩, ⟨_, rfl⟩, ⟨_, rfl⟩, ⟨_, rfl⟩, ⟨_, rfl⟩, ⟨_, rfl⟩, Lib.hid (by rw [Nat.zero_mul]; rfl), B1, K1⟩
    case round =>
      clear B1 K1
      obtain ⟨a, t, ha, rfl, rfl, ht0, ht1, ⟨z6, rfl⟩, ⟨z7, rfl⟩, ⟨z8, rfl⟩, ⟨z9, rfl⟩, ⟨z10, rfl⟩, ⟨z11, rfl⟩, ⟨z12, rfl⟩, hT, hB, hK⟩ := hrel
      obtain ⟨wa, rfl⟩ : ∃ wi : World, wi = wr := ⟨_, rfl⟩
      obtain ⟨c0, c1, c2, c3, c4⟩ := four_cells hK.out
      by_cases hla : a < c
      · have hka : (a : Int) < (c : Int) := by omega
        have HLA := Lib.hid hla
        go_wp2_with fail
        try simp only [hw1]
        clear c0 c1 c2 c3 c4
        go_loopw [4, 6, 7, 8, 9, 10, 11, 12] (fun bv sv z7 z8 z9 z10 z11 z12 wr => ∃ s : Nat, ∃ t : Int, s ≤ c ∧ sv = .int .i64 (s : Nat) ∧ bv = .int .i64 t ∧ 0 ≤ t ∧ t ≤ 1782 ∧ (∃ z, z7 = z) ∧ (∃ z, z8 = z) ∧ (∃ z, z9 = z) ∧ (∃ z, z10 = z) ∧ (∃ z, z11 = z) ∧ (∃ z, z12 = z) ∧ Hid (t = mx M (a * c + s)) ∧ Hid (Below w.heap.size w wr) ∧ Hid (Blk wr w.heap.size 40 #[.int .i64 (X : Int), .int .i64 (Y : Int), .slice va vn vc, .slice ua un uc])) (fun _ sv _ _ _ _ _ _ _ => c - (intOf sv).toNat)
        case atStart => exact ⟨0, t, Nat.zero_le _, rfl, rfl, ht0, ht1, ⟨_, rfl⟩, ⟨_, rfl⟩, ⟨_, rfl⟩, ⟨_, rfl⟩, ⟨_, rfl⟩, ⟨_, rfl⟩, hT, hB, hK⟩
        case round =>
          clear hT hB hK ht0 ht1
          obtain ⟨s, t, hs, rfl, rfl, ht0, ht1, ⟨z7, rfl⟩, ⟨z8, rfl⟩, ⟨z9, rfl⟩, ⟨z10, rfl⟩, ⟨z11, rfl⟩, ⟨z12, rfl⟩, hT, hB, hK⟩ := hrel
          obtain ⟨ws', rfl⟩ : ∃ wi : World, wi = wr := ⟨_, rfl⟩
          obtain ⟨c0, c1, c2, c3, c4⟩ := four_cells hK.out
          by_cases hls : s < c
          · have hks : (s : Int) < (c : Int) := by omega
            have HLS := Lib.hid hls
            go_wp2_with fail
            try simp only [hw1]
            clear c0 c1 c2 c3 c4
            go_loopw [7, 8, 9, 10, 11, 12] (fun sv yv z9 z10 z11 z12 wr => ∃ yy : Nat, ∃ mm : Int, yy ≤ Y ∧ yv = .int .i64 (yy : Nat) ∧ sv = .int .i64 mm ∧ 0 ≤ mm ∧ mm ≤ 1782 ∧ (∃ z, z9 = z) ∧ (∃ z, z10 = z) ∧ (∃ z, z11 = z) ∧ (∃ z, z12 = z) ∧ Hid (mm = full X Y ws xss (cb a) (cb s) (2 * yy)) ∧ Hid (Below w.heap.size w wr) ∧ Hid (Blk wr w.heap.size 40 #[.int .i64 (X : Int), .int .i64 (Y : Int), .slice va vn vc, .slice ua un uc])) (fun _ yv _ _ _ _ _ => Y - (intOf yv).toNat)
            case atStart => exact ⟨0, 0, Nat.zero_le _, rfl, rfl, by omega, by omega, ⟨_, rfl⟩, ⟨_, rfl⟩, ⟨_, rfl⟩, ⟨_, rfl⟩, Lib.hid rfl, hB, hK⟩
            case round =>
              clear hB hK
              obtain ⟨yy, mm, hyy, rfl, rfl, hm0, hm1, ⟨z9, rfl⟩, ⟨z10, rfl⟩, ⟨z11, rfl⟩, ⟨z12, rfl⟩, hQ, hB, hK⟩ := hrel
              obtain ⟨wy, rfl⟩ : ∃ wi : World, wi = wr := ⟨_, rfl⟩
              obtain ⟨c0, c1, c2, c3, c4⟩ := four_cells hK.out
              by_cases hly : yy < Y
              · have hky : (yy : Int) < (Y : Int) := by omega
                have HLY := Lib.hid hly
                go_wp2_with fail
                clear c0 c1 c2 c3 c4
                go_loopw [7, 9, 10, 11, 12] (fun sv dv z10 z11 z12 wr => ∃ dd : Nat, ∃ mm : Int, dd ≤ 2 ∧ dv = .int .i64 (dd : Nat) ∧ sv = .int .i64 mm ∧ 0 ≤ mm ∧ mm ≤ 1782 ∧ (∃ z, z10 = z) ∧ (∃ z, z11 = z) ∧ (∃ z, z12 = z) ∧ Hid (mm = full X Y ws xss (cb a) (cb s) (2 * yy + dd)) ∧ Hid (Below w.heap.size w wr) ∧ Hid (Blk wr w.heap.size 40 #[.int .i64 (X : Int), .int .i64 (Y : Int), .slice va vn vc, .slice ua un uc])) (fun _ dv _ _ _ _ => 2 - (intOf dv).toNat)
                case atStart => exact ⟨0, mm, by omega, rfl, rfl, hm0, hm1, ⟨_, rfl⟩, ⟨_, rfl⟩, ⟨_, rfl⟩, hQ, hB, hK⟩
                case round =>
                  clear hQ hB hK hm0 hm1
                  obtain ⟨dd, mm, hdd, rfl, rfl, hm0, hm1, ⟨z10, rfl⟩, ⟨z11, rfl⟩, ⟨z12, rfl⟩, hQ, hB, hK⟩ := hrel
                  obtain ⟨wo, rfl⟩ : ∃ wi : World, wi = wr := ⟨_, rfl⟩
                  by_cases hld : dd < 2
                  · have hkd : (dd : Int) < 2 := by omega
                    have HLD := Lib.hid hld
                    have S1 : Hid (Blk (wo.alloc (.cells #[.int .i64 0, .int .i64 0] 3)) wo.heap.size 3 #[.int .i64 (sc Y ws xss (cb a) (cb s) (dd : Int) yy 0 0), .int .i64 (sc Y ws xss (cb a) (cb s) (dd : Int) yy 1 0)]) := Lib.hid (Blk.new wo 3 #[.int .i64 0, .int .i64 0])
                    have B2 := Lib.hid (below_al hB.out (.cells #[.int .i64 0, .int .i64 0] 3))
                    have K2 := Lib.hid (hK.out.alloc (.cells #[.int .i64 0, .int .i64 0] 3))
                    have hgs : w.heap.size < wo.heap.size := hK.out.lt
                    clear hB hK
                    go_wp2_with fail
                    generalize wo.heap.size = g at *
                    go_loopw [11, 12] (fun i z12 wr => ∃ n : Nat, n ≤ X ∧ i = .int .i64 (n : Nat) ∧ (∃ z, z12 = z) ∧ Hid (Blk wr g 3 #[.int .i64 (sc Y ws xss (cb a) (cb s) (dd : Int) yy 0 n), .int .i64 (sc Y ws xss (cb a) (cb s) (dd : Int) yy 1 n)]) ∧ Hid (Below w.heap.size w wr) ∧ Hid (Blk wr w.heap.size 40 #[.int .i64 (X : Int), .int .i64 (Y : Int), .slice va vn vc, .slice ua un uc])) (fun i _ _ => X - (intOf i).toNat)
                    case atStart => exact ⟨0, Nat.zero_le _, rfl, ⟨_, rfl⟩, S1, B2, K2⟩
                    case round =>
                      clear S1 B2 K2
                      obtain ⟨n, hn, rfl, ⟨z12, rfl⟩, hS, hB, hK⟩ := hrel
                      obtain ⟨wi, rfl⟩ : ∃ wi : World, wi = wr := ⟨_, rfl⟩
                      obtain ⟨c0, c1, c2, c3, c4⟩ := four_cells hK.out
                      have b0 := HSB.out (cb a) (cb s) (dd : Int) yy 0 n (by omega)
                      have b1 := HSB.out (cb a) (cb s) (dd : Int) yy 1 n (by omega)
                      by_cases hln : n < X
                      · have hkn : (n : Int) < (X : Int) := by omega
                        have HLN := Lib.hid hln
                        have hxs := cb_bits s n
                        have hxa := cb_bits a n
                        have HAZ0 := cb01 a n
                        obtain ⟨az, haz⟩ : ∃ az, cb a n = az := ⟨_, rfl⟩
                        obtain ⟨tz, htz⟩ : ∃ tz, cb s n = tz := ⟨_, rfl⟩
                        rw [haz] at hxa HAZ0
                        rw [htz] at hxs
                        have HAZ := Lib.hid HAZ0
                        clear HAZ0
                        by_cases htd : tz = (dd : Int)
                        · have hcmp : (tz == (dd : Int)) = true := by simp [htd]
                          have hs0 := sc_yes (Y := Y) (ws := ws) (xss := xss) (A := cb a) (T := cb s) (d := (dd : Int)) (b := 0) (y := yy) (n := n) (htz.trans htd)
                          have hs1 := sc_yes (Y := Y) (ws := ws) (xss := xss) (A := cb a) (T := cb s) (d := (dd : Int)) (b := 1) (y := yy) (n := n) (htz.trans htd)
                          have v0 := HWB.out (n * Y + yy) az 0
                          have v1 := HWB.out (n * Y + yy) az 1
                          rw [haz] at hs0 hs1
                          obtain ⟨r0, hr0⟩ : ∃ r0, won ws xss (n * Y + yy) az 0 = r0 := ⟨_, rfl⟩
                          obtain ⟨r1, hr1⟩ : ∃ r1, won ws xss (n * Y + yy) az 1 = r1 := ⟨_, rfl⟩
                          rw [hr0] at hs0 v0
                          rw [hr1] at hs1 v1
                          generalize sc Y ws xss (cb a) (cb s) (dd : Int) yy 0 n = p0 at hS b0 hs0
                          generalize sc Y ws xss (cb a) (cb s) (dd : Int) yy 1 n = p1 at hS b1 hs1
                          have HR0 := Lib.hid hr0
                          have HR1 := Lib.hid hr1
                          have HS0 := Lib.hid hs0
                          have HS1 := Lib.hid hs1
                          have m0 : IntKind.i64.wrap (p0 + r0) = p0 + r0 := IntWalk.i64_in _ (by omega)
                          have m1 : IntKind.i64.wrap (p1 + r1) = p1 + r1 := IntWalk.i64_in _ (by omega)
                          have S0 : Hid (Blk wi g 3 #[.int .i64 (if 0 < 0 then p0 + r0 else p0), .int .i64 (if 1 < 0 then p1 + r1 else p1)]) := Lib.hid (by simpa using hS.out)
                          clear hr0 hr1 hs0 hs1 b0 b1 v0 v1 htd haz htz
                          go_wp2_with fail
                          clear c0 c1 c2 c3 c4 hS
                          go_loopw [12] (fun j wj => ∃ m : Nat, m ≤ 2 ∧ j = .int .i64 (m : Nat) ∧ Hid (Blk wj g 3 #[(.int .i64 (if 0 < m then p0 + r0 else p0)), (.int .i64 (if 1 < m then p1 + r1 else p1))]) ∧ Hid (Below w.heap.size w wj) ∧ Hid (Blk wj w.heap.size 40 #[.int .i64 (X : Int), .int .i64 (Y : Int), .slice va vn vc, .slice ua un uc])) (fun j _ => 2 - (intOf j).toNat)
                          case atStart => exact ⟨0, by omega, rfl, S0, hB, hK⟩
                          case round =>
                            clear S0 hB hK
                            obtain ⟨m, hm, rfl, hS, hB, hK⟩ := hrel
                            obtain ⟨wj, rfl⟩ : ∃ wj : World, wj = wr := ⟨_, rfl⟩
                            obtain rfl | rfl | rfl : m = 0 ∨ m = 1 ∨ m = 2 := by omega
                            · have hB2 : Blk wj g 3 #[.int .i64 p0, .int .i64 p1] := by simpa using hS.out
                              have HBI := Lib.hid hB2
                              obtain ⟨s0, s1, s2⟩ := two_cells hB2
                              obtain ⟨c0, c1, c2, c3, c4⟩ := four_cells hK.out
                              have HCA : Hid (∀ W, Below wj.heap.size wj W → Calls Try.prog 129 #[.agg #[.int .i64 (X : Int), .int .i64 (Y : Int), .slice va vn vc, .slice ua un uc], .int .i64 (n : Int), .int .i64 (yy : Int), .int .i64 az, .int .i64 0] W fun e w' => e = .returned (.int .i64 r0) ∧ Below W.heap.size W w') := Lib.hid (fun W hW => by
                                have := HW.out W n yy az 0 (below_tr hB.out hW) HLN.out HLY.out HAZ.out (by omega)
                                rw [HR0.out] at this
                                exact this)
                              clear hB2
                              rw [show ((0 : Nat) : Int) = 0 from rfl]
                              go_wp2_with fail
                              refine last.start (S := (fun w' => w'.cell? ⟨w.heap.size, 0, none⟩ = some (.int .i64 (X : Int)) ∧ w'.cell? ⟨w.heap.size, 1, none⟩ = some (.int .i64 (Y : Int)) ∧ w'.cell? ⟨w.heap.size, 2, none⟩ = some (.slice va vn vc) ∧ w'.cell? ⟨w.heap.size, 3, none⟩ = some (.slice ua un uc) ∧ w'.cell? ⟨g, 0, none⟩ = some (.int .i64 p0) ∧ Below wj.heap.size wj w')) (L := 17) (by kernel_rfl) ?_
                              have hHeld : (fun w' => w'.cell? ⟨w.heap.size, 0, none⟩ = some (.int .i64 (X : Int)) ∧ w'.cell? ⟨w.heap.size, 1, none⟩ = some (.int .i64 (Y : Int)) ∧ w'.cell? ⟨w.heap.size, 2, none⟩ = some (.slice va vn vc) ∧ w'.cell? ⟨w.heap.size, 3, none⟩ = some (.slice ua un uc) ∧ w'.cell? ⟨g, 0, none⟩ = some (.int .i64 p0) ∧ Below wj.heap.size wj w') wj.drew := gbp.held5 c0 c1 c2 c3 s0 (below_dr (Below.refl _ _))
                              refine last.take (i := 0) (oi := { dst := some 59, op := Op.move (Operand.tmp 10), type := 34, pos := "l8_talk.go:435", after := #[], guard := none }) (v := ?v0m0) rfl (by kernel_rfl) (by kernel_rfl) (by kernel_rfl) (by kernel_rfl) (by decide) (fun _ _ _ h => h) (Or.inl ⟨by rfl, ?y0m0⟩) hHeld ?r0m0
                              case y0m0 => (intro w hSw; (try dsimp only at hSw); go_simp; try with_reducible rfl)
                              try simp only [Act.put, List.setIfInBounds_toArray, List.set_cons_zero, List.set_cons_succ]
                              refine last.take (i := 1) (oi := { dst := some 60, op := Op.move (Operand.tmp 12), type := 3, pos := "l8_talk.go:435", after := #[], guard := none }) (v := ?v1m0) rfl (by kernel_rfl) (by kernel_rfl) (by kernel_rfl) (by kernel_rfl) (by decide) (fun _ _ _ h => h) (Or.inl ⟨by rfl, ?y1m0⟩) hHeld ?r1m0
                              case y1m0 => (intro w hSw; (try dsimp only at hSw); go_simp; try with_reducible rfl)
                              try simp only [Act.put, List.setIfInBounds_toArray, List.set_cons_zero, List.set_cons_succ]
                              refine last.take (i := 2) (oi := { dst := some 61, op := Op.move (Operand.tmp 10), type := 34, pos := "l8_talk.go:435", after := #[], guard := none }) (v := ?v2m0) rfl (by kernel_rfl) (by kernel_rfl) (by kernel_rfl) (by kernel_rfl) (by decide) (fun _ _ _ h => h) (Or.inl ⟨by rfl, ?y2m0⟩) hHeld ?r2m0
                              case y2m0 => (intro w hSw; (try dsimp only at hSw); go_simp; try with_reducible rfl)
                              try simp only [Act.put, List.setIfInBounds_toArray, List.set_cons_zero, List.set_cons_succ]
                              refine last.take (i := 3) (oi := { dst := some 62, op := Op.move (Operand.tmp 12), type := 3, pos := "l8_talk.go:435", after := #[], guard := none }) (v := ?v3m0) rfl (by kernel_rfl) (by kernel_rfl) (by kernel_rfl) (by kernel_rfl) (by decide) (fun _ _ _ h => h) (Or.inl ⟨by rfl, ?y3m0⟩) hHeld ?r3m0
                              case y3m0 => (intro w hSw; (try dsimp only at hSw); go_simp; try with_reducible rfl)
                              try simp only [Act.put, List.setIfInBounds_toArray, List.set_cons_zero, List.set_cons_succ]
                              refine last.take (i := 4) (oi := { dst := some 63, op := Op.indexAddr 34 (Operand.tmp 61) (Operand.tmp 62), type := 0, pos := "l8_talk.go:435", after := #[{ on := 2, ground := Ground.data }, { on := 3, ground := Ground.data }], guard := none }) (v := ?v4m0) rfl (by kernel_rfl) (by kernel_rfl) (by kernel_rfl) (by kernel_rfl) (by decide) (fun _ _ _ h => h) (Or.inl ⟨by rfl, ?y4m0⟩) hHeld ?r4m0
                              case y4m0 => (intro w hSw; (try dsimp only at hSw); go_simp; try with_reducible rfl)
                              try simp only [Act.put, List.setIfInBounds_toArray, List.set_cons_zero, List.set_cons_succ]
                              refine last.take (i := 5) (oi := { dst := some 64, op := Op.load 3 (Operand.tmp 63), type := 3, pos := "l8_talk.go:435", after := #[{ on := 4, ground := Ground.data }], guard := none }) (v := ?v5m0) rfl (by kernel_rfl) (by kernel_rfl) (by kernel_rfl) (by kernel_rfl) (by decide) (fun _ _ _ h => h) (Or.inl ⟨by rfl, ?y5m0⟩) hHeld ?r5m0
                              case y5m0 => (intro w hSw; (try dsimp only at hSw); go_simp; try with_reducible rfl)
                              try simp only [Act.put, List.setIfInBounds_toArray, List.set_cons_zero, List.set_cons_succ]
                              refine last.take (i := 6) (oi := { dst := some 65, op := Op.load 40 (Operand.tmp 1), type := 40, pos := "l8_talk.go:435", after := #[], guard := none }) (v := ?v6m0) rfl (by kernel_rfl) (by kernel_rfl) (by kernel_rfl) (by kernel_rfl) (by decide) (fun _ _ _ h => h) (Or.inl ⟨by rfl, ?y6m0⟩) hHeld ?r6m0
                              case y6m0 => (intro w hSw; (try dsimp only at hSw); go_simp; try with_reducible rfl)
                              try simp only [Act.put, List.setIfInBounds_toArray, List.set_cons_zero, List.set_cons_succ]
                              refine last.take (i := 7) (oi := { dst := some 66, op := Op.move (Operand.tmp 11), type := 3, pos := "l8_talk.go:435", after := #[], guard := none }) (v := ?v7m0) rfl (by kernel_rfl) (by kernel_rfl) (by kernel_rfl) (by kernel_rfl) (by decide) (fun _ _ _ h => h) (Or.inl ⟨by rfl, ?y7m0⟩) hHeld ?r7m0
                              case y7m0 => (intro w hSw; (try dsimp only at hSw); go_simp; try with_reducible rfl)
                              try simp only [Act.put, List.setIfInBounds_toArray, List.set_cons_zero, List.set_cons_succ]
                              refine last.take (i := 8) (oi := { dst := some 67, op := Op.move (Operand.tmp 8), type := 3, pos := "l8_talk.go:435", after := #[], guard := none }) (v := ?v8m0) rfl (by kernel_rfl) (by kernel_rfl) (by kernel_rfl) (by kernel_rfl) (by decide) (fun _ _ _ h => h) (Or.inl ⟨by rfl, ?y8m0⟩) hHeld ?r8m0
                              case y8m0 => (intro w hSw; (try dsimp only at hSw); go_simp; try with_reducible rfl)
                              try simp only [Act.put, List.setIfInBounds_toArray, List.set_cons_zero, List.set_cons_succ]
                              refine last.take (i := 9) (oi := { dst := some 68, op := Op.move (Operand.tmp 5), type := 3, pos := "l8_talk.go:435", after := #[], guard := none }) (v := ?v9m0) rfl (by kernel_rfl) (by kernel_rfl) (by kernel_rfl) (by kernel_rfl) (by decide) (fun _ _ _ h => h) (Or.inl ⟨by rfl, ?y9m0⟩) hHeld ?r9m0
                              case y9m0 => (intro w hSw; (try dsimp only at hSw); go_simp; try with_reducible rfl)
                              try simp only [Act.put, List.setIfInBounds_toArray, List.set_cons_zero, List.set_cons_succ]
                              refine last.take (i := 10) (oi := { dst := some 69, op := Op.move (Operand.tmp 11), type := 3, pos := "l8_talk.go:435", after := #[], guard := none }) (v := ?v10m0) rfl (by kernel_rfl) (by kernel_rfl) (by kernel_rfl) (by kernel_rfl) (by decide) (fun _ _ _ h => h) (Or.inl ⟨by rfl, ?y10m0⟩) hHeld ?r10m0
                              case y10m0 => (intro w hSw; (try dsimp only at hSw); go_simp; try with_reducible rfl)
                              try simp only [Act.put, List.setIfInBounds_toArray, List.set_cons_zero, List.set_cons_succ]
                              refine last.take (i := 11) (oi := { dst := some 70, op := Op.binOp BinOp.shr 3 (Operand.tmp 68) (Operand.tmp 69) 3, type := 3, pos := "l8_talk.go:435", after := #[{ on := 9, ground := Ground.data }, { on := 10, ground := Ground.data }], guard := none }) (v := ?v11m0) rfl (by kernel_rfl) (by kernel_rfl) (by kernel_rfl) (by kernel_rfl) (by decide) (fun _ _ _ h => h) (Or.inl ⟨by rfl, ?y11m0⟩) hHeld ?r11m0
                              case y11m0 => (intro w hSw; (try dsimp only at hSw); go_simp; try with_reducible rfl)
                              try simp only [Act.put, List.setIfInBounds_toArray, List.set_cons_zero, List.set_cons_succ]
                              refine last.take (i := 12) (oi := { dst := some 71, op := Op.binOp BinOp.and 3 (Operand.tmp 70) (Operand.const (Value.int IntKind.i64 1)) 3, type := 3, pos := "l8_talk.go:435", after := #[{ on := 11, ground := Ground.data }], guard := none }) (v := ?v12m0) rfl (by kernel_rfl) (by kernel_rfl) (by kernel_rfl) (by kernel_rfl) (by decide) (fun _ _ _ h => h) (Or.inl ⟨by rfl, ?y12m0⟩) hHeld ?r12m0
                              case y12m0 => (intro w hSw; (try dsimp only at hSw); go_simp; try with_reducible rfl)
                              try simp only [Act.put, List.setIfInBounds_toArray, List.set_cons_zero, List.set_cons_succ]
                              refine last.take (i := 13) (oi := { dst := some 72, op := Op.move (Operand.tmp 12), type := 3, pos := "l8_talk.go:435", after := #[], guard := none }) (v := ?v13m0) rfl (by kernel_rfl) (by kernel_rfl) (by kernel_rfl) (by kernel_rfl) (by decide) (fun _ _ _ h => h) (Or.inl ⟨by rfl, ?y13m0⟩) hHeld ?r13m0
                              case y13m0 => (intro w hSw; (try dsimp only at hSw); go_simp; try with_reducible rfl)
                              try simp only [Act.put, List.setIfInBounds_toArray, List.set_cons_zero, List.set_cons_succ]
                              refine last.one (i := 14) (o := { dst := some 73, op := Op.call { callee := Callee.value (Operand.func 129), args := #[Operand.tmp 65, Operand.tmp 66, Operand.tmp 67, Operand.tmp 71, Operand.tmp 72], argTypes := #[40, 3, 3, 3, 3] }, type := 3, pos := "l8_talk.go:435", after := #[{ on := 6, ground := Ground.data }, { on := 7, ground := Ground.data }, { on := 8, ground := Ground.data }, { on := 12, ground := Ground.data }, { on := 13, ground := Ground.data }], guard := none }) (by kernel_rfl) rfl (fun K hK => ?_)
                              go_simp
                              (go_at_call 129; (with_reducible refine (HCA.out _ (below_dr (Below.refl _ _))).mono ?_); rintro e wq ⟨rfl, hq⟩)
                              have ht : Below wj.heap.size wj wq := below_tr (below_dr (Below.refl _ _)) hq
                              have hBq := HBI.out.below ht
                              have rf : ∀ k, wq.frozen? ⟨g, k, none⟩ = false := fun k => Joins.unfrozen_of_block hBq k
                              obtain ⟨d0, d1, d2⟩ := two_cells hBq
                              have HT := Lib.hid ht
                              have HBQ := Lib.hid hBq
                              refine hK.out _ _ ?s14m0 (fun hHeld => ?_)
                              case s14m0 => (try dsimp only); exact gbp.held5 c0 c1 c2 c3 s0 ht
                              clear hK K
                              try simp only [Act.put, List.setIfInBounds_toArray, List.set_cons_zero, List.set_cons_succ]
                              clear hq ht hBq
                              refine last.take (i := 15) (oi := { dst := some 74, op := Op.binOp BinOp.add 3 (Operand.tmp 64) (Operand.tmp 73) 3, type := 3, pos := "l8_talk.go:435", after := #[{ on := 5, ground := Ground.data }, { on := 14, ground := Ground.data }], guard := none }) (v := ?v15m0) rfl (by kernel_rfl) (by kernel_rfl) (by kernel_rfl) (by kernel_rfl) (by decide) (fun _ _ _ h => h) (Or.inl ⟨by rfl, ?y15m0⟩) hHeld ?r15m0
                              case y15m0 => (intro w hSw; (try dsimp only at hSw); go_simp; try with_reducible rfl)
                              try simp only [Act.put, List.setIfInBounds_toArray, List.set_cons_zero, List.set_cons_succ]
                              refine last.take (i := 16) (oi := { dst := some 75, op := Op.indexAddr 34 (Operand.tmp 59) (Operand.tmp 60), type := 0, pos := "l8_talk.go:435", after := #[{ on := 0, ground := Ground.data }, { on := 1, ground := Ground.data }, { on := 0, ground := Ground.phase }, { on := 1, ground := Ground.phase }, { on := 2, ground := Ground.phase }, { on := 3, ground := Ground.phase }, { on := 4, ground := Ground.phase }, { on := 5, ground := Ground.phase }, { on := 6, ground := Ground.phase }, { on := 7, ground := Ground.phase }, { on := 8, ground := Ground.phase }, { on := 9, ground := Ground.phase }, { on := 10, ground := Ground.phase }, { on := 11, ground := Ground.phase }, { on := 12, ground := Ground.phase }, { on := 13, ground := Ground.phase }, { on := 14, ground := Ground.phase }, { on := 15, ground := Ground.phase }], guard := none }) (v := ?v16m0) rfl (by kernel_rfl) (by kernel_rfl) (by kernel_rfl) (by kernel_rfl) (by decide) (fun _ _ _ h => h) (Or.inl ⟨by rfl, ?y16m0⟩) hHeld ?r16m0
                              case y16m0 => (intro w hSw; (try dsimp only at hSw); go_simp; try with_reducible rfl)
                              try simp only [Act.put, List.setIfInBounds_toArray, List.set_cons_zero, List.set_cons_succ]
                              refine last.final (o := { dst := none, op := Op.store 3 (Operand.tmp 75) (Operand.tmp 74), type := 0, pos := "l8_talk.go:435", after := #[{ on := 16, ground := Ground.data }, { on := 15, ground := Ground.data }, { on := 14, ground := Ground.chain }, { on := 0, ground := Ground.phase }, { on := 1, ground := Ground.phase }, { on := 2, ground := Ground.phase }, { on := 3, ground := Ground.phase }, { on := 4, ground := Ground.phase }, { on := 5, ground := Ground.phase }, { on := 6, ground := Ground.phase }, { on := 7, ground := Ground.phase }, { on := 8, ground := Ground.phase }, { on := 9, ground := Ground.phase }, { on := 10, ground := Ground.phase }, { on := 11, ground := Ground.phase }, { on := 12, ground := Ground.phase }, { on := 13, ground := Ground.phase }, { on := 14, ground := Ground.phase }, { on := 15, ground := Ground.phase }], guard := none }) (by kernel_rfl) rfl (fun K hK => ?_)
                              go_simp
                              refine hK.out _ _ ?_
                              clear hK K
                              try simp only [Act.put, List.setIfInBounds_toArray, List.set_cons_zero, List.set_cons_succ]
                              refine last.done (by kernel_rfl) ?_ _
                              have hw1' : Wrote (fun p : Addr => p.block = g) wq (wq.setCell ⟨g, 0, none⟩ (.int .i64 (p0 + r0))) := (Wrote.refl (fun p : Addr => p.block = g) wq).setCell (p := (⟨g, 0, none⟩ : Addr)) rfl _
                              have S2 : Hid (Blk (wq.setCell ⟨g, 0, none⟩ (.int .i64 (p0 + r0))) g 3 #[.int .i64 (p0 + r0), .int .i64 p1]) := Lib.hid (by
                                have := Joins.block_setCell (i := 0) HBQ.out (.int .i64 (p0 + r0))
                                unfold Blk
                                simpa using this)
                              have B2 : Hid (Below w.heap.size w (wq.setCell ⟨g, 0, none⟩ (.int .i64 (p0 + r0)))) := Lib.hid (Below.setCell (below_tr hB.out HT.out) (by show w.heap.size ≤ g; omega) _)
                              have K2 : Hid (Blk (wq.setCell ⟨g, 0, none⟩ (.int .i64 (p0 + r0))) w.heap.size 40 #[.int .i64 (X : Int), .int .i64 (Y : Int), .slice va vn vc, .slice ua un uc]) := Lib.hid (Blk.wrote (hK.out.below HT.out) hw1' (fun p hp => by rw [show p.block = g from hp]; omega))
                              clear hHeld hw1' HT HBQ HBI d0 d1 d2 rf s0 s1 s2 c0 c1 c2 c3 c4 hS hB hK
                              go_wp2_with fail
                              go_roundw
                              case rel => exact ⟨1, by omega, by go_num, Lib.hid (by simpa using S2.out), B2, K2⟩
                              case measure => simp [intOf]
                            · have hB2 : Blk wj g 3 #[.int .i64 (p0 + r0), .int .i64 p1] := by simpa using hS.out
                              have HBI := Lib.hid hB2
                              obtain ⟨s0, s1, s2⟩ := two_cells hB2
                              obtain ⟨c0, c1, c2, c3, c4⟩ := four_cells hK.out
                              have HCA : Hid (∀ W, Below wj.heap.size wj W → Calls Try.prog 129 #[.agg #[.int .i64 (X : Int), .int .i64 (Y : Int), .slice va vn vc, .slice ua un uc], .int .i64 (n : Int), .int .i64 (yy : Int), .int .i64 az, .int .i64 1] W fun e w' => e = .returned (.int .i64 r1) ∧ Below W.heap.size W w') := Lib.hid (fun W hW => by
                                have := HW.out W n yy az 1 (below_tr hB.out hW) HLN.out HLY.out HAZ.out (by omega)
                                rw [HR1.out] at this
                                exact this)
                              clear hB2
                              rw [show ((1 : Nat) : Int) = 1 from rfl]
                              go_wp2_with fail
                              refine last.start (S := (fun w' => w'.cell? ⟨w.heap.size, 0, none⟩ = some (.int .i64 (X : Int)) ∧ w'.cell? ⟨w.heap.size, 1, none⟩ = some (.int .i64 (Y : Int)) ∧ w'.cell? ⟨w.heap.size, 2, none⟩ = some (.slice va vn vc) ∧ w'.cell? ⟨w.heap.size, 3, none⟩ = some (.slice ua un uc) ∧ w'.cell? ⟨g, 1, none⟩ = some (.int .i64 p1) ∧ Below wj.heap.size wj w')) (L := 17) (by kernel_rfl) ?_
                              have hHeld : (fun w' => w'.cell? ⟨w.heap.size, 0, none⟩ = some (.int .i64 (X : Int)) ∧ w'.cell? ⟨w.heap.size, 1, none⟩ = some (.int .i64 (Y : Int)) ∧ w'.cell? ⟨w.heap.size, 2, none⟩ = some (.slice va vn vc) ∧ w'.cell? ⟨w.heap.size, 3, none⟩ = some (.slice ua un uc) ∧ w'.cell? ⟨g, 1, none⟩ = some (.int .i64 p1) ∧ Below wj.heap.size wj w') wj.drew := gbp.held5 c0 c1 c2 c3 s1 (below_dr (Below.refl _ _))
                              refine last.take (i := 0) (oi := { dst := some 59, op := Op.move (Operand.tmp 10), type := 34, pos := "l8_talk.go:435", after := #[], guard := none }) (v := ?v0m1) rfl (by kernel_rfl) (by kernel_rfl) (by kernel_rfl) (by kernel_rfl) (by decide) (fun _ _ _ h => h) (Or.inl ⟨by rfl, ?y0m1⟩) hHeld ?r0m1
                              case y0m1 => (intro w hSw; (try dsimp only at hSw); go_simp; try with_reducible rfl)
                              try simp only [Act.put, List.setIfInBounds_toArray, List.set_cons_zero, List.set_cons_succ]
                              refine last.take (i := 1) (oi := { dst := some 60, op := Op.move (Operand.tmp 12), type := 3, pos := "l8_talk.go:435", after := #[], guard := none }) (v := ?v1m1) rfl (by kernel_rfl) (by kernel_rfl) (by kernel_rfl) (by kernel_rfl) (by decide) (fun _ _ _ h => h) (Or.inl ⟨by rfl, ?y1m1⟩) hHeld ?r1m1
                              case y1m1 => (intro w hSw; (try dsimp only at hSw); go_simp; try with_reducible rfl)
                              try simp only [Act.put, List.setIfInBounds_toArray, List.set_cons_zero, List.set_cons_succ]
                              refine last.take (i := 2) (oi := { dst := some 61, op := Op.move (Operand.tmp 10), type := 34, pos := "l8_talk.go:435", after := #[], guard := none }) (v := ?v2m1) rfl (by kernel_rfl) (by kernel_rfl) (by kernel_rfl) (by kernel_rfl) (by decide) (fun _ _ _ h => h) (Or.inl ⟨by rfl, ?y2m1⟩) hHeld ?r2m1
                              case y2m1 => (intro w hSw; (try dsimp only at hSw); go_simp; try with_reducible rfl)
                              try simp only [Act.put, List.setIfInBounds_toArray, List.set_cons_zero, List.set_cons_succ]
                              refine last.take (i := 3) (oi := { dst := some 62, op := Op.move (Operand.tmp 12), type := 3, pos := "l8_talk.go:435", after := #[], guard := none }) (v := ?v3m1) rfl (by kernel_rfl) (by kernel_rfl) (by kernel_rfl) (by kernel_rfl) (by decide) (fun _ _ _ h => h) (Or.inl ⟨by rfl, ?y3m1⟩) hHeld ?r3m1
                              case y3m1 => (intro w hSw; (try dsimp only at hSw); go_simp; try with_reducible rfl)
                              try simp only [Act.put, List.setIfInBounds_toArray, List.set_cons_zero, List.set_cons_succ]
                              refine last.take (i := 4) (oi := { dst := some 63, op := Op.indexAddr 34 (Operand.tmp 61) (Operand.tmp 62), type := 0, pos := "l8_talk.go:435", after := #[{ on := 2, ground := Ground.data }, { on := 3, ground := Ground.data }], guard := none }) (v := ?v4m1) rfl (by kernel_rfl) (by kernel_rfl) (by kernel_rfl) (by kernel_rfl) (by decide) (fun _ _ _ h => h) (Or.inl ⟨by rfl, ?y4m1⟩) hHeld ?r4m1
                              case y4m1 => (intro w hSw; (try dsimp only at hSw); go_simp; try with_reducible rfl)
                              try simp only [Act.put, List.setIfInBounds_toArray, List.set_cons_zero, List.set_cons_succ]
                              refine last.take (i := 5) (oi := { dst := some 64, op := Op.load 3 (Operand.tmp 63), type := 3, pos := "l8_talk.go:435", after := #[{ on := 4, ground := Ground.data }], guard := none }) (v := ?v5m1) rfl (by kernel_rfl) (by kernel_rfl) (by kernel_rfl) (by kernel_rfl) (by decide) (fun _ _ _ h => h) (Or.inl ⟨by rfl, ?y5m1⟩) hHeld ?r5m1
                              case y5m1 => (intro w hSw; (try dsimp only at hSw); go_simp; try with_reducible rfl)
                              try simp only [Act.put, List.setIfInBounds_toArray, List.set_cons_zero, List.set_cons_succ]
                              refine last.take (i := 6) (oi := { dst := some 65, op := Op.load 40 (Operand.tmp 1), type := 40, pos := "l8_talk.go:435", after := #[], guard := none }) (v := ?v6m1) rfl (by kernel_rfl) (by kernel_rfl) (by kernel_rfl) (by kernel_rfl) (by decide) (fun _ _ _ h => h) (Or.inl ⟨by rfl, ?y6m1⟩) hHeld ?r6m1
                              case y6m1 => (intro w hSw; (try dsimp only at hSw); go_simp; try with_reducible rfl)
                              try simp only [Act.put, List.setIfInBounds_toArray, List.set_cons_zero, List.set_cons_succ]
                              refine last.take (i := 7) (oi := { dst := some 66, op := Op.move (Operand.tmp 11), type := 3, pos := "l8_talk.go:435", after := #[], guard := none }) (v := ?v7m1) rfl (by kernel_rfl) (by kernel_rfl) (by kernel_rfl) (by kernel_rfl) (by decide) (fun _ _ _ h => h) (Or.inl ⟨by rfl, ?y7m1⟩) hHeld ?r7m1
                              case y7m1 => (intro w hSw; (try dsimp only at hSw); go_simp; try with_reducible rfl)
                              try simp only [Act.put, List.setIfInBounds_toArray, List.set_cons_zero, List.set_cons_succ]
                              refine last.take (i := 8) (oi := { dst := some 67, op := Op.move (Operand.tmp 8), type := 3, pos := "l8_talk.go:435", after := #[], guard := none }) (v := ?v8m1) rfl (by kernel_rfl) (by kernel_rfl) (by kernel_rfl) (by kernel_rfl) (by decide) (fun _ _ _ h => h) (Or.inl ⟨by rfl, ?y8m1⟩) hHeld ?r8m1
                              case y8m1 => (intro w hSw; (try dsimp only at hSw); go_simp; try with_reducible rfl)
                              try simp only [Act.put, List.setIfInBounds_toArray, List.set_cons_zero, List.set_cons_succ]
                              refine last.take (i := 9) (oi := { dst := some 68, op := Op.move (Operand.tmp 5), type := 3, pos := "l8_talk.go:435", after := #[], guard := none }) (v := ?v9m1) rfl (by kernel_rfl) (by kernel_rfl) (by kernel_rfl) (by kernel_rfl) (by decide) (fun _ _ _ h => h) (Or.inl ⟨by rfl, ?y9m1⟩) hHeld ?r9m1
                              case y9m1 => (intro w hSw; (try dsimp only at hSw); go_simp; try with_reducible rfl)
                              try simp only [Act.put, List.setIfInBounds_toArray, List.set_cons_zero, List.set_cons_succ]
                              refine last.take (i := 10) (oi := { dst := some 69, op := Op.move (Operand.tmp 11), type := 3, pos := "l8_talk.go:435", after := #[], guard := none }) (v := ?v10m1) rfl (by kernel_rfl) (by kernel_rfl) (by kernel_rfl) (by kernel_rfl) (by decide) (fun _ _ _ h => h) (Or.inl ⟨by rfl, ?y10m1⟩) hHeld ?r10m1
                              case y10m1 => (intro w hSw; (try dsimp only at hSw); go_simp; try with_reducible rfl)
                              try simp only [Act.put, List.setIfInBounds_toArray, List.set_cons_zero, List.set_cons_succ]
                              refine last.take (i := 11) (oi := { dst := some 70, op := Op.binOp BinOp.shr 3 (Operand.tmp 68) (Operand.tmp 69) 3, type := 3, pos := "l8_talk.go:435", after := #[{ on := 9, ground := Ground.data }, { on := 10, ground := Ground.data }], guard := none }) (v := ?v11m1) rfl (by kernel_rfl) (by kernel_rfl) (by kernel_rfl) (by kernel_rfl) (by decide) (fun _ _ _ h => h) (Or.inl ⟨by rfl, ?y11m1⟩) hHeld ?r11m1
                              case y11m1 => (intro w hSw; (try dsimp only at hSw); go_simp; try with_reducible rfl)
                              try simp only [Act.put, List.setIfInBounds_toArray, List.set_cons_zero, List.set_cons_succ]
                              refine last.take (i := 12) (oi := { dst := some 71, op := Op.binOp BinOp.and 3 (Operand.tmp 70) (Operand.const (Value.int IntKind.i64 1)) 3, type := 3, pos := "l8_talk.go:435", after := #[{ on := 11, ground := Ground.data }], guard := none }) (v := ?v12m1) rfl (by kernel_rfl) (by kernel_rfl) (by kernel_rfl) (by kernel_rfl) (by decide) (fun _ _ _ h => h) (Or.inl ⟨by rfl, ?y12m1⟩) hHeld ?r12m1
                              case y12m1 => (intro w hSw; (try dsimp only at hSw); go_simp; try with_reducible rfl)
                              try simp only [Act.put, List.setIfInBounds_toArray, List.set_cons_zero, List.set_cons_succ]
                              refine last.take (i := 13) (oi := { dst := some 72, op := Op.move (Operand.tmp 12), type := 3, pos := "l8_talk.go:435", after := #[], guard := none }) (v := ?v13m1) rfl (by kernel_rfl) (by kernel_rfl) (by kernel_rfl) (by kernel_rfl) (by decide) (fun _ _ _ h => h) (Or.inl ⟨by rfl, ?y13m1⟩) hHeld ?r13m1
                              case y13m1 => (intro w hSw; (try dsimp only at hSw); go_simp; try with_reducible rfl)
                              try simp only [Act.put, List.setIfInBounds_toArray, List.set_cons_zero, List.set_cons_succ]
                              refine last.one (i := 14) (o := { dst := some 73, op := Op.call { callee := Callee.value (Operand.func 129), args := #[Operand.tmp 65, Operand.tmp 66, Operand.tmp 67, Operand.tmp 71, Operand.tmp 72], argTypes := #[40, 3, 3, 3, 3] }, type := 3, pos := "l8_talk.go:435", after := #[{ on := 6, ground := Ground.data }, { on := 7, ground := Ground.data }, { on := 8, ground := Ground.data }, { on := 12, ground := Ground.data }, { on := 13, ground := Ground.data }], guard := none }) (by kernel_rfl) rfl (fun K hK => ?_)
                              go_simp
                              (go_at_call 129; (with_reducible refine (HCA.out _ (below_dr (Below.refl _ _))).mono ?_); rintro e wq ⟨rfl, hq⟩)
                              have ht : Below wj.heap.size wj wq := below_tr (below_dr (Below.refl _ _)) hq
                              have hBq := HBI.out.below ht
                              have rf : ∀ k, wq.frozen? ⟨g, k, none⟩ = false := fun k => Joins.unfrozen_of_block hBq k
                              obtain ⟨d0, d1, d2⟩ := two_cells hBq
                              have HT := Lib.hid ht
                              have HBQ := Lib.hid hBq
                              refine hK.out _ _ ?s14m1 (fun hHeld => ?_)
                              case s14m1 => (try dsimp only); exact gbp.held5 c0 c1 c2 c3 s1 ht
                              clear hK K
                              try simp only [Act.put, List.setIfInBounds_toArray, List.set_cons_zero, List.set_cons_succ]
                              clear hq ht hBq
                              refine last.take (i := 15) (oi := { dst := some 74, op := Op.binOp BinOp.add 3 (Operand.tmp 64) (Operand.tmp 73) 3, type := 3, pos := "l8_talk.go:435", after := #[{ on := 5, ground := Ground.data }, { on := 14, ground := Ground.data }], guard := none }) (v := ?v15m1) rfl (by kernel_rfl) (by kernel_rfl) (by kernel_rfl) (by kernel_rfl) (by decide) (fun _ _ _ h => h) (Or.inl ⟨by rfl, ?y15m1⟩) hHeld ?r15m1
                              case y15m1 => (intro w hSw; (try dsimp only at hSw); go_simp; try with_reducible rfl)
                              try simp only [Act.put, List.setIfInBounds_toArray, List.set_cons_zero, List.set_cons_succ]
                              refine last.take (i := 16) (oi := { dst := some 75, op := Op.indexAddr 34 (Operand.tmp 59) (Operand.tmp 60), type := 0, pos := "l8_talk.go:435", after := #[{ on := 0, ground := Ground.data }, { on := 1, ground := Ground.data }, { on := 0, ground := Ground.phase }, { on := 1, ground := Ground.phase }, { on := 2, ground := Ground.phase }, { on := 3, ground := Ground.phase }, { on := 4, ground := Ground.phase }, { on := 5, ground := Ground.phase }, { on := 6, ground := Ground.phase }, { on := 7, ground := Ground.phase }, { on := 8, ground := Ground.phase }, { on := 9, ground := Ground.phase }, { on := 10, ground := Ground.phase }, { on := 11, ground := Ground.phase }, { on := 12, ground := Ground.phase }, { on := 13, ground := Ground.phase }, { on := 14, ground := Ground.phase }, { on := 15, ground := Ground.phase }], guard := none }) (v := ?v16m1) rfl (by kernel_rfl) (by kernel_rfl) (by kernel_rfl) (by kernel_rfl) (by decide) (fun _ _ _ h => h) (Or.inl ⟨by rfl, ?y16m1⟩) hHeld ?r16m1
                              case y16m1 => (intro w hSw; (try dsimp only at hSw); go_simp; try with_reducible rfl)
                              try simp only [Act.put, List.setIfInBounds_toArray, List.set_cons_zero, List.set_cons_succ]
                              refine last.final (o := { dst := none, op := Op.store 3 (Operand.tmp 75) (Operand.tmp 74), type := 0, pos := "l8_talk.go:435", after := #[{ on := 16, ground := Ground.data }, { on := 15, ground := Ground.data }, { on := 14, ground := Ground.chain }, { on := 0, ground := Ground.phase }, { on := 1, ground := Ground.phase }, { on := 2, ground := Ground.phase }, { on := 3, ground := Ground.phase }, { on := 4, ground := Ground.phase }, { on := 5, ground := Ground.phase }, { on := 6, ground := Ground.phase }, { on := 7, ground := Ground.phase }, { on := 8, ground := Ground.phase }, { on := 9, ground := Ground.phase }, { on := 10, ground := Ground.phase }, { on := 11, ground := Ground.phase }, { on := 12, ground := Ground.phase }, { on := 13, ground := Ground.phase }, { on := 14, ground := Ground.phase }, { on := 15, ground := Ground.phase }], guard := none }) (by kernel_rfl) rfl (fun K hK => ?_)
                              go_simp
                              refine hK.out _ _ ?_
                              clear hK K
                              try simp only [Act.put, List.setIfInBounds_toArray, List.set_cons_zero, List.set_cons_succ]
                              refine last.done (by kernel_rfl) ?_ _
                              have hw1' : Wrote (fun p : Addr => p.block = g) wq (wq.setCell ⟨g, 1, none⟩ (.int .i64 (p1 + r1))) := (Wrote.refl (fun p : Addr => p.block = g) wq).setCell (p := (⟨g, 1, none⟩ : Addr)) rfl _
                              have S2 : Hid (Blk (wq.setCell ⟨g, 1, none⟩ (.int .i64 (p1 + r1))) g 3 #[.int .i64 (p0 + r0), .int .i64 (p1 + r1)]) := Lib.hid (by
                                have := Joins.block_setCell (i := 1) HBQ.out (.int .i64 (p1 + r1))
                                unfold Blk
                                simpa using this)
                              have B2 : Hid (Below w.heap.size w (wq.setCell ⟨g, 1, none⟩ (.int .i64 (p1 + r1)))) := Lib.hid (Below.setCell (below_tr hB.out HT.out) (by show w.heap.size ≤ g; omega) _)
                              have K2 : Hid (Blk (wq.setCell ⟨g, 1, none⟩ (.int .i64 (p1 + r1))) w.heap.size 40 #[.int .i64 (X : Int), .int .i64 (Y : Int), .slice va vn vc, .slice ua un uc]) := Lib.hid (Blk.wrote (hK.out.below HT.out) hw1' (fun p hp => by rw [show p.block = g from hp]; omega))
                              clear hHeld hw1' HT HBQ HBI d0 d1 d2 rf s0 s1 s2 c0 c1 c2 c3 c4 hS hB hK
                              go_wp2_with fail
                              go_roundw
                              case rel => exact ⟨2, by omega, by go_num, Lib.hid (by simpa using S2.out), B2, K2⟩
                              case measure => simp [intOf]
                            · have S2 : Hid (Blk wj g 3 #[.int .i64 (sc Y ws xss (cb a) (cb s) (dd : Int) yy 0 (n + 1)), .int .i64 (sc Y ws xss (cb a) (cb s) (dd : Int) yy 1 (n + 1))]) := Lib.hid (by rw [HS0.out, HS1.out]; simpa using hS.out)
                              go_wp2_with fail
                              go_roundw
                              case rel => exact ⟨n + 1, by omega, by go_num, ⟨_, rfl⟩, S2, hB, hK⟩
                              case measure => simp [intOf]; omega
                        · have hcmp : (tz == (dd : Int)) = false := by simp [htd]
                          have hs0 := sc_no (Y := Y) (ws := ws) (xss := xss) (A := cb a) (T := cb s) (d := (dd : Int)) (b := 0) (y := yy) (n := n) (fun e => htd (htz.symm.trans e))
                          have hs1 := sc_no (Y := Y) (ws := ws) (xss := xss) (A := cb a) (T := cb s) (d := (dd : Int)) (b := 1) (y := yy) (n := n) (fun e => htd (htz.symm.trans e))
                          have S2 : Hid (Blk wi g 3 #[.int .i64 (sc Y ws xss (cb a) (cb s) (dd : Int) yy 0 (n + 1)), .int .i64 (sc Y ws xss (cb a) (cb s) (dd : Int) yy 1 (n + 1))]) := Lib.hid (by rw [hs0, hs1]; exact hS.out)
                          clear hs0 hs1 b0 b1 haz htz htd hS
                          go_wp2_with fail
                          clear c0 c1 c2 c3 c4
                          go_loopw [12] (fun j wj => j = .int .i64 0 ∧ Hid (Blk wj g 3 #[.int .i64 (sc Y ws xss (cb a) (cb s) (dd : Int) yy 0 (n + 1)), .int .i64 (sc Y ws xss (cb a) (cb s) (dd : Int) yy 1 (n + 1))]) ∧ Hid (Below w.heap.size w wj) ∧ Hid (Blk wj w.heap.size 40 #[.int .i64 (X : Int), .int .i64 (Y : Int), .slice va vn vc, .slice ua un uc])) (fun _ _ => 0)
                          case atStart => exact ⟨rfl, S2, hB, hK⟩
                          case round =>
                            clear S2 hB hK
                            obtain ⟨rfl, hS, hB, hK⟩ := hrel
                            go_wp2_with fail
                            go_roundw
                            case rel => exact ⟨n + 1, by omega, by go_num, ⟨_, rfl⟩, hS, hB, hK⟩
                            case measure => simp [intOf]; omega
                      · have hkn : ¬ (n : Int) < (X : Int) := by omega
                        have hnX : n = X := by omega
                        subst hnX
                        have HTO : Hid (m2 (sc Y ws xss (cb a) (cb s) (dd : Int) yy 0 n) (sc Y ws xss (cb a) (cb s) (dd : Int) yy 1 n) = top n Y ws xss (cb a) (cb s) (dd : Int) yy) := Lib.hid rfl
                        generalize sc Y ws xss (cb a) (cb s) (dd : Int) yy 0 n = p0 at hS HTO b0
                        generalize sc Y ws xss (cb a) (cb s) (dd : Int) yy 1 n = p1 at hS HTO b1
                        have HTE : Hid ((if p0 < p1 then p1 else p0) = top n Y ws xss (cb a) (cb s) (dd : Int) yy) := Lib.hid HTO.out
                        obtain ⟨tp, htp⟩ : ∃ tp, top n Y ws xss (cb a) (cb s) (dd : Int) yy = tp := ⟨_, rfl⟩
                        have hfs := HFB.out (cb a) (cb s) (2 * yy + (dd + 1)) (by have := HLY.out; omega)
                        have HFS : Hid (full n Y ws xss (cb a) (cb s) (2 * yy + (dd + 1)) = mm + tp) := Lib.hid (by
                          show full n Y ws xss (cb a) (cb s) (2 * yy + dd) + top n Y ws xss (cb a) (cb s) (((2 * yy + dd) % 2 : Nat) : Int) ((2 * yy + dd) / 2) = _
                          have := HLD.out
                          rw [show (2 * yy + dd) % 2 = dd by omega, show (2 * yy + dd) / 2 = yy by omega, htp, hQ.out])
                        rw [HFS.out] at hfs
                        rw [htp] at HTE
                        have hws : IntKind.i64.wrap (mm + tp) = mm + tp := IntWalk.i64_in _ (by omega)
                        have HMO : Hid (∀ W, Calls Try.prog 88 #[.int .i64 p0, .int .i64 p1] W fun e w' => e = .returned (.int .i64 tp) ∧ W = w') := Lib.hid (fun W => by have := lmm.most_any p0 p1 W; rw [HTE.out] at this; exact this)
                        obtain ⟨s0, s1, s2⟩ := two_cells hS.out
                        clear htp HTO
                        go_wp2_with fail
                        go_region_held3 (fun w' => w'.cell? ⟨g, 0, none⟩ = some (.int .i64 p0) ∧ w'.cell? ⟨g, 1, none⟩ = some (.int .i64 p1) ∧ w'.cell? ⟨g, 0, none⟩ = some (.int .i64 p0) ∧ w'.cell? ⟨g, 1, none⟩ = some (.int .i64 p1) ∧ Below wi.heap.size wi w')
                          (((with_reducible refine held4 s0 s1 s0 s1 ?_); repeat (first | (with_reducible exact Below.refl _ _) | (with_reducible refine below_dr ?_) | (with_reducible refine below_tr ?_ (by assumption)))))
                          (first | (go_at_call 88; refine (HMO.out _).mono ?_; rintro e wq ⟨rfl, rfl⟩))
                        have B3 := Lib.hid (below_tr hB.out (below_dr (Below.refl _ _)))
                        have K3 := Lib.hid (hK.out.below (below_dr (Below.refl _ _)))
                        clear s0 s1 s2 c0 c1 c2 c3 c4 hS hB hK
                        go_wp2_with fail
                        go_roundw
                        case rel => exact ⟨dd + 1, mm + tp, by have := HLD.out; omega, by go_num, rfl, by omega, by omega, ⟨_, rfl⟩, ⟨_, rfl⟩, ⟨_, rfl⟩, Lib.hid HFS.out.symm, B3, K3⟩
                        case measure => have := HLD.out; simp [intOf]; omega
                  · have hkd : ¬ (dd : Int) < 2 := by omega
                    obtain rfl : dd = 2 := by omega
                    have hQ2 : Hid (mm = full X Y ws xss (cb a) (cb s) (2 * (yy + 1))) := Lib.hid (by rw [show 2 * (yy + 1) = 2 * yy + 2 by omega]; exact hQ.out)
                    go_wp2_with fail
                    go_roundw
                    case rel => exact ⟨yy + 1, mm, by have := HLY.out; omega, by go_num, rfl, by omega, by omega, ⟨_, rfl⟩, ⟨_, rfl⟩, ⟨_, rfl⟩, ⟨_, rfl⟩, hQ2, hB, hK⟩
                    case measure => have := HLY.out; simp [intOf]; omega
              · have hky : ¬ (yy : Int) < (Y : Int) := by omega
                obtain rfl : yy = Y := by omega
                have HMM : Hid (M (a * c + s) = mm) := Lib.hid ((HM.out a s HLS.out).trans hQ.out.symm)
                by_cases hmx : t < mm
                · have HN := Lib.hid (mx_yes hT.out HMM.out hmx)
                  have HIF : Hid ((if t < mm then mm else t) = mm) := Lib.hid (if_pos hmx)
                  go_wp2_with fail
                  refine (lmm.most_any t mm _).mono ?_
                  rintro e w' ⟨rfl, rfl⟩
                  rw [HIF.out]
                  clear c0 c1 c2 c3 c4
                  go_wp2_with fail
                  go_roundw
                  case rel => exact ⟨s + 1, mm, by have := HLS.out; omega, by go_num, rfl, by omega, by omega, ⟨_, rfl⟩, ⟨_, rfl⟩, ⟨_, rfl⟩, ⟨_, rfl⟩, ⟨_, rfl⟩, ⟨_, rfl⟩, HN, hB, hK⟩
                  case measure => have := HLS.out; simp [intOf]; omega
                · have HN := Lib.hid (mx_no hT.out HMM.out hmx)
                  have HIF : Hid ((if t < mm then mm else t) = t) := Lib.hid (if_neg hmx)
                  go_wp2_with fail
                  refine (lmm.most_any t mm _).mono ?_
                  rintro e w' ⟨rfl, rfl⟩
                  rw [HIF.out]
                  clear c0 c1 c2 c3 c4
                  go_wp2_with fail
                  go_roundw
                  case rel => exact ⟨s + 1, t, by have := HLS.out; omega, by go_num, rfl, by omega, by omega, ⟨_, rfl⟩, ⟨_, rfl⟩, ⟨_, rfl⟩, ⟨_, rfl⟩, ⟨_, rfl⟩, ⟨_, rfl⟩, HN, hB, hK⟩
                  case measure => have := HLS.out; simp [intOf]; omega
          · have hks : ¬ (s : Int) < (c : Int) := by omega
            obtain rfl : s = c := by omega
            have hT2 : Hid (t = mx M ((a + 1) * s)) := Lib.hid (by rw [Nat.add_mul, Nat.one_mul]; exact hT.out)
            go_wp2_with fail
            go_roundw
            case rel => exact ⟨a + 1, t, by have := HLA.out; omega, by go_num, rfl, by omega, by omega, ⟨_, rfl⟩, ⟨_, rfl⟩, ⟨_, rfl⟩, ⟨_, rfl⟩, ⟨_, rfl⟩, ⟨_, rfl⟩, ⟨_, rfl⟩, hT2, hB, hK⟩
            case measure => have := HLA.out; simp [intOf]; omega
      · have hka : ¬ (a : Int) < (c : Int) := by omega
        obtain rfl : a = c := by omega
        go_wp2_with fail
        go_ret2
        exact ⟨by rw [hT.out]; rfl, hB.out⟩
  · rw [gameB_no hok] at HC
    rw [res_no hok]
    clear hok
    go_enter Try.func61, Try.ntmps61
    go_wp2_with fail
    refine HC.out.mono ?_
    rintro e w1 ⟨rfl, hb⟩
    have B1 := Lib.hid (below_tr B0.out hb)
    clear c0 c1 c2 c3 c4 hb HC K0 B0
    go_wp2_with fail
    go_ret2
    exact ⟨rfl, B1.out⟩

end Go.Proofs.Ytimfnhejiiagmaa.tks
