/- BoxCode of the model. -/
import Derived.Test.YtnjaocgciokpaaaBcd
namespace Go.Proofs.Ytnjaocgciokpaaa.bcs
open Go.RowKit Go.Deep Go.Proofs.Ytnjaocgciokpaaa.base
open Go.Proofs.Ytnjaocgciokpaaa.ints (ret_int infoInt)
open Go.Proofs.Ytnjaocgciokpaaa.val (okBox boxB boxB_yes boxB_no)
open Go.Proofs.Ytnjaocgciokpaaa.rws (total)
open Go.Proofs.Ytnjaocgciokpaaa.row (nn at_)
open Go.Proofs.Ytnjaocgciokpaaa.oco
open Go.Proofs.Ytnjaocgciokpaaa.ocs (two_cells' three_cells' four_cells' R)
open Go.Proofs.Ytnjaocgciokpaaa.rlo
open Go.Proofs.Ytnjaocgciokpaaa.cdm (lt lt_le)
open Go.Proofs.Ytnjaocgciokpaaa.bcd

/-- the sum over the first places -/
def ms (xss : List (List Int)) (s t i bit : Nat) : Nat → Int
  | 0 => 0
  | a + 1 => ms xss s t i bit a + (if (s ^^^ (a / 2)) ^^^ (a % 2) = bit then R xss (i : Int) (s ^^^ t) a else 0)
theorem ms_all (xss : List (List Int)) (s t i bit : Nat) : ms xss s t i bit 4 = rn bit (pair xss i s t) := by
  simp [ms, rn, pair, comb, oco.row, oco.four, oco.one, List.range_succ]
  omega
theorem ms_yes {xss : List (List Int)} {s t i bit a : Nat} (h : (s ^^^ (a / 2)) ^^^ (a % 2) = bit) : ms xss s t i bit (a + 1) = ms xss s t i bit a + R xss (i : Int) (s ^^^ t) a := by show _ + _ = _; rw [if_pos h]
theorem ms_no {xss : List (List Int)} {s t i bit a : Nat} (h : ¬ (s ^^^ (a / 2)) ^^^ (a % 2) = bit) : ms xss s t i bit (a + 1) = ms xss s t i bit a := by show _ + _ = _; rw [if_neg h, Int.add_zero]


open Classical in
noncomputable def twoB (x y wh : Int) (xss : List (List Int)) : Bool := if okT x y wh xss then true else false
theorem twoB_yes {x y wh : Int} {xss : List (List Int)} (h : okT x y wh xss) : twoB x y wh xss = true := if_pos h
theorem twoB_no {x y wh : Int} {xss : List (List Int)} (h : ¬ okT x y wh xss) : twoB x y wh xss = false := if_neg h
set_option maxHeartbeats 1000000 in
theorem two (x y wh : Int) (v : Value) (xss : List (List Int)) (w : World) (h : IRows w v xss) (hn : total xss ≤ 1048576) :
    Calls Try.prog 77 #[.agg #[.int .i64 x, .int .i64 y, .int .i64 wh, v]] w fun e w' => e = .returned (.bool (twoB x y wh xss)) ∧ Below w.heap.size w w' := by
  have hr := val.spec_any x y wh _ xss _ (h.below (below_al (Below.refl w.heap.size w) (.cells #[.int .i64 x, .int .i64 y, .int .i64 wh, v] 50))) hn
  obtain ⟨va, vn, vc, rfl⟩ := h.shape
  have K0 := Lib.hid (Blk.new w 50 #[.int .i64 x, .int .i64 y, .int .i64 wh, .slice va vn vc])
  have B0 := Lib.hid (below_al (Below.refl w.heap.size w) (.cells #[.int .i64 x, .int .i64 y, .int .i64 wh, .slice va vn vc] 50))
  have HR := Lib.hid hr
  clear h hr
  by_cases hok : okBox x y wh xss
  · rw [boxB_yes hok] at HR
    by_cases hx : x = 2
    · have dx : (x == 2) = true := by simp [hx]
      by_cases hy : y = 2
      · have dy : (y == 2) = true := by simp [hy]
        rw [twoB_yes ⟨hok, hx, hy⟩]
        clear hok hx hy
        go_enter Try.func77, Try.ntmps77
        go_wp2_with fail
        refine HR.out.mono ?_
        rintro e w1 ⟨rfl, hb⟩
        have B1 := Lib.hid (below_tr B0.out hb)
        have K1 := Lib.hid (K0.out.below hb)
        obtain ⟨c0, c1, c2, c3⟩ := four_cells' K1.out
        clear hb HR B0 K0
        go_wp2_with fail
        go_ret
        exact ⟨rfl, B1.out⟩
      · have dy : (y == 2) = false := by simp [hy]
        rw [twoB_no (fun h => hy h.2.2)]
        clear hok hx hy
        go_enter Try.func77, Try.ntmps77
        go_wp2_with fail
        refine HR.out.mono ?_
        rintro e w1 ⟨rfl, hb⟩
        have B1 := Lib.hid (below_tr B0.out hb)
        have K1 := Lib.hid (K0.out.below hb)
        obtain ⟨c0, c1, c2, c3⟩ := four_cells' K1.out
        clear hb HR B0 K0
        go_wp2_with fail
        go_ret
        exact ⟨rfl, B1.out⟩
    · have dx : (x == 2) = false := by simp [hx]
      rw [twoB_no (fun h => hx h.2.1)]
      clear hok hx
      go_enter Try.func77, Try.ntmps77
      go_wp2_with fail
      refine HR.out.mono ?_
      rintro e w1 ⟨rfl, hb⟩
      have B1 := Lib.hid (below_tr B0.out hb)
      have K1 := Lib.hid (K0.out.below hb)
      obtain ⟨c0, c1, c2, c3⟩ := four_cells' K1.out
      clear hb HR B0 K0
      go_wp2_with fail
      go_ret
      exact ⟨rfl, B1.out⟩
  · rw [boxB_no hok] at HR
    rw [twoB_no (fun h => hok h.1)]
    clear hok
    go_enter Try.func77, Try.ntmps77
    go_wp2_with fail
    refine HR.out.mono ?_
    rintro e w1 ⟨rfl, hb⟩
    have B1 := Lib.hid (below_tr B0.out hb)
    have K1 := Lib.hid (K0.out.below hb)
    obtain ⟨c0, c1, c2, c3⟩ := four_cells' K1.out
    clear hb HR B0 K0
    go_wp2_with fail
    go_ret
    exact ⟨rfl, B1.out⟩



set_option maxRecDepth 100000 in
set_option maxHeartbeats 8000000 in
theorem spec_any (x y wh : Int) (v : Value) (xss : List (List Int)) (w : World) (h : IRows w v xss) (hn : total xss ≤ 1048576) :
    Calls Try.prog 47 #[.agg #[.int .i64 x, .int .i64 y, .int .i64 wh, v]] w fun e w' => ∃ u, e = .returned (.tuple #[u, .bool (res x y wh xss).2]) ∧ Ints w' u (res x y wh xss).1 ∧ Below w.heap.size w w' := by
  obtain ⟨i0, hi, hz0, hz1, hz2⟩ := info_parts infoInt
  have HBX := Lib.hid h
  have B0 := Lib.hid (below_al (below_al (Below.refl w.heap.size w) (.cells #[.int .i64 x, .int .i64 y, .int .i64 wh, v] 50)) (.cells #[] 3))
  have HR := Lib.hid (two x y wh v xss _ (h.below B0.out) hn)
  obtain ⟨va, vn, vc, rfl⟩ := h.shape
  have K0 := Lib.hid ((Blk.new w 50 #[.int .i64 x, .int .i64 y, .int .i64 wh, .slice va vn vc]).alloc (.cells #[] 3))
  clear h
  by_cases hok : okT x y wh xss
  · rw [twoB_yes hok] at HR
    rw [res_yes hok]
    obtain ⟨hok, rfl, rfl⟩ := hok
    have HOK := Lib.hid hok
    have O0 : Hid (((w.alloc (.cells #[.int .i64 2, .int .i64 2, .int .i64 wh, .slice va vn vc] 50)).alloc (.cells #[] 3)).ownsRow (w.heap.size + 1) 3 1 (.slice (some ⟨w.heap.size + 1, 0, none⟩) 0 0) (2 * 0) (i64s (pre xss (2 * 0)))) := Lib.hid (by
      have := World.ownsRow_made (base := w.heap.size + 1) (e := 3) (size := 1) (w.alloc (.cells #[.int .i64 2, .int .i64 2, .int .i64 wh, .slice va vn vc] 50)) #[] 0 (by simp) (Nat.zero_le _) rfl
      simpa [i64s, pre] using this)
    clear hok
    obtain ⟨w0, hw0⟩ : ∃ w0, (w.alloc (.cells #[.int .i64 2, .int .i64 2, .int .i64 wh, .slice va vn vc] 50)).alloc (.cells #[] 3) = w0 := ⟨_, rfl⟩
    rw [hw0] at B0 HR K0 O0
    obtain ⟨c0, c1, c2, c3⟩ := four_cells' K0.out
    go_enter Try.func47, Try.ntmps47
    go_wp2_with fail
    refine HR.out.mono ?_
    rintro e w1 ⟨rfl, hb⟩
    have B1 := Lib.hid (below_tr B0.out hb)
    have K1 := Lib.hid (K0.out.below hb)
    have O1 := Lib.hid (app.owns_below O0.out hb)
    clear hb HR B0 K0 O0 c0 c1 c2 c3 hw0
    go_wp2_with fail
    go_loopw [4, 5, 6, 7, 8, 9, 10, 11] (fun out q z6 z7 z8 z9 z10 z11 wr => ∃ k : Nat, k ≤ 4 ∧ q = .int .i64 k ∧ (∃ z, z6 = z) ∧ (∃ z, z7 = z) ∧ (∃ z, z8 = z) ∧ (∃ z, z9 = z) ∧ (∃ z, z10 = z) ∧ (∃ z, z11 = z) ∧ Hid (wr.ownsRow (w.heap.size + 1) 3 1 out (2 * k) (i64s (pre xss (2 * k)))) ∧ Hid (Below w.heap.size w wr) ∧ Hid (Blk wr w.heap.size 50 #[.int .i64 2, .int .i64 2, .int .i64 wh, .slice va vn vc])) (fun _ q _ _ _ _ _ _ _ => 4 - (intOf q).toNat)
    case atStart => exact ⟨0, by decide, rfl, ⟨_, rfl⟩, ⟨_, rfl⟩, ⟨_, rfl⟩, ⟨_, rfl⟩, ⟨_, rfl⟩, ⟨_, rfl⟩, O1, B1, K1⟩
    case round =>
      clear O1 B1 K1
      obtain ⟨k, hk, rfl, ⟨z6, rfl⟩, ⟨z7, rfl⟩, ⟨z8, rfl⟩, ⟨z9, rfl⟩, ⟨z10, rfl⟩, ⟨z11, rfl⟩, hO, hB, hK⟩ := hrel
      obtain ⟨wo, rfl⟩ : ∃ wo : World, wo = wr := ⟨_, rfl⟩
      by_cases hlt : k < 4
      · have hkz : (k : Int) < 4 := by omega
        have HLT := Lib.hid hlt
        have HO0 : Hid (wo.ownsRow (w.heap.size + 1) 3 1 _ (2 * k + 0) (i64s (pre xss (2 * k + 0)))) := hO
        obtain ⟨S, hS⟩ : ∃ S : Int, ((k % 2 : Nat) : Int) = S := ⟨_, rfl⟩
        obtain ⟨U, hU⟩ : ∃ U : Int, ((k / 2 : Nat) : Int) = U := ⟨_, rfl⟩
        have f0 : bits .and .i64 (k : Int) 1 = S := (plg.and_one k).trans hS
        have f1 : (k : Int) / 2 = U := by rw [← hU]; omega
        have HS := Lib.hid hS
        have HU := Lib.hid hU
        clear hlt hS hU
        go_wp2_with fail
        clear f0 f1
        go_loopw [4, 8, 9, 10, 11] (fun out q z9 z10 z11 wr => ∃ i : Nat, i ≤ 2 ∧ q = .int .i64 i ∧ (∃ z, z9 = z) ∧ (∃ z, z10 = z) ∧ (∃ z, z11 = z) ∧ Hid (wr.ownsRow (w.heap.size + 1) 3 1 out (2 * k + i) (i64s (pre xss (2 * k + i)))) ∧ Hid (Below w.heap.size w wr) ∧ Hid (Blk wr w.heap.size 50 #[.int .i64 2, .int .i64 2, .int .i64 wh, .slice va vn vc])) (fun _ q _ _ _ _ => 2 - (intOf q).toNat)
        case atStart => exact ⟨0, by decide, rfl, ⟨_, rfl⟩, ⟨_, rfl⟩, ⟨_, rfl⟩, HO0, hB, hK⟩
        case round =>
          clear HO0 hO hB hK
          obtain ⟨i, hi', rfl, ⟨z9, rfl⟩, ⟨z10, rfl⟩, ⟨z11, rfl⟩, hO, hB, hK⟩ := hrel
          obtain ⟨wi, rfl⟩ : ∃ wi : World, wi = wr := ⟨_, rfl⟩
          by_cases hli : i < 2
          · have hiz : (i : Int) < 2 := by omega
            have hi2 : (i : Int) ≤ 2 := by omega
            have HLI := Lib.hid hli
            obtain ⟨b0, b1, b2, b3⟩ := four_cells' hK.out
            have hs1 : k % 2 ≤ 1 := by omega
            have hu1 : k / 2 ≤ 1 := by have := HLT.out; omega
            have hxx := xor1 hs1 hu1
            obtain ⟨X, hX⟩ : ∃ X : Int, (((k % 2) ^^^ (k / 2) : Nat) : Int) = X := ⟨_, rfl⟩
            have fx : bits .xor .i64 S U = X := by rw [← HS.out, ← HU.out, ← hX]; exact ocs.xor_nat hs1 hu1
            have hat := row.at_lt HOK.out (i := (((k % 2) ^^^ (k / 2) : Nat) : Int)) (j := (i : Int)) (by omega) (by omega) (by omega) (by omega)
            have HAT := Lib.hid hat
            have HRW := row.l2row 2 2 wh ((((k % 2) ^^^ (k / 2) : Nat)) : Int) (i : Int) _ xss wi (HBX.out.below hB.out) HOK.out (by omega) (by omega) (by omega) (by omega)
            have HRB : Hid (∀ a, a < 4 → 0 ≤ R xss (i : Int) ((k % 2) ^^^ (k / 2)) a ∧ R xss (i : Int) ((k % 2) ^^^ (k / 2)) a ≤ 1000) := Lib.hid (fun a ha => row.nn_bd HOK.out hat ha)
            rw [hX] at HRW
            have HX := Lib.hid hX
            have HRW' := Lib.hid HRW
            obtain ⟨LT, hLT⟩ : ∃ LT : Int, ((lt k i : Nat) : Int) = LT := ⟨_, rfl⟩
            have fl : bits .and .i64 ((k : Int) / 2 ^ i) 1 = LT := (cdm.and_lt k i (by have := HLT.out; omega)).trans hLT
            have HLTT := Lib.hid hLT
            clear hli hs1 hu1 hxx hX hat HRW hLT
            go_wp2_with fail
            refine HRW'.out.mono ?_
            rintro e w2 ⟨u, rfl, hu, hb⟩
            have O2 := Lib.hid (app.owns_below hO.out hb)
            have B2 := Lib.hid (below_tr hB.out hb)
            have K2 := Lib.hid (hK.out.below hb)
            rw [← HX.out] at hu
            obtain ⟨rb, ro, rcap, rfl, _, _, q0, q1, q2, q3⟩ := row.cells4 HOK.out HAT.out hu
            obtain ⟨r0, hr0⟩ : ∃ r0, R xss (i : Int) ((k % 2) ^^^ (k / 2)) 0 = r0 := ⟨_, rfl⟩
            obtain ⟨r1, hr1⟩ : ∃ r1, R xss (i : Int) ((k % 2) ^^^ (k / 2)) 1 = r1 := ⟨_, rfl⟩
            obtain ⟨r2, hr2⟩ : ∃ r2, R xss (i : Int) ((k % 2) ^^^ (k / 2)) 2 = r2 := ⟨_, rfl⟩
            obtain ⟨r3, hr3⟩ : ∃ r3, R xss (i : Int) ((k % 2) ^^^ (k / 2)) 3 = r3 := ⟨_, rfl⟩
            have q0' : w2.cell? ⟨rb, ro, none⟩ = some (.int .i64 r0) := by rw [← hr0]; exact q0
            have q1' : w2.cell? ⟨rb, ro + 1, none⟩ = some (.int .i64 r1) := by rw [← hr1]; exact q1
            have q2' : w2.cell? ⟨rb, ro + 2, none⟩ = some (.int .i64 r2) := by rw [← hr2]; exact q2
            have q3' : w2.cell? ⟨rb, ro + 3, none⟩ = some (.int .i64 r3) := by rw [← hr3]; exact q3
            have HR0 := Lib.hid hr0
            have HR1 := Lib.hid hr1
            have HR2 := Lib.hid hr2
            have HR3 := Lib.hid hr3
            have HBD : Hid ((0 ≤ r0 ∧ r0 ≤ 1000) ∧ (0 ≤ r1 ∧ r1 ≤ 1000) ∧ (0 ≤ r2 ∧ r2 ≤ 1000) ∧ 0 ≤ r3 ∧ r3 ≤ 1000) := Lib.hid (by rw [← hr0, ← hr1, ← hr2, ← hr3]; exact ⟨HRB.out 0 (by decide), HRB.out 1 (by decide), HRB.out 2 (by decide), HRB.out 3 (by decide)⟩)
            clear hu hb q0 q1 q2 q3 hr0 hr1 hr2 hr3 HRB HRW' hO hB hK b0 b1 b2 b3 fx
            go_wp2_with fail
            go_loopw [10, 11] (fun s q wr => ∃ (a : Nat) (zz z : Int), Hid (a = 0 ∧ zz = 0 ∨ a = 1 ∧ zz = 1 ∨ a = 2 ∧ zz = 2 ∨ a = 3 ∧ zz = 3 ∨ a = 4 ∧ zz = 4) ∧ q = .int .i64 zz ∧ s = .int .i64 z ∧ Hid (z = ms xss (k % 2) (k / 2) i (lt k i) a) ∧ 0 ≤ z ∧ z ≤ 1000 * a ∧ w2 = wr) (fun _ q _ => 4 - (intOf q).toNat)
            case atStart => exact ⟨0, 0, 0, .inl ⟨rfl, rfl⟩, rfl, rfl, Lib.hid rfl, by omega, by omega, rfl⟩
            case round =>
            obtain ⟨a, zz, z, haz, rfl, rfl, hz, hz0', hz1', rfl⟩ := hrel
            rcases haz.out with ⟨rfl, rfl⟩ | ⟨rfl, rfl⟩ | ⟨rfl, rfl⟩ | ⟨rfl, rfl⟩ | ⟨rfl, rfl⟩
            · obtain ⟨M, hM⟩ : ∃ M : Int, (((k % 2) ^^^ 0 : Nat) : Int) = M := ⟨_, rfl⟩
              obtain ⟨N, hN⟩ : ∃ N : Int, ((((k % 2) ^^^ 0) ^^^ 0 : Nat) : Int) = N := ⟨_, rfl⟩
              have hm1 : (k % 2) ^^^ 0 ≤ 1 := xor1 (by omega) (by decide)
              have xm : bits .xor .i64 S 0 = M := by rw [← HS.out, ← hM]; exact ocs.xor_nat (by omega) (by decide)
              have xn : bits .xor .i64 M 0 = N := by rw [← hM, ← hN]; exact ocs.xor_nat hm1 (by decide)
              have xa : bits .and .i64 0 1 = 0 := by decide
              have hiff : (((k % 2) ^^^ (0 / 2)) ^^^ (0 % 2) = lt k i) ↔ N = LT := by
                rw [← hN, ← HLTT.out]
                exact ⟨fun h => congrArg Int.ofNat h, fun h => Int.ofNat.inj h⟩
              have hbd := HBD.out
              by_cases hq : N = LT
              · have dq : (N == LT) = true := by simp [hq]
                have HST : Hid (z + r0 = ms xss (k % 2) (k / 2) i (lt k i) 1) := Lib.hid (by rw [ms_yes (hiff.2 hq), hz.out, ← HR0.out])
                clear hM hN hm1 hiff hq haz
                go_wp2_with fail
                refine ⟨⟨1, 1, z + r0, .inr (.inl ⟨rfl, rfl⟩), rfl, rfl, HST, by omega, by push_cast; omega, by first | rfl | trivial⟩, by decide⟩
              · have dq : (N == LT) = false := by simp [hq]
                have HST : Hid (z = ms xss (k % 2) (k / 2) i (lt k i) 1) := Lib.hid (by rw [ms_no (fun h => hq (hiff.1 h)), hz.out])
                clear hM hN hm1 hiff hq haz
                go_wp2_with fail
                refine ⟨⟨1, 1, z, .inr (.inl ⟨rfl, rfl⟩), rfl, rfl, HST, by omega, by push_cast; omega, by first | rfl | trivial⟩, by decide⟩
            · obtain ⟨M, hM⟩ : ∃ M : Int, (((k % 2) ^^^ 0 : Nat) : Int) = M := ⟨_, rfl⟩
              obtain ⟨N, hN⟩ : ∃ N : Int, ((((k % 2) ^^^ 0) ^^^ 1 : Nat) : Int) = N := ⟨_, rfl⟩
              have hm1 : (k % 2) ^^^ 0 ≤ 1 := xor1 (by omega) (by decide)
              have xm : bits .xor .i64 S 0 = M := by rw [← HS.out, ← hM]; exact ocs.xor_nat (by omega) (by decide)
              have xn : bits .xor .i64 M 1 = N := by rw [← hM, ← hN]; exact ocs.xor_nat hm1 (by decide)
              have xa : bits .and .i64 1 1 = 1 := by decide
              have hiff : (((k % 2) ^^^ (1 / 2)) ^^^ (1 % 2) = lt k i) ↔ N = LT := by
                rw [← hN, ← HLTT.out]
                exact ⟨fun h => congrArg Int.ofNat h, fun h => Int.ofNat.inj h⟩
              have hbd := HBD.out
              by_cases hq : N = LT
              · have dq : (N == LT) = true := by simp [hq]
                have HST : Hid (z + r1 = ms xss (k % 2) (k / 2) i (lt k i) 2) := Lib.hid (by rw [ms_yes (hiff.2 hq), hz.out, ← HR1.out])
                clear hM hN hm1 hiff hq haz
                go_wp2_with fail
                refine ⟨⟨2, 2, z + r1, .inr (.inr (.inl ⟨rfl, rfl⟩)), rfl, rfl, HST, by omega, by push_cast; omega, by first | rfl | trivial⟩, by decide⟩
              · have dq : (N == LT) = false := by simp [hq]
                have HST : Hid (z = ms xss (k % 2) (k / 2) i (lt k i) 2) := Lib.hid (by rw [ms_no (fun h => hq (hiff.1 h)), hz.out])
                clear hM hN hm1 hiff hq haz
                go_wp2_with fail
                refine ⟨⟨2, 2, z, .inr (.inr (.inl ⟨rfl, rfl⟩)), rfl, rfl, HST, by omega, by push_cast; omega, by first | rfl | trivial⟩, by decide⟩
            · obtain ⟨M, hM⟩ : ∃ M : Int, (((k % 2) ^^^ 1 : Nat) : Int) = M := ⟨_, rfl⟩
              obtain ⟨N, hN⟩ : ∃ N : Int, ((((k % 2) ^^^ 1) ^^^ 0 : Nat) : Int) = N := ⟨_, rfl⟩
              have hm1 : (k % 2) ^^^ 1 ≤ 1 := xor1 (by omega) (by decide)
              have xm : bits .xor .i64 S 1 = M := by rw [← HS.out, ← hM]; exact ocs.xor_nat (by omega) (by decide)
              have xn : bits .xor .i64 M 0 = N := by rw [← hM, ← hN]; exact ocs.xor_nat hm1 (by decide)
              have xa : bits .and .i64 2 1 = 0 := by decide
              have hiff : (((k % 2) ^^^ (2 / 2)) ^^^ (2 % 2) = lt k i) ↔ N = LT := by
                rw [← hN, ← HLTT.out]
                exact ⟨fun h => congrArg Int.ofNat h, fun h => Int.ofNat.inj h⟩
              have hbd := HBD.out
              by_cases hq : N = LT
              · have dq : (N == LT) = true := by simp [hq]
                have HST : Hid (z + r2 = ms xss (k % 2) (k / 2) i (lt k i) 3) := Lib.hid (by rw [ms_yes (hiff.2 hq), hz.out, ← HR2.out])
                clear hM hN hm1 hiff hq haz
                go_wp2_with fail
                refine ⟨⟨3, 3, z + r2, .inr (.inr (.inr (.inl ⟨rfl, rfl⟩))), rfl, rfl, HST, by omega, by push_cast; omega, by first | rfl | trivial⟩, by decide⟩
              · have dq : (N == LT) = false := by simp [hq]
                have HST : Hid (z = ms xss (k % 2) (k / 2) i (lt k i) 3) := Lib.hid (by rw [ms_no (fun h => hq (hiff.1 h)), hz.out])
                clear hM hN hm1 hiff hq haz
                go_wp2_with fail
                refine ⟨⟨3, 3, z, .inr (.inr (.inr (.inl ⟨rfl, rfl⟩))), rfl, rfl, HST, by omega, by push_cast; omega, by first | rfl | trivial⟩, by decide⟩
            · obtain ⟨M, hM⟩ : ∃ M : Int, (((k % 2) ^^^ 1 : Nat) : Int) = M := ⟨_, rfl⟩
              obtain ⟨N, hN⟩ : ∃ N : Int, ((((k % 2) ^^^ 1) ^^^ 1 : Nat) : Int) = N := ⟨_, rfl⟩
              have hm1 : (k % 2) ^^^ 1 ≤ 1 := xor1 (by omega) (by decide)
              have xm : bits .xor .i64 S 1 = M := by rw [← HS.out, ← hM]; exact ocs.xor_nat (by omega) (by decide)
              have xn : bits .xor .i64 M 1 = N := by rw [← hM, ← hN]; exact ocs.xor_nat hm1 (by decide)
              have xa : bits .and .i64 3 1 = 1 := by decide
              have hiff : (((k % 2) ^^^ (3 / 2)) ^^^ (3 % 2) = lt k i) ↔ N = LT := by
                rw [← hN, ← HLTT.out]
                exact ⟨fun h => congrArg Int.ofNat h, fun h => Int.ofNat.inj h⟩
              have hbd := HBD.out
              by_cases hq : N = LT
              · have dq : (N == LT) = true := by simp [hq]
                have HST : Hid (z + r3 = ms xss (k % 2) (k / 2) i (lt k i) 4) := Lib.hid (by rw [ms_yes (hiff.2 hq), hz.out, ← HR3.out])
                clear hM hN hm1 hiff hq haz
                go_wp2_with fail
                refine ⟨⟨4, 4, z + r3, .inr (.inr (.inr (.inr ⟨rfl, rfl⟩))), rfl, rfl, HST, by omega, by push_cast; omega, by first | rfl | trivial⟩, by decide⟩
              · have dq : (N == LT) = false := by simp [hq]
                have HST : Hid (z = ms xss (k % 2) (k / 2) i (lt k i) 4) := Lib.hid (by rw [ms_no (fun h => hq (hiff.1 h)), hz.out])
                clear hM hN hm1 hiff hq haz
                go_wp2_with fail
                refine ⟨⟨4, 4, z, .inr (.inr (.inr (.inr ⟨rfl, rfl⟩))), rfl, rfl, HST, by omega, by push_cast; omega, by first | rfl | trivial⟩, by decide⟩
            · have HY : Hid (bc xss k i = z) := Lib.hid (by rw [hz.out, ms_all]; rfl)
              have hsz := K2.out.lt
              have hk4 := HLT.out
              have hi3 := HLI.out
              clear haz hz q0' q1' q2' q3'
              go_wp2_with (at_builtin; go_must (refine wpList_append_own _ rfl (.tmp 57) (.tmp 59) 22 rfl (w.heap.size + 1) 3 i0 (.int .i64 0) 1 8 Try.underlying22 hi hz0 hz1 hz2 rfl (by decide) _ _ _ rfl (O2.out.alloc _) ⟨w2.heap.size, 0, none⟩ 1 1 [.int .i64 z] rfl rfl ?c1 ?c2 ?c3 ?c4 ?c5 ?_))
              try (case c1 => first | exact app.one_at _ _ _ | (intro q u hq; have h5 := app.one_at w2 (.int .i64 z) 3 q u hq; simpa using h5))
              case c2 => first | rfl | (intro u hu; simp at hu; subst hu; rfl)
              case c3 => unfold maxLen; omega
              case c4 => omega
              try (case c5 => first | omega | (simp; omega))
              intro v9 w9 hown hgrow _
              have B9 := Lib.hid ((below_al B2.out _).grown hgrow (by simp; omega) (fun j hj => by have := (O2.out.lt j hj).1; omega))
              have O9 := Lib.hid hown
              rw [app.i64s_snoc] at O9
              have GG := Lib.hid hgrow
              clear hown hgrow
              have K9 : Hid (Blk w9 w.heap.size 50 #[.int .i64 2, .int .i64 2, .int .i64 wh, .slice va vn vc]) := Lib.hid ((GG.out.block _ (K2.out.alloc _).lt (by
                intro e
                have := (O2.out.lt _ e.symm).1
                omega)).trans (K2.out.alloc _))
              clear GG O2 B2 K2
              go_wp2_with fail
              go_roundw
              case rel => exact ⟨i + 1, by have := HLI.out; omega, by go_num, ⟨_, rfl⟩, ⟨_, rfl⟩, ⟨_, rfl⟩, Lib.hid (by rw [pre_at xss HLI.out, HY.out]; exact O9.out), B9, K9⟩
              case measure => have := HLI.out; simp [intOf]; omega
          · have hiz : ¬ (i : Int) < 2 := by omega
            obtain rfl : i = 2 := by omega
            have HO5 : Hid (wi.ownsRow (w.heap.size + 1) 3 1 u4 (2 * (k + 1)) (i64s (pre xss (2 * (k + 1))))) := Lib.hid (by rw [Nat.mul_succ]; exact hO.out)
            clear hO
            go_wp2_with fail
            go_roundw
            case rel => exact ⟨k + 1, by have := HLT.out; omega, by go_num, ⟨_, rfl⟩, ⟨_, rfl⟩, ⟨_, rfl⟩, ⟨_, rfl⟩, ⟨_, rfl⟩, ⟨_, rfl⟩, HO5, hB, hK⟩
            case measure => have := HLT.out; simp [intOf]; omega
      · have hkz : ¬ (k : Int) < 4 := by omega
        obtain rfl : k = 4 := by omega
        have OF := Lib.hid (app.ints_of_owns hO.out).ints
        go_wp2_with fail
        go_ret2
        exact ⟨_, rfl, OF.out, hB.out⟩
  · rw [twoB_no hok] at HR
    rw [res_no hok]
    clear hok
    obtain ⟨w0, hw0⟩ : ∃ w0, (w.alloc (.cells #[.int .i64 x, .int .i64 y, .int .i64 wh, .slice va vn vc] 50)).alloc (.cells #[] 3) = w0 := ⟨_, rfl⟩
    rw [hw0] at B0 HR K0
    obtain ⟨c0, c1, c2, c3⟩ := four_cells' K0.out
    go_enter Try.func47, Try.ntmps47
    go_wp2_with fail
    refine HR.out.mono ?_
    rintro e w1 ⟨rfl, hb⟩
    have B1 := Lib.hid (below_tr B0.out hb)
    clear hb HR
    go_wp2_with fail
    go_ret2
    exact ⟨_, rfl, app.empty _ _ _ (Nat.zero_le _), B1.out⟩

end Go.Proofs.Ytnjaocgciokpaaa.bcs
