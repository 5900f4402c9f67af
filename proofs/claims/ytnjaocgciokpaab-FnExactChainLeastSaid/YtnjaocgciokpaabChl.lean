/- ChainLeast of both sides. -/
import Derived.Test.YtnjaocgciokpaabChs
import Derived.Test.YtnjaocgciokpaabLmm
namespace Go.Proofs.Ytnjaocgciokpaab.chl
open Go.RowKit Go.Deep Go.Proofs.Ytnjaocgciokpaab.base
open Go.Proofs.Ytnjaocgciokpaab.rws (total)
open Go.Proofs.Ytnjaocgciokpaab.ocs (four_cells')
open Go.Proofs.Ytnjaocgciokpaab.chm
open Go.Proofs.Ytnjaocgciokpaab.chi (okC chB chB_yes chB_no)

def G (xss : List (List Int)) (t : Nat) : Int := cr xss (t / 4) (t % 4)
/-- the least of the first one and of the first n -/
def ml (xss : List (List Int)) : Nat → Int
  | 0 => G xss 0
  | n + 1 => if G xss n < ml xss n then G xss n else ml xss n
theorem G_at (xss : List (List Int)) {k i : Nat} (h : i < 4) : G xss (4 * k + i) = cr xss k i := by
  unfold G; rw [show (4 * k + i) / 4 = k by omega, show (4 * k + i) % 4 = i by omega]
theorem ml_new {xss : List (List Int)} {n : Nat} {y : Int} (e : G xss n = y) (h : y < ml xss n) : ml xss (n + 1) = y := by subst e; exact if_pos h
theorem ml_old {xss : List (List Int)} {n : Nat} {y : Int} (e : G xss n = y) (h : ¬ y < ml xss n) : ml xss (n + 1) = ml xss n := by subst e; exact if_neg h
open Classical in
noncomputable def res (x y wh : Int) (xss : List (List Int)) : Int × Bool := if okC x y wh xss then (ml xss 64, true) else (0, false)
theorem res_yes {x y wh : Int} {xss : List (List Int)} (h : okC x y wh xss) : res x y wh xss = (ml xss 64, true) := if_pos h
theorem res_no {x y wh : Int} {xss : List (List Int)} (h : ¬ okC x y wh xss) : res x y wh xss = (0, false) := if_neg h

set_option maxRecDepth 100000 in
set_option maxHeartbeats 4000000 in
theorem spec_any (x y wh : Int) (v : Value) (xss : List (List Int)) (w : World) (h : IRows w v xss) (hn : total xss ≤ 1048576) :
    Calls Try.prog 16 #[.agg #[.int .i64 x, .int .i64 y, .int .i64 wh, v]] w fun e w' => e = .returned (.tuple #[.int .i64 (res x y wh xss).1, .bool (res x y wh xss).2]) ∧ Below w.heap.size w w' := by
  have B0 := Lib.hid (below_al (Below.refl w.heap.size w) (.cells #[.int .i64 x, .int .i64 y, .int .i64 wh, v] 28))
  have HBX := Lib.hid h
  have HR := Lib.hid (chs.can x y wh v xss _ (h.below B0.out) hn)
  obtain ⟨va, vn, vc, rfl⟩ := h.shape
  have K0 := Lib.hid (Blk.new w 28 #[.int .i64 x, .int .i64 y, .int .i64 wh, .slice va vn vc])
  clear h
  by_cases hc : okC x y wh xss
  · rw [chB_yes hc] at HR
    rw [res_yes hc]
    obtain ⟨rfl, rfl⟩ := hc.1.1.2
    have HRI := Lib.hid (fun k i W hW hk hi => chs.right wh (.slice va vn vc) xss k i W hW hc hk hi)
    have HR0 : Hid (∀ W, IRows W (.slice va vn vc) xss → Calls Try.prog 64 #[.agg #[.int .i64 2, .int .i64 2, .int .i64 wh, .slice va vn vc], .int .i64 0, .int .i64 0] W fun e w' => e = .returned (.int .i64 (cr xss 0 0)) ∧ Below W.heap.size W w') := Lib.hid (fun W hW => chs.right wh (.slice va vn vc) xss 0 0 W hW hc (by decide) (by decide))
    clear hc
    go_enter Try.func16, Try.ntmps16
    go_wp2_with fail
    refine HR.out.mono ?_
    rintro e w1 ⟨rfl, hb⟩
    have B1 := Lib.hid (below_tr B0.out hb)
    have K1 := Lib.hid (K0.out.below hb)
    obtain ⟨c0, c1, c2, c3⟩ := four_cells' K1.out
    clear hb HR B0 K0
    go_wp2_with fail
    refine (HR0.out w1 (HBX.out.below B1.out)).mono ?_
    rintro e w2 ⟨rfl, hb⟩
    have B2 := Lib.hid (below_tr B1.out hb)
    have K2 := Lib.hid (K1.out.below hb)
    have HZ : Hid (cr xss 0 0 = ml xss (4 * 0)) := Lib.hid rfl
    generalize cr xss 0 0 = z0 at HZ ⊢
    clear hb B1 K1 c0 c1 c2 c3 HR0
    go_wp2_with fail
    go_loopw [4, 5, 6] (fun sv q z6 wr => ∃ (k : Nat) (z : Int), k ≤ 16 ∧ q = .int .i64 k ∧ sv = .int .i64 z ∧ Hid (z = ml xss (4 * k)) ∧ (∃ z, z6 = z) ∧ Hid (Below w.heap.size w wr) ∧ Hid (Blk wr w.heap.size 28 #[.int .i64 2, .int .i64 2, .int .i64 wh, .slice va vn vc])) (fun _ q _ _ => 16 - (intOf q).toNat)
    case atStart => exact ⟨0, z0, by decide, rfl, rfl, HZ, ⟨_, rfl⟩, B2, K2⟩
    case round =>
      clear B2 K2 HZ
      obtain ⟨k, z, hk, rfl, rfl, hz, ⟨z6, rfl⟩, hB, hK⟩ := hrel
      obtain ⟨wo, rfl⟩ : ∃ wo : World, wo = wr := ⟨_, rfl⟩
      by_cases hlt : k < 16
      · have hkz : (k : Int) < 16 := by omega
        have HLT := Lib.hid hlt
        have HZ0 : Hid (z = ml xss (4 * k + 0)) := hz
        clear hlt
        go_wp2_with fail
        go_loopw [4, 6] (fun sv q wr => ∃ (i : Nat) (z : Int), i ≤ 4 ∧ q = .int .i64 i ∧ sv = .int .i64 z ∧ Hid (z = ml xss (4 * k + i)) ∧ Hid (Below w.heap.size w wr) ∧ Hid (Blk wr w.heap.size 28 #[.int .i64 2, .int .i64 2, .int .i64 wh, .slice va vn vc])) (fun _ q _ => 4 - (intOf q).toNat)
        case atStart => exact ⟨0, z, by decide, rfl, rfl, HZ0, hB, hK⟩
        case round =>
          clear HZ0 hz hB hK
          obtain ⟨i, z, hi, rfl, rfl, hz, hB, hK⟩ := hrel
          obtain ⟨wi, rfl⟩ : ∃ wi : World, wi = wr := ⟨_, rfl⟩
          by_cases hli : i < 4
          · have hiz : (i : Int) < 4 := by omega
            have HLI := Lib.hid hli
            obtain ⟨c0, c1, c2, c3⟩ := four_cells' hK.out
            have hcall := HRI.out k i wi (HBX.out.below hB.out) HLT.out hli
            obtain ⟨y, hy⟩ : ∃ y, cr xss k i = y := ⟨_, rfl⟩
            rw [hy] at hcall
            have HC := Lib.hid hcall
            have hg : G xss (4 * k + i) = y := (G_at xss hli).trans hy
            have HN := Lib.hid (fun h => ml_new hg h)
            have HO := Lib.hid (fun h => ml_old hg h)
            rw [← hz.out] at HN HO
            clear hli hcall hy hg
            go_wp2_with fail
            refine HC.out.mono ?_
            rintro e w5 ⟨rfl, hb⟩
            have B5 := Lib.hid (below_tr hB.out hb)
            have K5 := Lib.hid (hK.out.below hb)
            clear hb hB hK c0 c1 c2 c3 HC hz
            by_cases hq : y < z
            · have hmin : (if y < z then y else z) = y := if_pos hq
              have HST := Lib.hid (HN.out hq).symm
              clear hq HN HO
              have HMM := Lib.hid (lmm.least_any z y w5)
              rw [hmin] at HMM
              clear hmin
              go_wp2_with fail
              refine HMM.out.mono ?_
              rintro e w' ⟨rfl, rfl⟩
              go_wp2_with fail
              go_roundw
              case rel => exact ⟨i + 1, y, by have := HLI.out; omega, by go_num, rfl, HST, B5, K5⟩
              case measure => have := HLI.out; simp [intOf]; omega
            · have hmin : (if y < z then y else z) = z := if_neg hq
              have HST := Lib.hid (HO.out (by omega)).symm
              clear hq HN HO
              have HMM := Lib.hid (lmm.least_any z y w5)
              rw [hmin] at HMM
              clear hmin
              go_wp2_with fail
              refine HMM.out.mono ?_
              rintro e w' ⟨rfl, rfl⟩
              go_wp2_with fail
              go_roundw
              case rel => exact ⟨i + 1, z, by have := HLI.out; omega, by go_num, rfl, HST, B5, K5⟩
              case measure => have := HLI.out; simp [intOf]; omega
          · have hiz : ¬ (i : Int) < 4 := by omega
            obtain rfl : i = 4 := by omega
            have HZ5 : Hid (z = ml xss (4 * (k + 1))) := Lib.hid (by rw [Nat.mul_succ]; exact hz.out)
            clear hz
            go_wp2_with fail
            go_roundw
            case rel => exact ⟨k + 1, z, by have := HLT.out; omega, by go_num, rfl, HZ5, ⟨_, rfl⟩, hB, hK⟩
            case measure => have := HLT.out; simp [intOf]; omega
      · have hkz : ¬ (k : Int) < 16 := by omega
        obtain rfl : k = 16 := by omega
        have HZ5 : Hid (z = ml xss 64) := hz
        go_wp2_with fail
        go_ret2
        rw [HZ5.out]
        exact ⟨rfl, hB.out⟩
  · rw [chB_no hc] at HR
    rw [res_no hc]
    clear hc
    go_enter Try.func16, Try.ntmps16
    go_wp2_with fail
    refine HR.out.mono ?_
    rintro e w1 ⟨rfl, hb⟩
    have B1 := Lib.hid (below_tr B0.out hb)
    clear hb HR B0 K0
    go_wp2_with fail
    go_ret2
    exact ⟨rfl, B1.out⟩


set_option maxRecDepth 100000 in
set_option maxHeartbeats 4000000 in
theorem impl_any (x y wh : Int) (v : Value) (xss : List (List Int)) (w : World) (h : IRows w v xss) (hn : total xss ≤ 1048576) :
    Calls Try.prog 18 #[.agg #[.int .i64 x, .int .i64 y, .int .i64 wh, v]] w fun e w' => e = .returned (.tuple #[.int .i64 (res x y wh xss).1, .bool (res x y wh xss).2]) ∧ Below w.heap.size w w' := by
  have B0 := Lib.hid (below_al (Below.refl w.heap.size w) (.cells #[.int .i64 x, .int .i64 y, .int .i64 wh, v] 28))
  have HBX := Lib.hid h
  have HR := Lib.hid (chi.can x y wh v xss _ (h.below B0.out) hn)
  obtain ⟨va, vn, vc, rfl⟩ := h.shape
  have K0 := Lib.hid (Blk.new w 28 #[.int .i64 x, .int .i64 y, .int .i64 wh, .slice va vn vc])
  clear h
  by_cases hc : okC x y wh xss
  · rw [chB_yes hc] at HR
    rw [res_yes hc]
    obtain ⟨rfl, rfl⟩ := hc.1.1.2
    have HRI := Lib.hid (fun k i W hW hk hi => chi.right wh (.slice va vn vc) xss k i W hW hc hk hi)
    have HR0 : Hid (∀ W, IRows W (.slice va vn vc) xss → Calls Try.prog 67 #[.agg #[.int .i64 2, .int .i64 2, .int .i64 wh, .slice va vn vc], .int .i64 0, .int .i64 0] W fun e w' => e = .returned (.int .i64 (cr xss 0 0)) ∧ Below W.heap.size W w') := Lib.hid (fun W hW => chi.right wh (.slice va vn vc) xss 0 0 W hW hc (by decide) (by decide))
    clear hc
    go_enter Try.func18, Try.ntmps18
    go_wp2_with fail
    refine HR.out.mono ?_
    rintro e w1 ⟨rfl, hb⟩
    have B1 := Lib.hid (below_tr B0.out hb)
    have K1 := Lib.hid (K0.out.below hb)
    obtain ⟨c0, c1, c2, c3⟩ := four_cells' K1.out
    clear hb HR B0 K0
    go_wp2_with fail
    refine (HR0.out w1 (HBX.out.below B1.out)).mono ?_
    rintro e w2 ⟨rfl, hb⟩
    have B2 := Lib.hid (below_tr B1.out hb)
    have K2 := Lib.hid (K1.out.below hb)
    have HZ : Hid (cr xss 0 0 = ml xss (4 * 0)) := Lib.hid rfl
    generalize cr xss 0 0 = z0 at HZ ⊢
    clear hb B1 K1 c0 c1 c2 c3 HR0
    go_wp2_with fail
    go_loopw [4, 5, 6, 12] (fun sv z5 z6 q wr => ∃ (k : Nat) (z : Int), k ≤ 16 ∧ q = .int .i64 k ∧ sv = .int .i64 z ∧ Hid (z = ml xss (4 * k)) ∧ (∃ z, z5 = z) ∧ (∃ z, z6 = z) ∧ Hid (Below w.heap.size w wr) ∧ Hid (Blk wr w.heap.size 28 #[.int .i64 2, .int .i64 2, .int .i64 wh, .slice va vn vc])) (fun _ _ _ q _ => 16 - (intOf q).toNat)
    case atStart => exact ⟨0, z0, by decide, rfl, rfl, HZ, ⟨_, rfl⟩, ⟨_, rfl⟩, B2, K2⟩
    case round =>
      clear B2 K2 HZ
      obtain ⟨k, z, hk, rfl, rfl, hz, ⟨z5, rfl⟩, ⟨z6, rfl⟩, hB, hK⟩ := hrel
      obtain ⟨wo, rfl⟩ : ∃ wo : World, wo = wr := ⟨_, rfl⟩
      by_cases hlt : k < 16
      · have hkz : (k : Int) < 16 := by omega
        have HLT := Lib.hid hlt
        have HZ0 : Hid (z = ml xss (4 * k + 0)) := hz
        clear hlt
        go_wp2_with fail
        go_loopw [4, 6, 15] (fun sv z6 q wr => ∃ (i : Nat) (z : Int), i ≤ 4 ∧ q = .int .i64 i ∧ sv = .int .i64 z ∧ Hid (z = ml xss (4 * k + i)) ∧ (∃ z, z6 = z) ∧ Hid (Below w.heap.size w wr) ∧ Hid (Blk wr w.heap.size 28 #[.int .i64 2, .int .i64 2, .int .i64 wh, .slice va vn vc])) (fun _ _ q _ => 4 - (intOf q).toNat)
        case atStart => exact ⟨0, z, by decide, rfl, rfl, HZ0, ⟨_, rfl⟩, hB, hK⟩
        case round =>
          clear HZ0 hz hB hK
          obtain ⟨i, z, hi, rfl, rfl, hz, ⟨z6, rfl⟩, hB, hK⟩ := hrel
          obtain ⟨wi, rfl⟩ : ∃ wi : World, wi = wr := ⟨_, rfl⟩
          by_cases hli : i < 4
          · have hiz : (i : Int) < 4 := by omega
            have HLI := Lib.hid hli
            obtain ⟨c0, c1, c2, c3⟩ := four_cells' hK.out
            have hcall := HRI.out k i wi (HBX.out.below hB.out) HLT.out hli
            obtain ⟨y, hy⟩ : ∃ y, cr xss k i = y := ⟨_, rfl⟩
            rw [hy] at hcall
            have HC := Lib.hid hcall
            have hg : G xss (4 * k + i) = y := (G_at xss hli).trans hy
            have HN := Lib.hid (fun h => ml_new hg h)
            have HO := Lib.hid (fun h => ml_old hg h)
            rw [← hz.out] at HN HO
            clear hli hcall hy hg
            go_wp2_with fail
            refine HC.out.mono ?_
            rintro e w5 ⟨rfl, hb⟩
            have B5 := Lib.hid (below_tr hB.out hb)
            have K5 := Lib.hid (hK.out.below hb)
            clear hb hB hK c0 c1 c2 c3 HC hz
            by_cases hq : y < z
            · have hmin : (if y < z then y else z) = y := if_pos hq
              have HST := Lib.hid (HN.out hq).symm
              clear hq HN HO
              go_wp2_with fail
              go_roundw
              case rel => exact ⟨i + 1, y, by have := HLI.out; omega, by go_num, rfl, HST, ⟨_, rfl⟩, B5, K5⟩
              case measure => have := HLI.out; simp [intOf]; omega
            · have hmin : (if y < z then y else z) = z := if_neg hq
              have HST := Lib.hid (HO.out (by omega)).symm
              clear hq HN HO
              go_wp2_with fail
              go_roundw
              case rel => exact ⟨i + 1, z, by have := HLI.out; omega, by go_num, rfl, HST, ⟨_, rfl⟩, B5, K5⟩
              case measure => have := HLI.out; simp [intOf]; omega
          · have hiz : ¬ (i : Int) < 4 := by omega
            obtain rfl : i = 4 := by omega
            have HZ5 : Hid (z = ml xss (4 * (k + 1))) := Lib.hid (by rw [Nat.mul_succ]; exact hz.out)
            clear hz
            go_wp2_with fail
            go_roundw
            case rel => exact ⟨k + 1, z, by have := HLT.out; omega, by go_num, rfl, HZ5, ⟨_, rfl⟩, ⟨_, rfl⟩, hB, hK⟩
            case measure => have := HLT.out; simp [intOf]; omega
      · have hkz : ¬ (k : Int) < 16 := by omega
        obtain rfl : k = 16 := by omega
        have HZ5 : Hid (z = ml xss 64) := hz
        go_wp2_with fail
        go_ret2
        rw [HZ5.out]
        exact ⟨rfl, hB.out⟩
  · rw [chB_no hc] at HR
    rw [res_no hc]
    clear hc
    go_enter Try.func18, Try.ntmps18
    go_wp2_with fail
    refine HR.out.mono ?_
    rintro e w1 ⟨rfl, hb⟩
    have B1 := Lib.hid (below_tr B0.out hb)
    clear hb HR B0 K0
    go_wp2_with fail
    go_ret2
    exact ⟨rfl, B1.out⟩

end Go.Proofs.Ytnjaocgciokpaab.chl
