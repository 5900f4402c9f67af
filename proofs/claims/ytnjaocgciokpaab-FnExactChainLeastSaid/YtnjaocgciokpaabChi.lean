/- canChain, chainRight and ChainRight of the program. -/
import Derived.Test.YtnjaocgciokpaabChm
import Derived.Test.YtnjaocgciokpaabCdi
import Derived.Test.YtnjaocgciokpaabTwo
namespace Go.Proofs.Ytnjaocgciokpaab.chi
open Go.RowKit Go.Deep Go.Proofs.Ytnjaocgciokpaab.base
open Go.Proofs.Ytnjaocgciokpaab.ints (ret_int infoInt)
open Go.Proofs.Ytnjaocgciokpaab.val (okBox boxB boxB_yes boxB_no)
open Go.Proofs.Ytnjaocgciokpaab.rws (total)
open Go.Proofs.Ytnjaocgciokpaab.loud (Quiet quietB)
open Go.Proofs.Ytnjaocgciokpaab.two (qt qtB qtB_yes qtB_no)
open Go.Proofs.Ytnjaocgciokpaab.oco
open Go.Proofs.Ytnjaocgciokpaab.ocs (two_cells' three_cells' four_cells' R)
open Go.Proofs.Ytnjaocgciokpaab.rlo
open Go.Proofs.Ytnjaocgciokpaab.chm
open Go.Proofs.Ytnjaocgciokpaab.cdm (lt lt_le)

def okC (x y wh : Int) (xss : List (List Int)) : Prop := qt x y wh xss ∧ wh ≤ 100
open Classical in
noncomputable def chB (x y wh : Int) (xss : List (List Int)) : Bool := if okC x y wh xss then true else false
theorem chB_yes {x y wh : Int} {xss : List (List Int)} (h : okC x y wh xss) : chB x y wh xss = true := if_pos h
theorem chB_no {x y wh : Int} {xss : List (List Int)} (h : ¬ okC x y wh xss) : chB x y wh xss = false := if_neg h
def okR (x y wh : Int) (xss : List (List Int)) (k i : Int) : Prop := okC x y wh xss ∧ (0 ≤ k ∧ k < 16) ∧ 0 ≤ i ∧ i < 4
open Classical in
noncomputable def res (x y wh : Int) (xss : List (List Int)) (k i : Int) : Int × Bool := if okR x y wh xss k i then (cr xss k.toNat i.toNat, true) else (0, false)
theorem res_yes {x y wh : Int} {xss : List (List Int)} {k i : Int} (h : okR x y wh xss k i) : res x y wh xss k i = (cr xss k.toNat i.toNat, true) := if_pos h
theorem res_no {x y wh : Int} {xss : List (List Int)} {k i : Int} (h : ¬ okR x y wh xss k i) : res x y wh xss k i = (0, false) := if_neg h


set_option maxHeartbeats 1000000 in
theorem can (x y wh : Int) (v : Value) (xss : List (List Int)) (w : World) (h : IRows w v xss) (hn : total xss ≤ 1048576) :
    Calls Try.prog 66 #[.agg #[.int .i64 x, .int .i64 y, .int .i64 wh, v]] w fun e w' => e = .returned (.bool (chB x y wh xss)) ∧ Below w.heap.size w w' := by
  have B0 := Lib.hid (below_al (Below.refl w.heap.size w) (.cells #[.int .i64 x, .int .i64 y, .int .i64 wh, v] 28))
  have HR := Lib.hid (two.iqt x y wh v xss _ (h.below B0.out) hn)
  obtain ⟨va, vn, vc, rfl⟩ := h.shape
  have K0 := Lib.hid (Blk.new w 28 #[.int .i64 x, .int .i64 y, .int .i64 wh, .slice va vn vc])
  clear h
  by_cases hq : qt x y wh xss
  · rw [qtB_yes hq] at HR
    by_cases hw : wh ≤ 100
    · have dw : decide (wh ≤ 100) = true := by simp [hw]
      rw [chB_yes ⟨hq, hw⟩]
      clear hq hw
      go_enter Try.func66, Try.ntmps66
      go_wp2_with fail
      refine HR.out.mono ?_
      rintro e w1 ⟨rfl, hb⟩
      have B1 := Lib.hid (below_tr B0.out hb)
      have K1 := Lib.hid (K0.out.below hb)
      obtain ⟨c0, c1, c2, c3⟩ := four_cells' K1.out
      clear hb HR B0 K0
      go_wp2_with fail
      go_ret
      exact ⟨rfl, B1.out⟩
    · have dw : decide (wh ≤ 100) = false := by simp; omega
      rw [chB_no (fun h => hw h.2)]
      clear hq hw
      go_enter Try.func66, Try.ntmps66
      go_wp2_with fail
      refine HR.out.mono ?_
      rintro e w1 ⟨rfl, hb⟩
      have B1 := Lib.hid (below_tr B0.out hb)
      have K1 := Lib.hid (K0.out.below hb)
      obtain ⟨c0, c1, c2, c3⟩ := four_cells' K1.out
      clear hb HR B0 K0
      go_wp2_with fail
      go_ret
      exact ⟨rfl, B1.out⟩
  · rw [qtB_no hq] at HR
    rw [chB_no (fun h => hq h.1)]
    clear hq
    go_enter Try.func66, Try.ntmps66
    go_wp2_with fail
    refine HR.out.mono ?_
    rintro e w1 ⟨rfl, hb⟩
    have B1 := Lib.hid (below_tr B0.out hb)
    have K1 := Lib.hid (K0.out.below hb)
    obtain ⟨c0, c1, c2, c3⟩ := four_cells' K1.out
    clear hb HR B0 K0
    go_wp2_with fail
    go_ret
    exact ⟨rfl, B1.out⟩


theorem and3 : ∀ k : Fin 16, bits .and .i64 ((k.val : Nat) : Int) 3 = ((k.val % 4 : Nat) : Int) := by decide
theorem nd2 (k : Nat) : (k : Int) / 2 = ((k / 2 : Nat) : Int) := by omega

set_option maxRecDepth 100000 in
set_option maxHeartbeats 8000000 in
theorem right (wh : Int) (v : Value) (xss : List (List Int)) (k i : Nat) (w : World) (h : IRows w v xss) (hok : okC 2 2 wh xss) (hk : k < 16) (hi : i < 4) :
    Calls Try.prog 67 #[.agg #[.int .i64 2, .int .i64 2, .int .i64 wh, v], .int .i64 (k : Int), .int .i64 (i : Int)] w fun e w' => e = .returned (.int .i64 (cr xss k i)) ∧ Below w.heap.size w w' := by
  have HBX := Lib.hid h
  have HOK := Lib.hid hok.1.1.1
  have HQ := Lib.hid hok.1.2
  have HW := Lib.hid hok.2
  obtain ⟨va, vn, vc, rfl⟩ := h.shape
  have B0 := Lib.hid (below_al (Below.refl w.heap.size w) (.cells #[.int .i64 2, .int .i64 2, .int .i64 wh, .slice va vn vc] 28))
  have K0 := Blk.new w 28 #[.int .i64 2, .int .i64 2, .int .i64 wh, .slice va vn vc]
  obtain ⟨wi, hwi⟩ : ∃ wi, w.alloc (.cells #[.int .i64 2, .int .i64 2, .int .i64 wh, .slice va vn vc] 28) = wi := ⟨_, rfl⟩
  rw [hwi] at B0 K0
  obtain ⟨b0, b1, b2, b3⟩ := four_cells' K0
  have HK := Lib.hid hk
  have HI := Lib.hid hi
  have HCR := Lib.hid (cr_rn HOK.out HQ.out k i hi)
  have h0 : bits .and .i64 (k : Int) 3 = ((k % 4 : Nat) : Int) := and3 ⟨k, hk⟩
  have h1 : (k : Int) / 4 = ((k / 4 : Nat) : Int) := by omega
  have G := Lib.hid (And.intro h0 h1)
  obtain ⟨P, hP⟩ : ∃ P : Int, ((i / 2 : Nat) : Int) = P := ⟨_, rfl⟩
  obtain ⟨E, hE⟩ : ∃ E : Int, ((i % 2 : Nat) : Int) = E := ⟨_, rfl⟩
  have q1 : (i : Int).tdiv 2 = P := by rw [← hP, Int.tdiv_eq_ediv_of_nonneg (by omega)]; omega
  have q2 : IntKind.i64.wrap P = P := IntWalk.i64_in _ (by omega)
  have q4 : (i : Int) / 2 = P := by rw [← hP]; omega
  have q5 : IntKind.i64.wrap ((i : Int) / 2) = P := by rw [q4, q2]
  have q6 : IntKind.i64.wrap ((i : Int).tdiv 2) = P := by rw [q1, q2]
  have q3 : (i : Int).tmod 2 = E := by rw [← hE, Int.tmod_eq_emod_of_nonneg (by omega)]; omega
  have HPE := Lib.hid (And.intro hP hE)
  have HNEW : Hid (∀ W : World, (W.alloc (.cells #[.int .i64 P, .int .i64 E] 3)).cell? ⟨W.heap.size, 0, none⟩ = some (.int .i64 ((i / 2 : Nat) : Int)) ∧ (W.alloc (.cells #[.int .i64 P, .int .i64 E] 3)).cell? ⟨W.heap.size, 1, none⟩ = some (.int .i64 ((i % 2 : Nat) : Int))) := Lib.hid (fun W => by
    rw [hP, hE]
    exact two_cells' (Blk.new W _ _))
  clear h hok hk hi hP hE h0 h1 K0
  go_enter Try.func67, Try.ntmps67
  go_wp2_with fail
  go_region_held3 (fun w' => w'.cell? ⟨w.heap.size, 0, none⟩ = some (.int .i64 2) ∧ w'.cell? ⟨w.heap.size, 1, none⟩ = some (.int .i64 2) ∧ w'.cell? ⟨w.heap.size, 2, none⟩ = some (.int .i64 wh) ∧ w'.cell? ⟨w.heap.size, 3, none⟩ = some (.slice va vn vc) ∧ Below wi.heap.size wi w')
    ((refine held4 b0 b1 b2 b3 ?_; repeat (first | exact Below.refl _ _ | assumption | refine below_dr ?_ | refine below_al ?_ _ | refine below_tr ?_ (by assumption))))
    (first
      | (go_at_call 126; (with_reducible refine (rly.of4 k _ _ _ _ _ _ _ G.out.1 G.out.2 (plg.and_one _) (nd2 _) (plg.and_one _) (nd2 _)).mono ?_); rintro e w2 ⟨u2, rfl, ⟨pb, p0, p1, rfl, hpb, hp0, hp1, hgb, hb2⟩⟩)
      | (go_at_call 127; (with_reducible refine (rlo.four (i / 2) (i % 2) (by have := HI.out; omega) (by omega) pb p0 p1 (k % 4 % 2) (k % 4 / 2) (k / 4 % 2) (k / 4 / 2) (by omega) (by omega) (by omega) (by have := HK.out; omega) wh _ xss _ _ ?_ ?_ ?_ ?_ HOK.out HW.out ?_ ?_).mono ?_); (first | exact hpb.alloc _ | exact hpb); (first | exact hp0.alloc _ | exact hp0); (first | exact hp1.alloc _ | exact hp1); (refine HBX.out.below (below_tr B0.out ?_)); (repeat (first | exact Below.refl _ _ | assumption | refine below_dr ?_ | refine below_al ?_ _ | refine below_tr ?_ (by assumption))); (first | exact (HNEW.out _).1 | exact below_cell hb2 _ _ (HNEW.out wi).1); (first | exact (HNEW.out _).2 | exact below_cell hb2 _ _ (HNEW.out wi).2); rintro e w3 ⟨u3, rfl, ⟨g3, cur3, ⟨cap3, rfl, hbl3, ht3⟩, hge3, hb3⟩⟩))
  · have hb4 : Below wi.heap.size wi w3 := by repeat (first | exact Below.refl _ _ | assumption | refine below_dr ?_ | refine below_al ?_ _ | refine below_tr ?_ (by assumption))
    have e1 : k % 4 % 2 = k % 2 := by omega
    have e2 : k % 4 / 2 = k / 2 % 2 := by omega
    have e3 : k / 4 / 2 = k / 8 % 2 := by have := HK.out; omega
    have ht5 : cur3.toList.take ((chain xss (i / 2) (i % 2) (k % 2) (k / 2 % 2) (k / 4 % 2) (k / 8 % 2)).length * 3) = ocs (chain xss (i / 2) (i % 2) (k % 2) (k / 2 % 2) (k / 4 % 2) (k / 8 % 2)) := by
      have h9 := ht3
      first | rw [e1, e2, e3] at h9 | rw [e2, e3] at h9
      exact h9
    rw [e2, e3]
    have hf := fine_comb (y := i / 2) (fine_pair HOK.out (y := i % 2) (k0 := k % 2) (k1 := k / 2 % 2) (by omega) (by omega) (by omega)) (fine_pair HOK.out (y := i % 2) (k0 := k / 4 % 2) (k1 := k / 8 % 2) (by omega) (by omega) (by omega)) (R_bd HOK.out (y := i / 2) (by have := HI.out; omega))
    have hwh := HOK.out.2.1
    have hwh2 := HW.out
    have hsq : 0 ≤ wh * wh ∧ wh * wh ≤ 100 * 100 := ⟨Int.mul_nonneg (by omega) (by omega), Int.mul_le_mul hwh2 hwh2 (by omega) (by decide)⟩
    have hcb : 0 ≤ wh * wh * wh ∧ wh * wh * wh ≤ 100 * 100 * 100 := ⟨Int.mul_nonneg hsq.1 (by omega), Int.mul_le_mul hsq.2 hwh2 (by omega) (by decide)⟩
    have HRN := Lib.hid (rlo.right _ _ g3 (lt k i) cur3 (wh * wh * wh) w3 ⟨cap3, rfl, hbl3, ht5⟩ (lt_le k i) hf ⟨hcb.1, Int.le_trans hcb.2 (by decide)⟩ (by unfold chain; rw [len_comb, len_pair, len_pair]; decide))
    rw [HCR.out] at HRN
    have HLE := Lib.hid (cdi.letter3 k i w3 (by have := HK.out; omega) (by have := HI.out; omega))
    have B3 := Lib.hid (below_tr B0.out hb4)
    clear hb4 hbl3 ht3 ht5 hge3 hb3 hgb hb2 hpb hp0 hp1 b0 b1 b2 b3 e1 e2 e3 hf hwh hwh2 hsq hcb q1 q2 q3 q4 q5 q6 hwi
    go_wp2_with fail
    refine HLE.out.mono ?_
    rintro e w' ⟨rfl, rfl⟩
    go_wp2_with fail
    refine HRN.out.mono ?_
    rintro e w4 ⟨rfl, hb⟩
    go_wp2_with fail
    go_ret
    exact ⟨rfl, below_tr B3.out hb⟩
  · have hb4 : Below wi.heap.size wi w3 := by repeat (first | exact Below.refl _ _ | assumption | refine below_dr ?_ | refine below_al ?_ _ | refine below_tr ?_ (by assumption))
    have e1 : k % 4 % 2 = k % 2 := by omega
    have e2 : k % 4 / 2 = k / 2 % 2 := by omega
    have e3 : k / 4 / 2 = k / 8 % 2 := by have := HK.out; omega
    have ht5 : cur3.toList.take ((chain xss (i / 2) (i % 2) (k % 2) (k / 2 % 2) (k / 4 % 2) (k / 8 % 2)).length * 3) = ocs (chain xss (i / 2) (i % 2) (k % 2) (k / 2 % 2) (k / 4 % 2) (k / 8 % 2)) := by
      have h9 := ht3
      first | rw [e1, e2, e3] at h9 | rw [e2, e3] at h9
      exact h9
    rw [e2, e3]
    have hf := fine_comb (y := i / 2) (fine_pair HOK.out (y := i % 2) (k0 := k % 2) (k1 := k / 2 % 2) (by omega) (by omega) (by omega)) (fine_pair HOK.out (y := i % 2) (k0 := k / 4 % 2) (k1 := k / 8 % 2) (by omega) (by omega) (by omega)) (R_bd HOK.out (y := i / 2) (by have := HI.out; omega))
    have hwh := HOK.out.2.1
    have hwh2 := HW.out
    have hsq : 0 ≤ wh * wh ∧ wh * wh ≤ 100 * 100 := ⟨Int.mul_nonneg (by omega) (by omega), Int.mul_le_mul hwh2 hwh2 (by omega) (by decide)⟩
    have hcb : 0 ≤ wh * wh * wh ∧ wh * wh * wh ≤ 100 * 100 * 100 := ⟨Int.mul_nonneg hsq.1 (by omega), Int.mul_le_mul hsq.2 hwh2 (by omega) (by decide)⟩
    have HRN := Lib.hid (rlo.right _ _ g3 (lt k i) cur3 (wh * wh * wh) w3 ⟨cap3, rfl, hbl3, ht5⟩ (lt_le k i) hf ⟨hcb.1, Int.le_trans hcb.2 (by decide)⟩ (by unfold chain; rw [len_comb, len_pair, len_pair]; decide))
    rw [HCR.out] at HRN
    have HLE := Lib.hid (cdi.letter3 k i w3 (by have := HK.out; omega) (by have := HI.out; omega))
    have B3 := Lib.hid (below_tr B0.out hb4)
    clear hb4 hbl3 ht3 ht5 hge3 hb3 hgb hb2 hpb hp0 hp1 b0 b1 b2 b3 e1 e2 e3 hf hwh hwh2 hsq hcb q1 q2 q3 q4 q5 q6 hwi
    go_wp2_with fail
    refine HLE.out.mono ?_
    rintro e w' ⟨rfl, rfl⟩
    go_wp2_with fail
    refine HRN.out.mono ?_
    rintro e w4 ⟨rfl, hb⟩
    go_wp2_with fail
    go_ret
    exact ⟨rfl, below_tr B3.out hb⟩


end Go.Proofs.Ytnjaocgciokpaab.chi
