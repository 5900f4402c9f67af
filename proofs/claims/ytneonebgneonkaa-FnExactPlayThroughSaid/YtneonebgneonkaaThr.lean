/- PlayThrough of both sides. -/
import Derived.Test.YtneonebgneonkaaRul
import Derived.Test.YtneonebgneonkaaRcl
import Derived.Test.YtneonebgneonkaaStep
import Derived.Test.YtneonebgneonkaaStr
import Derived.BigRegion
namespace Go.Proofs.Ytneonebgneonkaa.thr
open Go.RowKit Go.Deep Go.Proofs.Ytneonebgneonkaa.base
open Go.Proofs.Ytneonebgneonkaa.ints (ret_int infoInt)
open Go.Proofs.Ytneonebgneonkaa.play (within withinB withinB_yes withinB_no)
open Go.Proofs.Ytneonebgneonkaa.wrm (rule ruleB ruleB_yes ruleB_no bit)
open Go.Proofs.Ytneonebgneonkaa.scene (three_cells)
open Go.Proofs.Ytneonebgneonkaa.rule (RV)
open Go.Proofs.Ytneonebgneonkaa.rcl (Bits BRows)

/-- the answer to a question -/
def pl (ss : List Int) (xss yss : List (List Int)) (one two : List Int) (x : Nat) : Int :=
  (bit (yss.getD x []) (2 * bit one (bit ss x) + bit two (bit (xss.getD x []) (bit one (bit ss x)))) : Int)
def upto (ss : List Int) (xss yss : List (List Int)) (one two : List Int) (n : Nat) : List Int := (List.range n).map (pl ss xss yss one two)
theorem upto_succ (ss : List Int) (xss yss : List (List Int)) (one two : List Int) (n : Nat) : upto ss xss yss one two (n + 1) = upto ss xss yss one two n ++ [pl ss xss yss one two n] := by simp [upto, List.range_succ]
def good (ss : List Int) (xss yss : List (List Int)) (one two : List Int) : Prop := rule ss xss yss ∧ within 2 0 1 one ∧ within 2 0 1 two
open Classical in
noncomputable def res (ss : List Int) (xss yss : List (List Int)) (one two : List Int) : List Int × Bool := if good ss xss yss one two then (upto ss xss yss one two 2, true) else ([], false)
theorem res_yes {ss : List Int} {xss yss : List (List Int)} {one two : List Int} (h : good ss xss yss one two) : res ss xss yss one two = (upto ss xss yss one two 2, true) := if_pos h
theorem res_no {ss : List Int} {xss yss : List (List Int)} {one two : List Int} (h : ¬ good ss xss yss one two) : res ss xss yss one two = ([], false) := if_neg h
theorem len_res (ss : List Int) (xss yss : List (List Int)) (one two : List Int) : (res ss xss yss one two).1.length ≤ 1048576 := by
  by_cases h : good ss xss yss one two
  · rw [res_yes h]; simp [upto]
  · rw [res_no h]; simp
theorem two_nums {a c : Nat} (ha : a ≤ 1) (hc : c ≤ 1) : ∃ m n : Nat, 2 * a = m ∧ m + c = n ∧ n < 4 ∧ IntKind.i64.wrap (2 * (a : Int)) = (m : Int) ∧ IntKind.i64.wrap ((m : Int) + (c : Int)) = (n : Int) := by
  refine ⟨2 * a, 2 * a + c, rfl, rfl, by omega, ?_, ?_⟩
  · rw [IntWalk.i64_in _ (by omega)]; simp
  · rw [IntWalk.i64_in _ (by omega)]; simp

/-- all that a round reads -/
structure Rd (W : World) (b0 o0 b1 o1 b2 o2 d1 q1 d2 q2 x : Nat) (r : Int) (q a d c m n k1 j1 e1 k2 j2 e2 : Nat) : Prop where
  h0 : W.cell? ⟨b0, o0 + x, none⟩ = some (.int .i64 (q : Int))
  h1 : W.cell? ⟨d1, q1 + q, none⟩ = some (.int .i64 (a : Int))
  h2 : W.cell? ⟨b1, o1 + x, none⟩ = some (.slice (some ⟨k1, j1, none⟩) 2 e1)
  h3 : W.cell? ⟨k1, j1 + a, none⟩ = some (.int .i64 (d : Int))
  h4 : W.cell? ⟨d2, q2 + d, none⟩ = some (.int .i64 (c : Int))
  h5 : W.cell? ⟨b2, o2 + x, none⟩ = some (.slice (some ⟨k2, j2, none⟩) 4 e2)
  h6 : W.cell? ⟨k2, j2 + n, none⟩ = some (.int .i64 r)
  lq : q < 2
  la : a < 2
  ld : d < 2
  ln : n < 4
  w1 : IntKind.i64.wrap (2 * (a : Int)) = (m : Int)
  w2 : IntKind.i64.wrap ((m : Int) + (c : Int)) = (n : Int)
theorem Rd.below {W W' : World} {b0 o0 b1 o1 b2 o2 d1 q1 d2 q2 x : Nat} {r : Int} {q a d c m n k1 j1 e1 k2 j2 e2 : Nat} (h : Rd W b0 o0 b1 o1 b2 o2 d1 q1 d2 q2 x r q a d c m n k1 j1 e1 k2 j2 e2) (hb : Below W.heap.size W W') : Rd W' b0 o0 b1 o1 b2 o2 d1 q1 d2 q2 x r q a d c m n k1 j1 e1 k2 j2 e2 :=
  ⟨below_cell hb _ _ h.h0, below_cell hb _ _ h.h1, below_cell hb _ _ h.h2, below_cell hb _ _ h.h3, below_cell hb _ _ h.h4, below_cell hb _ _ h.h5, below_cell hb _ _ h.h6, h.lq, h.la, h.ld, h.ln, h.w1, h.w2⟩
theorem reads {W : World} {b0 o0 b1 o1 b2 o2 d1 q1 d2 q2 : Nat} {ss : List Int} {xss yss : List (List Int)} {one two : List Int} (h0 : Bits W b0 o0 ss 2) (h1 : BRows W b1 o1 xss 2) (h2 : BRows W b2 o2 yss 4) (g1 : Bits W d1 q1 one 2) (g2 : Bits W d2 q2 two 2) {x : Nat} (hx : x < 2) :
    ∃ q a d c m n k1 j1 e1 k2 j2 e2, Rd W b0 o0 b1 o1 b2 o2 d1 q1 d2 q2 x (pl ss xss yss one two x) q a d c m n k1 j1 e1 k2 j2 e2 := by
  obtain ⟨i0, i1⟩ := h0 x hx
  obtain ⟨i2, i3⟩ := g1 (bit ss x) (by omega)
  obtain ⟨k1, j1, e1, i4, i5⟩ := h1 x hx
  obtain ⟨i6, i7⟩ := i5 (bit one (bit ss x)) (by omega)
  obtain ⟨i8, i9⟩ := g2 (bit (xss.getD x []) (bit one (bit ss x))) (by omega)
  obtain ⟨k2, j2, e2, i10, i11⟩ := h2 x hx
  obtain ⟨m, n, hm, hn, hn4, w1, w2⟩ := two_nums i3 i9
  obtain ⟨i12, _⟩ := i11 n hn4
  refine ⟨_, _, _, _, m, n, k1, j1, e1, k2, j2, e2, i0, i2, i4, i6, i8, i10, ?_, by omega, by omega, by omega, hn4, w1, w2⟩
  rw [i12]
  unfold pl
  rw [← hn, ← hm]


set_option maxRecDepth 100000 in
set_option maxHeartbeats 4000000 in
theorem l10Through (sv : Value) (ss : List Int) (u : Value) (xss : List (List Int)) (nv : Value) (yss : List (List Int)) (v1 : Value) (one : List Int) (v2 : Value) (two : List Int) (w : World) (h : RV w sv ss u xss nv yss) (h1 : Ints w v1 one) (h2 : Ints w v2 two) (hg : good ss xss yss one two) :
    Calls Try.prog 82 #[.agg #[sv, u, nv], v1, v2] w fun e w' => ∃ r, e = .returned r ∧ OwnInts w' w.heap.size w'.heap.size r (upto ss xss yss one two 2) ∧ Below w.heap.size w w' := by
  obtain ⟨i0, hi, hz0, hz1, hz2⟩ := info_parts infoInt
  obtain ⟨b0, o0, c0, b1, o1, c1, b2, o2, c2, rfl, rfl, rfl, k0, k1, k2⟩ := rcl.parts h hg.1
  obtain ⟨d1, q1, z1, rfl, l1⟩ := rcl.bits (n := 2) h1 hg.2.1 (by omega)
  obtain ⟨d2, q2, z2, rfl, l2⟩ := rcl.bits (n := 2) h2 hg.2.2 (by omega)
  have HRD := Lib.hid (fun (x : Nat) (hx : x < 2) => reads k0 k1 k2 l1 l2 hx)
  have B0 := Lib.hid (below_al (below_al (Below.refl w.heap.size w) (.cells #[.slice (some ⟨b0, o0, none⟩) 2 c0, .slice (some ⟨b1, o1, none⟩) 2 c1, .slice (some ⟨b2, o2, none⟩) 2 c2] 28)) (.cells #[] 3))
  have K0 := Lib.hid ((Blk.new w 28 #[.slice (some ⟨b0, o0, none⟩) 2 c0, .slice (some ⟨b1, o1, none⟩) 2 c1, .slice (some ⟨b2, o2, none⟩) 2 c2]).alloc (.cells #[] 3))
  have O0 : Hid (((w.alloc (.cells #[.slice (some ⟨b0, o0, none⟩) 2 c0, .slice (some ⟨b1, o1, none⟩) 2 c1, .slice (some ⟨b2, o2, none⟩) 2 c2] 28)).alloc (.cells #[] 3)).ownsRow (w.heap.size + 1) 3 1 (.slice (some ⟨w.heap.size + 1, 0, none⟩) 0 0) 0 (i64s (upto ss xss yss one two 0))) := Lib.hid (by
    have := World.ownsRow_made (base := w.heap.size + 1) (e := 3) (size := 1) (w.alloc (.cells #[.slice (some ⟨b0, o0, none⟩) 2 c0, .slice (some ⟨b1, o1, none⟩) 2 c1, .slice (some ⟨b2, o2, none⟩) 2 c2] 28)) #[] 0 (by simp) (Nat.zero_le _) rfl
    simpa [i64s, upto] using this)
  clear h h1 h2 hg k0 k1 k2 l1 l2
  go_enter Try.func82, Try.ntmps82
  go_wp2_with fail
  go_loopw [7, 8, 9] (fun v i z wr => ∃ x : Nat, x ≤ 2 ∧ i = .int .i64 x ∧ (∃ z', z = z') ∧ Hid (wr.ownsRow (w.heap.size + 1) 3 1 v x (i64s (upto ss xss yss one two x))) ∧ Hid (Below w.heap.size w wr) ∧ Hid (Blk wr w.heap.size 28 #[.slice (some ⟨b0, o0, none⟩) 2 c0, .slice (some ⟨b1, o1, none⟩) 2 c1, .slice (some ⟨b2, o2, none⟩) 2 c2])) (fun _ i _ _ => 2 - (intOf i).toNat)
  case atStart => exact ⟨0, by omega, rfl, ⟨_, rfl⟩, O0, B0, K0⟩
  case round =>
    clear O0 B0 K0
    obtain ⟨x, hx, rfl, ⟨z, rfl⟩, hO, hB, hK⟩ := hrel
    obtain ⟨wo, rfl⟩ : ∃ wo : World, wo = wr := ⟨_, rfl⟩
    by_cases hlt : x < 2
    · have hkz : (x : Int) < 2 := by omega
      obtain ⟨q, a, d, c, m, n, k1, j1, e1, k2, j2, e2, hR⟩ := HRD.out x hlt
      have hR' := hR.below hB.out
      obtain ⟨g0, g1, g2, g3, g4, g5, g6, lq, la, ld, ln, wq1, wq2⟩ := hR'
      generalize hpr : pl ss xss yss one two x = r at g6
      have HPR := Lib.hid hpr
      have zq : (q : Int) < 2 := by omega
      have za : (a : Int) < 2 := by omega
      have zd : (d : Int) < 2 := by omega
      have zn : (n : Int) < 4 := by omega
      obtain ⟨p0, p1, p2, p3⟩ := three_cells hK.out
      have hsz := hB.out.size
      have O1 := Lib.hid (app.owns_below hO.out (below_al (below_dr (Below.refl _ _)) (.cells #[.int .i64 r] 3)))
      have O2 := Lib.hid (app.owns_below hO.out (below_dr (below_al (Below.refl _ _) (.cells #[.int .i64 r] 3))))
      clear hR hpr
      go_wp2_with fail
      go_region_law (refine step.own rfl (.tmp 23) (.tmp 45) 22 rfl 3 i0 (.int .i64 0) 1 8 Try.underlying22 hi hz0 hz1 hz2 rfl (by decide) (w.heap.size + 1) _ x (i64s (upto ss xss yss one two x)) (by first | exact O1.out | exact O2.out) (by simp [Act.eval]) ⟨wo.heap.size, 0, none⟩ 1 1 [.int .i64 r] (by simp [Act.eval]) rfl (by intro j u hj; match j, hj with | 0, hj => (simp at hj; subst hj; simp [Addr.add])) (by intro u hu; simp at hu; subst hu; rfl) (by unfold maxLen; omega) (by omega) (by simp; omega) ?_; intro v' w3 hown' hgrow)
      all_goals
        have B3 := Lib.hid ((below_dr (below_al hB.out (.cells #[.int .i64 r] 3))).grown hgrow (by simp; omega) (fun j hj => by have := (hO.out.lt j hj).1; omega))
        have K3 : Hid (Blk w3 w.heap.size 28 #[.slice (some ⟨b0, o0, none⟩) 2 c0, .slice (some ⟨b1, o1, none⟩) 2 c1, .slice (some ⟨b2, o2, none⟩) 2 c2]) := Lib.hid ((hgrow.block _ (by have := hK.out.lt; simp; omega) (fun e => by have := (hO.out.lt _ e.symm).1; omega)).trans (hK.out.below (below_dr (below_al (Below.refl _ _) (.cells #[.int .i64 r] 3)))))
        have O3 : Hid (w3.ownsRow (w.heap.size + 1) 3 1 v' (x + 1) (i64s (upto ss xss yss one two (x + 1)))) := Lib.hid (by rw [upto_succ, ← app.i64s_snoc, HPR.out]; exact hown')
        clear hown' hgrow O1 O2
        go_wp2_with fail
        go_roundw
        case rel => exact ⟨x + 1, by omega, by go_num, ⟨_, rfl⟩, O3, B3, K3⟩
        case measure => simp [intOf]; omega
    · have hkz : ¬ (x : Int) < 2 := by omega
      obtain rfl : x = 2 := by omega
      go_wp2_with fail
      go_ret
      exact ⟨_, rfl, (app.ints_of_owns hO.out).mono (by omega) (Nat.le_refl _), hB.out⟩



set_option maxRecDepth 100000 in
set_option maxHeartbeats 4000000 in
theorem spec_any (sv : Value) (ss : List Int) (u : Value) (xss : List (List Int)) (nv : Value) (yss : List (List Int)) (v1 : Value) (one : List Int) (v2 : Value) (two : List Int) (w : World) (h : RV w sv ss u xss nv yss) (h1 : Ints w v1 one) (h2 : Ints w v2 two) :
    Calls Try.prog 31 #[.agg #[sv, u, nv], v1, v2] w fun e w' => ∃ r, e = .returned (.tuple #[r, .bool (res ss xss yss one two).2]) ∧ Ints w' r (res ss xss yss one two).1 ∧ Below w.heap.size w w' := by
  have HV := Lib.hid h
  have HV1 := Lib.hid h1
  have HV2 := Lib.hid h2
  obtain ⟨va, vn, vc, ua, un, uc, na, nn, nc, rfl, rfl, rfl⟩ := h.shape
  have B0 := Lib.hid (below_al (Below.refl w.heap.size w) (.cells #[.slice va vn vc, .slice ua un uc, .slice na nn nc] 28))
  have K0 := Lib.hid (Blk.new w 28 #[.slice va vn vc, .slice ua un uc, .slice na nn nc])
  have I0 := rul.spec_is _ ss _ xss _ yss _ (HV.out.below B0.out)
  clear h h1 h2
  by_cases g0 : rule ss xss yss
  · rw [ruleB_yes g0] at I0
    have H0 := Lib.hid I0
    by_cases g1 : within 2 0 1 one
    · by_cases g2 : within 2 0 1 two
      · have HW1 := Lib.hid g1
        have HW2 := Lib.hid g2
        have HG := Lib.hid (show good ss xss yss one two from ⟨g0, g1, g2⟩)
        have HE := Lib.hid (res_yes HG.out)
        clear g0 g1 g2 I0
        go_enter Try.func31, Try.ntmps31
        go_wp2_with fail
        refine H0.out.mono ?_
        rintro e w1 ⟨rfl, hb⟩
        have B1 := Lib.hid (below_tr B0.out hb)
        have K1 := Lib.hid (K0.out.below hb)
        obtain ⟨p0, p1, p2, p3⟩ := three_cells K1.out
        clear hb H0
        go_wp2_with fail
        refine (by have := play.spec_bits v1 one 2 w1 (HV1.out.below B1.out); rw [withinB_yes HW1.out] at this; exact this : Calls Try.prog _ #[v1, .int .i64 2] w1 fun e w' => e = .returned (.bool true) ∧ w1 = w').mono ?_
        rintro e w' ⟨rfl, rfl⟩
        go_wp2_with fail
        refine (by have := play.spec_bits v2 two 2 w1 (HV2.out.below B1.out); rw [withinB_yes HW2.out] at this; exact this : Calls Try.prog _ #[v2, .int .i64 2] w1 fun e w' => e = .returned (.bool true) ∧ w1 = w').mono ?_
        rintro e w' ⟨rfl, rfl⟩
        go_wp2_with fail
        refine (l10Through _ ss _ xss _ yss v1 one v2 two w1 (HV.out.below B1.out) (HV1.out.below B1.out) (HV2.out.below B1.out) HG.out).mono ?_
        rintro e w2 ⟨r, rfl, hr, hb⟩
        have B2 := Lib.hid (below_tr B1.out hb)
        have HR := Lib.hid hr
        clear hr hb
        go_wp2_with fail
        rw [HE.out]
        go_ret2
        exact ⟨_, rfl, HR.out.ints, B2.out⟩
      · have HW1 := Lib.hid g1
        have HW2 := Lib.hid g2
        have HE := Lib.hid (res_no (ss := ss) (xss := xss) (yss := yss) (one := one) (two := two) (fun h => g2 h.2.2))
        clear g0 g1 g2 I0
        go_enter Try.func31, Try.ntmps31
        go_wp2_with fail
        refine H0.out.mono ?_
        rintro e w1 ⟨rfl, hb⟩
        have B1 := Lib.hid (below_tr B0.out hb)
        have K1 := Lib.hid (K0.out.below hb)
        obtain ⟨p0, p1, p2, p3⟩ := three_cells K1.out
        clear hb H0
        go_wp2_with fail
        refine (by have := play.spec_bits v1 one 2 w1 (HV1.out.below B1.out); rw [withinB_yes HW1.out] at this; exact this : Calls Try.prog _ #[v1, .int .i64 2] w1 fun e w' => e = .returned (.bool true) ∧ w1 = w').mono ?_
        rintro e w' ⟨rfl, rfl⟩
        go_wp2_with fail
        refine (by have := play.spec_bits v2 two 2 w1 (HV2.out.below B1.out); rw [withinB_no HW2.out] at this; exact this : Calls Try.prog _ #[v2, .int .i64 2] w1 fun e w' => e = .returned (.bool false) ∧ w1 = w').mono ?_
        rintro e w' ⟨rfl, rfl⟩
        go_wp2_with fail
        rw [HE.out]
        go_ret2
        exact ⟨_, rfl, app.empty _ _ _ (Nat.zero_le _), below_al B1.out _⟩
    · have HW1 := Lib.hid g1
      have HE := Lib.hid (res_no (ss := ss) (xss := xss) (yss := yss) (one := one) (two := two) (fun h => g1 h.2.1))
      clear g0 g1 I0
      go_enter Try.func31, Try.ntmps31
      go_wp2_with fail
      refine H0.out.mono ?_
      rintro e w1 ⟨rfl, hb⟩
      have B1 := Lib.hid (below_tr B0.out hb)
      have K1 := Lib.hid (K0.out.below hb)
      obtain ⟨p0, p1, p2, p3⟩ := three_cells K1.out
      clear hb H0
      go_wp2_with fail
      refine (by have := play.spec_bits v1 one 2 w1 (HV1.out.below B1.out); rw [withinB_no HW1.out] at this; exact this : Calls Try.prog _ #[v1, .int .i64 2] w1 fun e w' => e = .returned (.bool false) ∧ w1 = w').mono ?_
      rintro e w' ⟨rfl, rfl⟩
      go_wp2_with fail
      rw [HE.out]
      go_ret2
      exact ⟨_, rfl, app.empty _ _ _ (Nat.zero_le _), below_al B1.out _⟩
  · rw [ruleB_no g0] at I0
    have H0 := Lib.hid I0
    have HE := Lib.hid (res_no (ss := ss) (xss := xss) (yss := yss) (one := one) (two := two) (fun h => g0 h.1))
    clear g0 I0
    go_enter Try.func31, Try.ntmps31
    go_wp2_with fail
    refine H0.out.mono ?_
    rintro e w1 ⟨rfl, hb⟩
    have B1 := Lib.hid (below_tr B0.out hb)
    have K1 := Lib.hid (K0.out.below hb)
    obtain ⟨p0, p1, p2, p3⟩ := three_cells K1.out
    clear hb H0
    go_wp2_with fail
    rw [HE.out]
    go_ret2
    exact ⟨_, rfl, app.empty _ _ _ (Nat.zero_le _), below_al B1.out _⟩


theorem mk2 (w : World) : (Instr.makeSlice 22 (.int .i64 2) (.int .i64 2)).run Try.prog w = .ok (.slice (some ⟨w.heap.size, 0, none⟩) 2 2) (w.alloc (.cells #[.int .i64 0, .int .i64 0] 3)) := by kernel_rfl

set_option maxRecDepth 100000 in
set_option maxHeartbeats 4000000 in
theorem impl_any (sv : Value) (ss : List Int) (u : Value) (xss : List (List Int)) (nv : Value) (yss : List (List Int)) (v1 : Value) (one : List Int) (v2 : Value) (two : List Int) (w : World) (h : RV w sv ss u xss nv yss) (h1 : Ints w v1 one) (h2 : Ints w v2 two) :
    Calls Try.prog 32 #[.agg #[sv, u, nv], v1, v2] w fun e w' => ∃ r, e = .returned (.tuple #[r, .bool (res ss xss yss one two).2]) ∧ OwnInts w' w.heap.size w'.heap.size r (res ss xss yss one two).1 ∧ Below w.heap.size w w' := by
  have HV := Lib.hid h
  have HV1 := Lib.hid h1
  have HV2 := Lib.hid h2
  obtain ⟨va, vn, vc, ua, un, uc, na, nn, nc, rfl, rfl, rfl⟩ := h.shape
  have B0 := Lib.hid (below_al (Below.refl w.heap.size w) (.cells #[.slice va vn vc, .slice ua un uc, .slice na nn nc] 28))
  have K0 := Lib.hid (Blk.new w 28 #[.slice va vn vc, .slice ua un uc, .slice na nn nc])
  have I0 := rul.impl_is _ ss _ xss _ yss _ (HV.out.below B0.out)
  clear h h1 h2
  by_cases g0 : rule ss xss yss
  · rw [ruleB_yes g0] at I0
    have H0 := Lib.hid I0
    by_cases g1 : within 2 0 1 one
    · by_cases g2 : within 2 0 1 two
      · have HW1 := Lib.hid g1
        have HW2 := Lib.hid g2
        have HG := Lib.hid (show good ss xss yss one two from ⟨g0, g1, g2⟩)
        have HE := Lib.hid (res_yes HG.out)
        clear g0 g1 g2 I0
        go_enter Try.func32, Try.ntmps32
        go_wp2_with fail
        refine H0.out.mono ?_
        rintro e w1 ⟨rfl, hb⟩
        have B1 := Lib.hid (below_tr B0.out hb)
        have K1 := Lib.hid (K0.out.below hb)
        obtain ⟨p0, p1, p2, p3⟩ := three_cells K1.out
        clear hb H0
        go_wp2_with fail
        refine (by have := play.impl_bits v1 one 2 w1 (HV1.out.below B1.out); rw [withinB_yes HW1.out] at this; exact this : Calls Try.prog _ #[v1, .int .i64 2] w1 fun e w' => e = .returned (.bool true) ∧ w1 = w').mono ?_
        rintro e w' ⟨rfl, rfl⟩
        go_wp2_with fail
        refine (by have := play.impl_bits v2 two 2 w1 (HV2.out.below B1.out); rw [withinB_yes HW2.out] at this; exact this : Calls Try.prog _ #[v2, .int .i64 2] w1 fun e w' => e = .returned (.bool true) ∧ w1 = w').mono ?_
        rintro e w' ⟨rfl, rfl⟩
        have KL := Lib.hid K1.out.lt
        have V0 := HV.out.below B1.out
        have V1 := HV1.out.below B1.out
        have V2 := HV2.out.below B1.out
        obtain ⟨b0, o0, c0, b1, o1, c1, b2, o2, c2, e0, e1, e2, k0, k1, k2⟩ := rcl.parts V0 HG.out.1
        obtain ⟨d1, q1, z1, rfl, l1⟩ := rcl.bits (n := 2) V1 HG.out.2.1 (by omega)
        obtain ⟨d2, q2, z2, rfl, l2⟩ := rcl.bits (n := 2) V2 HG.out.2.2 (by omega)
        have HRD := Lib.hid (fun (x : Nat) (hx : x < 2) => reads k0 k1 k2 l1 l2 hx)
        have K2 : Hid (Blk (w1.alloc (.cells #[.int .i64 0, .int .i64 0] 3)) w.heap.size 28 #[.slice (some ⟨b0, o0, none⟩) 2 c0, .slice (some ⟨b1, o1, none⟩) 2 c1, .slice (some ⟨b2, o2, none⟩) 2 c2]) := Lib.hid (by rw [← e0, ← e1, ← e2]; exact K1.out.alloc _)
        have R0 : Hid (Blk (w1.alloc (.cells #[.int .i64 0, .int .i64 0] 3)) w1.heap.size 3 #[.int .i64 (if 0 < 0 then pl ss xss yss one two 0 else 0), .int .i64 (if 1 < 0 then pl ss xss yss one two 1 else 0)]) := Lib.hid (Blk.new w1 _ _)
        have B2 := Lib.hid (below_al B1.out (.cells #[.int .i64 0, .int .i64 0] 3))
        have Z1 := Lib.hid B1.out.size
        have hmk2 := mk2
        clear V0 V1 V2 k0 k1 k2 l1 l2 p0 p1 p2 p3 e0 e1 e2 K1 HV HV1 HV2
        go_wp2_with fail
        clear hmk2
        go_loopw [9, 10, 11, 28] (fun z9 z10 z11 i wr => ∃ x : Nat, x ≤ 2 ∧ i = .int .i64 x ∧ (∃ z, z9 = z) ∧ (∃ z, z10 = z) ∧ (∃ z, z11 = z) ∧ Hid (Blk wr w1.heap.size 3 #[.int .i64 (if 0 < x then pl ss xss yss one two 0 else 0), .int .i64 (if 1 < x then pl ss xss yss one two 1 else 0)]) ∧ Hid (Below w1.heap.size (w1.alloc (.cells #[.int .i64 0, .int .i64 0] 3)) wr)) (fun _ _ _ i _ => 2 - (intOf i).toNat)
        case atStart => exact ⟨0, by omega, rfl, ⟨_, rfl⟩, ⟨_, rfl⟩, ⟨_, rfl⟩, R0, Lib.hid (Below.refl _ _)⟩
        case round =>
          clear R0
          obtain ⟨x, hx, rfl, ⟨z9, rfl⟩, ⟨z10, rfl⟩, ⟨z11, rfl⟩, hA, hW⟩ := hrel
          obtain ⟨wo, rfl⟩ : ∃ wo : World, wo = wr := ⟨_, rfl⟩
          have hB := Lib.hid (show Below w1.heap.size w1 wo from (below_al (Below.refl _ _) _).trans hW.out)
          have Kx : Hid (Blk wo w.heap.size 28 #[.slice (some ⟨b0, o0, none⟩) 2 c0, .slice (some ⟨b1, o1, none⟩) 2 c1, .slice (some ⟨b2, o2, none⟩) 2 c2]) := Lib.hid (K2.out.belowB hW.out KL.out)
          by_cases hlt : x < 2
          · have hkz : (x : Int) < 2 := by omega
            obtain ⟨q, a, d, c, m, n, k1, j1, e1, k2, j2, e2, hR⟩ := HRD.out x hlt
            have hR' := hR.below hB.out
            obtain ⟨g0, g1, g2, g3, g4, g5, g6, lq, la, ld, ln, wq1, wq2⟩ := hR'
            generalize hpr : pl ss xss yss one two x = r at g6
            have HPR := Lib.hid hpr
            have zq : (q : Int) < 2 := by omega
            have za : (a : Int) < 2 := by omega
            have zd : (d : Int) < 2 := by omega
            have zn : (n : Int) < 4 := by omega
            obtain ⟨p0, p1, p2, p3⟩ := three_cells Kx.out
            have rf : ∀ k, wo.frozen? ⟨w1.heap.size, k, none⟩ = false := fun k => Joins.unfrozen_of_block hA.out k
            have A3 : Hid (Blk (wo.setCell ⟨w1.heap.size, x, none⟩ (.int .i64 r)) w1.heap.size 3 #[.int .i64 (if 0 < x + 1 then pl ss xss yss one two 0 else 0), .int .i64 (if 1 < x + 1 then pl ss xss yss one two 1 else 0)]) := Lib.hid (by
              have := Joins.block_setCell (i := x) hA.out (.int .i64 r)
              obtain rfl | rfl : x = 0 ∨ x = 1 := by omega
              · rw [← HPR.out] at this ⊢; exact this
              · rw [← HPR.out] at this ⊢; exact this)
            clear hR hpr
            have rc : ∃ z, wo.cell? ⟨w1.heap.size, x, none⟩ = some z := by
              obtain rfl | rfl : x = 0 ∨ x = 1 := by omega
              · exact ⟨_, Joins.cell_of_block hA.out 0⟩
              · exact ⟨_, Joins.cell_of_block hA.out 1⟩
            obtain ⟨zz, rc⟩ := rc
            go_wp2_with fail
            go_roundw
            case rel => exact ⟨x + 1, by omega, by go_num, ⟨_, rfl⟩, ⟨_, rfl⟩, ⟨_, rfl⟩, A3, Lib.hid (hW.out.setCell (Nat.le_refl _) _)⟩
            case measure => simp [intOf]; omega
          · have hkz : ¬ (x : Int) < 2 := by omega
            obtain rfl : x = 2 := by omega
            go_wp2_with fail
            rw [HE.out]
            go_ret2
            refine ⟨_, rfl, (st3.ints_blk (xs := upto ss xss yss one two 2) rfl (show Blk wo w1.heap.size 3 (i64s (upto ss xss yss one two 2)).toArray from hA.out) (show (2 : Nat) ≤ maxLen by unfold maxLen; decide)).mono Z1.out (hA.out.lt), below_tr B1.out hB.out⟩
      · have HW1 := Lib.hid g1
        have HW2 := Lib.hid g2
        have HE := Lib.hid (res_no (ss := ss) (xss := xss) (yss := yss) (one := one) (two := two) (fun h => g2 h.2.2))
        clear g0 g1 g2 I0
        go_enter Try.func32, Try.ntmps32
        go_wp2_with fail
        refine H0.out.mono ?_
        rintro e w1 ⟨rfl, hb⟩
        have B1 := Lib.hid (below_tr B0.out hb)
        have K1 := Lib.hid (K0.out.below hb)
        obtain ⟨p0, p1, p2, p3⟩ := three_cells K1.out
        clear hb H0
        go_wp2_with fail
        refine (by have := play.impl_bits v1 one 2 w1 (HV1.out.below B1.out); rw [withinB_yes HW1.out] at this; exact this : Calls Try.prog _ #[v1, .int .i64 2] w1 fun e w' => e = .returned (.bool true) ∧ w1 = w').mono ?_
        rintro e w' ⟨rfl, rfl⟩
        go_wp2_with fail
        refine (by have := play.impl_bits v2 two 2 w1 (HV2.out.below B1.out); rw [withinB_no HW2.out] at this; exact this : Calls Try.prog _ #[v2, .int .i64 2] w1 fun e w' => e = .returned (.bool false) ∧ w1 = w').mono ?_
        rintro e w' ⟨rfl, rfl⟩
        go_wp2_with fail
        rw [HE.out]
        go_ret2
        exact ⟨_, rfl, OwnInts.nil _ _ _, B1.out⟩
    · have HW1 := Lib.hid g1
      have HE := Lib.hid (res_no (ss := ss) (xss := xss) (yss := yss) (one := one) (two := two) (fun h => g1 h.2.1))
      clear g0 g1 I0
      go_enter Try.func32, Try.ntmps32
      go_wp2_with fail
      refine H0.out.mono ?_
      rintro e w1 ⟨rfl, hb⟩
      have B1 := Lib.hid (below_tr B0.out hb)
      have K1 := Lib.hid (K0.out.below hb)
      obtain ⟨p0, p1, p2, p3⟩ := three_cells K1.out
      clear hb H0
      go_wp2_with fail
      refine (by have := play.impl_bits v1 one 2 w1 (HV1.out.below B1.out); rw [withinB_no HW1.out] at this; exact this : Calls Try.prog _ #[v1, .int .i64 2] w1 fun e w' => e = .returned (.bool false) ∧ w1 = w').mono ?_
      rintro e w' ⟨rfl, rfl⟩
      go_wp2_with fail
      rw [HE.out]
      go_ret2
      exact ⟨_, rfl, OwnInts.nil _ _ _, B1.out⟩
  · rw [ruleB_no g0] at I0
    have H0 := Lib.hid I0
    have HE := Lib.hid (res_no (ss := ss) (xss := xss) (yss := yss) (one := one) (two := two) (fun h => g0 h.1))
    clear g0 I0
    go_enter Try.func32, Try.ntmps32
    go_wp2_with fail
    refine H0.out.mono ?_
    rintro e w1 ⟨rfl, hb⟩
    have B1 := Lib.hid (below_tr B0.out hb)
    have K1 := Lib.hid (K0.out.below hb)
    obtain ⟨p0, p1, p2, p3⟩ := three_cells K1.out
    clear hb H0
    go_wp2_with fail
    rw [HE.out]
    go_ret2
    exact ⟨_, rfl, OwnInts.nil _ _ _, B1.out⟩


end Go.Proofs.Ytneonebgneonkaa.thr
