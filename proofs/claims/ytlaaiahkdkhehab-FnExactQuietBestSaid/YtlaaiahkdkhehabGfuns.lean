/- GameFunctional of the model. -/
import Derived.Test.YtlaaiahkdkhehabGfun
import Derived.Test.YtlaaiahkdkhehabStep
import Derived.Deep.RegionHeld3
namespace Go.Proofs.Ytlaaiahkdkhehab.gfun
open Go.RowKit Go.Deep Go.Proofs.Ytlaaiahkdkhehab.base
open Go.Proofs.Ytlaaiahkdkhehab.ints (ret_int infoInt infoInts)
open Go.Proofs.Ytlaaiahkdkhehab.rws (total)
open Go.Proofs.Ytlaaiahkdkhehab.val (okSizes ret_b)
open Go.Proofs.Ytlaaiahkdkhehab.gval (okGame gameB gameB_yes gameB_no)
open Go.Proofs.Ytlaaiahkdkhehab.row (nn at_ getD_lt)
open Go.Proofs.Ytlaaiahkdkhehab.gwon (wt wt_bd nn_bd wt_get)

theorem lows5 {n : Nat} {w w' : World} {a0 a1 a2 a3 a4 : Addr} {u0 u1 u2 u3 u4 : Value} (h0 : w.cell? a0 = some u0) (h1 : w.cell? a1 = some u1) (h2 : w.cell? a2 = some u2) (h3 : w.cell? a3 = some u3) (h4 : w.cell? a4 = some u4)
    (l0 : a0.block < n) (l1 : a1.block < n) (l2 : a2.block < n) (l3 : a3.block < n) (l4 : a4.block < n) (h : step.Low n w w') :
    w'.cell? a0 = some u0 ∧ w'.cell? a1 = some u1 ∧ w'.cell? a2 = some u2 ∧ w'.cell? a3 = some u3 ∧ w'.cell? a4 = some u4 :=
  ⟨(h _ l0).trans h0, (h _ l1).trans h1, (h _ l2).trans h2, (h _ l3).trans h3, (h _ l4).trans h4⟩
theorem take_succ (F : Nat → Nat → Int) (r c : Nat) (h : c < 4) : (make.quad F r |>.take c) ++ [F r c] = (make.quad F r |>.take (c + 1)) := by
  match c, h with
  | 0, _ => rfl
  | 1, _ => rfl
  | 2, _ => rfl
  | 3, _ => rfl


set_option maxRecDepth 100000 in
set_option maxHeartbeats 8000000 in
theorem l4fun (x y : Int) (v : Value) (ws : List Int) (u : Value) (xss : List (List Int)) (w : World) (h : game.GV w v ws u xss) (hok : okGame x y ws xss) :
    Calls Try.prog 62 #[.agg #[.int .i64 x, .int .i64 y, v, u]] w fun e w' => ∃ u', e = .returned u' ∧ OwnRows w' w.heap.size w'.heap.size u' (rows ws xss xss.length) ∧ Below w.heap.size w w' := by
  obtain ⟨s0, si, sz0, sz1, sz2⟩ := info_parts infoInts
  obtain ⟨i0, hi, hz0, hz1, hz2⟩ := info_parts infoInt
  obtain ⟨va, b, o, vc, R, rfl, _, _, hA, hc⟩ := h.rows.form
  obtain ⟨wa, wb, wo, wc, rfl, _, _, hA', hc'⟩ := h.ints.form
  have hmm := val.mul_small hok.1
  have hl1 := hok.2.1
  have hl2 := hok.2.2.1
  obtain rfl := hA (by omega)
  obtain rfl := hA' (by omega)
  have h9 : xss.length ≤ 9 := by omega
  have HLE : Hid (ws.length = xss.length) := Lib.hid (by omega)
  have HOK := Lib.hid hok
  have HC := Lib.hid hc
  have HC' := Lib.hid hc'
  clear h hok hc hc' hA hA' hmm hl1 hl2
  have K0 := Lib.hid (Blk.new w 29 #[.int .i64 x, .int .i64 y, .slice (some ⟨wb, wo, none⟩) ws.length wc, .slice (some ⟨b, o, none⟩) xss.length vc])
  have B0 := Lib.hid (below_al (Below.refl w.heap.size w) (.cells #[.int .i64 x, .int .i64 y, .slice (some ⟨wb, wo, none⟩) ws.length wc, .slice (some ⟨b, o, none⟩) xss.length vc] 29))
  have P0 : Hid (pile.Pile w ((w.alloc (.cells #[.int .i64 x, .int .i64 y, .slice (some ⟨wb, wo, none⟩) ws.length wc, .slice (some ⟨b, o, none⟩) xss.length vc] 29)).alloc (.cells #[] 22)) (w.heap.size + 1) ((w.alloc (.cells #[.int .i64 x, .int .i64 y, .slice (some ⟨wb, wo, none⟩) ws.length wc, .slice (some ⟨b, o, none⟩) xss.length vc] 29)).alloc (.cells #[] 22)).heap.size (.slice (some ⟨w.heap.size + 1, 0, none⟩) 0 0) [] (rows ws xss 0)) := Lib.hid (by
    refine pile.start (below_al B0.out _) (by omega) ?_ (by simp)
    have := World.ownsRow_made (base := w.heap.size + 1) (e := 22) (size := 1) (w.alloc (.cells #[.int .i64 x, .int .i64 y, .slice (some ⟨wb, wo, none⟩) ws.length wc, .slice (some ⟨b, o, none⟩) xss.length vc] 29)) #[] 0 (by simp) (Nat.zero_le _) rfl
    simpa using this)
  go_enter Try.func62, Try.ntmps62
  go_wp2_with fail
  go_loopw [3, 4, 5, 6] (fun v i z5 z6 wr => ∃ r : Nat, r ≤ xss.length ∧ i = .int .i64 r ∧ (∃ z', z5 = z') ∧ (∃ z', z6 = z') ∧ ∃ vals, Hid (pile.Pile w wr (w.heap.size + 1) wr.heap.size v vals (rows ws xss r)) ∧ Hid (Blk wr w.heap.size 29 #[.int .i64 x, .int .i64 y, .slice (some ⟨wb, wo, none⟩) ws.length wc, .slice (some ⟨b, o, none⟩) xss.length vc])) (fun _ i _ _ _ => xss.length - (intOf i).toNat)
  case atStart => exact ⟨0, Nat.zero_le _, rfl, ⟨_, rfl⟩, ⟨_, rfl⟩, _, P0, Lib.hid (K0.out.alloc _)⟩
  case round =>
    obtain ⟨r, hr, rfl, ⟨z5, rfl⟩, ⟨z6, rfl⟩, vals, hP, hK⟩ := hrel
    clear P0
    obtain ⟨wo', rfl⟩ : ∃ wo' : World, wo' = wr := ⟨_, rfl⟩
    obtain ⟨p0, p1, p2, p3, p4⟩ := four_cells hK.out
    by_cases hlt : r < xss.length
    · have hkz : (r : Int) < (xss.length : Int) := by omega
      have hlt' : r < ws.length := by have := HLE.out; omega
      have hkz' : (r : Int) < (ws.length : Int) := by omega
      obtain ⟨gr0, gr1⟩ := HC.out r hlt
      have gw0 := HC'.out r hlt'
      rw [wt_get hlt'] at gw0
      obtain ⟨b2, o2, cap2, hR2, hcx, hbx, q0, q1, q2, q3⟩ := gwon.cells4 HOK.out hlt (by rw [getD_lt hlt]; exact gr1)
      rw [hR2] at gr0
      have HCX : Hid (∀ c, c < 4 → w.cell? ⟨b2, o2 + c, none⟩ = some (.int .i64 (nn xss r c))) := Lib.hid (fun c hc4 => by
        match c, hc4 with
        | 0, _ => exact q0
        | 1, _ => exact q1
        | 2, _ => exact q2
        | 3, _ => exact q3)
      have GR := Lib.hid gr0
      have GW := Lib.hid gw0
      have HBW := Lib.hid (wt_bd HOK.out r)
      have HBX := Lib.hid (nn_bd HOK.out r)
      have P1 := Lib.hid (hP.out.keep (below_al (Below.refl _ _) (.cells #[] 3)))
      have Q1 : Hid ((wo'.alloc (.cells #[] 3)).ownsRow wo'.heap.size 3 1 (.slice (some ⟨wo'.heap.size, 0, none⟩) 0 0) 0 (i64s ((make.quad (N ws xss)) r |>.take 0))) := Lib.hid (by
        have := World.ownsRow_made (base := wo'.heap.size) (e := 3) (size := 1) wo' #[] 0 (Nat.le_refl _) (Nat.zero_le _) rfl
        simpa [i64s] using this)
      have K1 := Lib.hid (hK.out.alloc (.cells #[] 3))
      obtain ⟨m, hm⟩ : ∃ m, wo'.heap.size = m := ⟨_, rfl⟩
      have hbz := hP.out.below.size
      have hmz : w.heap.size + 1 ≤ m := by rw [← hm]; exact p4
      have P1' : Hid (pile.Pile w (wo'.alloc (.cells #[] 3)) (w.heap.size + 1) m _ vals (rows ws xss r)) := Lib.hid (hm ▸ P1.out)
      have Q1' : Hid ((wo'.alloc (.cells #[] 3)).ownsRow m 3 1 (.slice (some ⟨m, 0, none⟩) 0 0) 0 (i64s ((make.quad (N ws xss)) r |>.take 0))) := Lib.hid (by have := Q1.out; rw [hm] at this; exact this)
      clear gr0 gw0 gr1 hR2 q0 q1 q2 q3 hbx
      go_wp2_with fail
      clear P1 Q1 hm hP p0 p1 p2 p3 p4 hK
      go_loopw [5, 6] (fun q j wi => ∃ c : Nat, c ≤ 4 ∧ j = .int .i64 c ∧ Hid (wi.ownsRow m 3 1 q c (i64s ((make.quad (N ws xss)) r |>.take c))) ∧ Hid (pile.Pile w wi (w.heap.size + 1) m u3 vals (rows ws xss r)) ∧ Hid (Blk wi w.heap.size 29 #[.int .i64 x, .int .i64 y, .slice (some ⟨wb, wo, none⟩) ws.length wc, .slice (some ⟨b, o, none⟩) xss.length vc])) (fun _ j _ => 4 - (intOf j).toNat)
      case atStart => exact ⟨0, Nat.zero_le _, rfl, Q1', P1', K1⟩
      case round =>
        clear P1' Q1' K1
        obtain ⟨c, hcl, rfl, hQ, hP, hK⟩ := hrel
        obtain ⟨wi, rfl⟩ : ∃ wi : World, wi = wr := ⟨_, rfl⟩
        by_cases hlc : c < 4
        · have hkc : (c : Int) < 4 := by omega
          obtain ⟨p0, p1, p2, p3, p4⟩ := four_cells hK.out
          have BI := Lib.hid hP.out.below
          have e2 := below_cell BI.out _ _ GR.out
          have e3 := below_cell BI.out _ _ GW.out
          have e4 := below_cell BI.out _ _ (HCX.out c hlc)
          have bd := HBW.out
          have bd' := HBX.out c
          have HDT := Lib.hid (take_succ (N ws xss) r c hlc)
          have hNN : N ws xss r c = wt ws r * nn xss r c := rfl
          rw [hNN] at HDT
          have l0 : w.heap.size < w.heap.size + 1 := by omega
          have l2 : b < w.heap.size + 1 := by have := World.block_lt_of_cell? _ _ GR.out; simp at this; omega
          have l3 : wb < w.heap.size + 1 := by have := World.block_lt_of_cell? _ _ GW.out; simp at this; omega
          have l4 : b2 < w.heap.size + 1 := by have := World.block_lt_of_cell? _ _ (HCX.out c hlc); simp at this; omega
          have lw : w.heap.size + 1 ≤ wi.heap.size := p4
          have hge := hP.out.ge
          have hszm := hP.out.le
          have h6 : c < 4 := hlc
          generalize nn xss r c = n at *
          generalize wt ws r = z at *
          have kn : IntKind.i64.wrap (z * n) = z * n := by
            have hx : n = 0 ∨ n = 1 := by omega
            rcases hx with e | e <;> subst e <;> exact IntWalk.i64_in _ (by omega)
          have HQA := Lib.hid ((app.owns_below hQ.out (below_dr (below_al (Below.refl _ _) (.cells #[.int .i64 (z * n)] 3)))))
          have HPA := Lib.hid (hP.out.keep (below_dr (below_al (Below.refl _ _) (.cells #[.int .i64 (z * n)] 3))))
          have HKA := Lib.hid (hK.out.below (below_dr (below_al (Below.refl _ _) (.cells #[.int .i64 (z * n)] 3))))
          clear hNN bd bd' p0 p1 p4
          go_wp2_with fail
          go_region_held3 (fun w' => w'.cell? ⟨w.heap.size, 2, none⟩ = some (.slice (some ⟨wb, wo, none⟩) ws.length wc) ∧ w'.cell? ⟨w.heap.size, 3, none⟩ = some (.slice (some ⟨b, o, none⟩) xss.length vc) ∧ w'.cell? ⟨b, o + r, none⟩ = some (.slice (some ⟨b2, o2, none⟩) 4 cap2) ∧ w'.cell? ⟨wb, wo + r, none⟩ = some (.int .i64 z) ∧ w'.cell? ⟨b2, o2 + c, none⟩ = some (.int .i64 n))
            ((refine lows5 p2 p3 e2 e3 e4 l0 l0 l2 l3 l4 ?_; repeat (first | (with_reducible exact L3.out) | (with_reducible exact step.Low.refl _ _) | (with_reducible refine step.Low.drew ?_) | (with_reducible refine step.Low.alloc ?_ (by first | omega | (simp; omega)) _))))
            (first
              | (refine step.own rfl (.tmp 20) (.tmp 35) 22 rfl 3 i0 (.int .i64 0) 1 8 Try.underlying22 hi hz0 hz1 hz2 rfl (by decide) m _ c _ HQA.out (by simp [Act.eval]) ⟨wi.heap.size, 0, none⟩ 1 1 [.int .i64 (z * n)] (by simp [Act.eval]) rfl (by intro j u hj; have := app.one_at wi (.int .i64 (z * n)) 3; exact this j u hj) (by intro u hu; simp at hu; subst hu; rfl) (by unfold maxLen; omega) (by omega) (by simp; omega) ?_; intro v' w3 hown' hgrow; have L3 := Lib.hid (step.Low.grown (w := wi) (n := w.heap.size + 1) (step.Low.drew (step.Low.alloc (step.Low.refl _ _) lw (.cells #[.int .i64 (z * n)] 3))) hgrow (by first | omega | (simp; omega)) (fun q hq2 => by have h1 := (HQA.out.lt q hq2).1; omega))))
          have P3 := Lib.hid (HPA.out.inner HQA.out hgrow)
          have K3 : Hid (Blk w3 w.heap.size 29 #[.int .i64 x, .int .i64 y, .slice (some ⟨wb, wo, none⟩) ws.length wc, .slice (some ⟨b, o, none⟩) xss.length vc]) := Lib.hid ((hgrow.block _ HKA.out.lt (fun e => by have := (HQA.out.lt _ e.symm).1; omega)).trans HKA.out)
          have Q3 : Hid (w3.ownsRow m 3 1 v' (c + 1) (i64s ((make.quad (N ws xss)) r |>.take (c + 1)))) := Lib.hid (by rw [← HDT.out, ← app.i64s_snoc]; exact hown')
          clear hown' hgrow hQ hP hK HQA HPA HKA p2 p3 e2 e3 e4 kn L3
          go_wp2_with fail
          go_roundw
          case rel => exact ⟨c + 1, by omega, by go_num, Q3, P3, K3⟩
          case measure => simp [intOf]; omega
        · have hkc : ¬ (c : Int) < 4 := by omega
          have hc4 : c = 4 := by omega
          obtain ⟨qa, ql, qc, rfl⟩ := make.shape hQ.out
          have Q4 : Hid (wi.ownsRow m 3 1 (.slice qa ql qc) 4 (i64s ((make.quad (N ws xss)) r))) := Lib.hid (by
            have := hQ.out
            rw [hc4] at this
            exact this)
          have U0 := Lib.hid ((app.ints_of_owns Q4.out).keep (below_al (Below.refl _ _) (.cells #[.slice qa ql qc] 22)))
          have T0 := Lib.hid (pile.typ_owns (Q4.out.alloc (.cells #[.slice qa ql qc] 22)))
          have P2 := Lib.hid (hP.out.keep (below_al (Below.refl _ _) (.cells #[.slice qa ql qc] 22)))
          have K2 := Lib.hid (hK.out.alloc (.cells #[.slice qa ql qc] 22))
          have hsz := hP.out.below.size
          have hszm := hP.out.le
          have hge := hP.out.ge
          have hlu := Lib.hid (make.len_rowsOf (N ws xss) r)
          clear hc4 hQ
          go_wp2_with (at_builtin; go_must (refine wpList_append_own _ rfl (.tmp 37) (.tmp 39) 23 rfl (w.heap.size + 1) 22 s0 (.slice none 0 0) 1 24 Try.underlying23 si sz0 sz1 sz2 rfl (by decide) _ _ _ rfl P2.out.owns ⟨wi.heap.size, 0, none⟩ 1 1 [.slice qa ql qc] rfl rfl ?d1 ?d2 ?d3 ?d4 ?d5 ?_))
          try (case d1 => exact app.one_at _ _ _)
          case d2 => first | rfl | (intro u hu; simp at hu; subst hu; rfl)
          case d3 => unfold rows; rw [hlu.out]; unfold maxLen; omega
          case d4 => unfold rows; rw [hlu.out]; omega
          try (case d5 => first | omega | (simp; omega))
          intro v' w3 hown' hgrow _
          have P4 : Hid (pile.Pile w w3 (w.heap.size + 1) w3.heap.size v' (vals ++ [.slice qa ql qc]) (rows ws xss (r + 1))) := Lib.hid (by
            have e : rows ws xss (r + 1) = rows ws xss r ++ [make.quad (N ws xss) r] := by simp [rows, make.rowsOf, List.range_succ]
            rw [e]
            exact P2.out.grow U0.out (Nat.le_refl _) (by simp) T0.out hown' hgrow)
          have K4 : Hid (Blk w3 w.heap.size 29 #[.int .i64 x, .int .i64 y, .slice (some ⟨wb, wo, none⟩) ws.length wc, .slice (some ⟨b, o, none⟩) xss.length vc]) := Lib.hid ((hgrow.block _ K2.out.lt (fun e => by have := (P2.out.owns.lt _ e.symm).1; omega)).trans K2.out)
          obtain ⟨xa, xl, xc, rfl⟩ := make.shape hown'
          clear hown' hgrow P2 U0 T0 hP hK K2 Q4
          go_wp2_with fail
          go_roundw
          case rel => exact ⟨r + 1, by omega, by go_num, ⟨_, rfl⟩, ⟨_, rfl⟩, _, P4, K4⟩
          case measure => simp [intOf]; omega
    · have hkz : ¬ (r : Int) < (xss.length : Int) := by omega
      have hre : r = xss.length := by omega
      obtain ⟨xa, xl, xc, rfl⟩ := make.shape hP.out.owns
      have HRE := Lib.hid hre
      clear hre
      go_wp2_with fail
      go_ret
      exact ⟨_, rfl, by rw [← HRE.out]; exact hP.out.rows.mono (by omega) (Nat.le_refl _), hP.out.below⟩




end Go.Proofs.Ytlaaiahkdkhehab.gfun
