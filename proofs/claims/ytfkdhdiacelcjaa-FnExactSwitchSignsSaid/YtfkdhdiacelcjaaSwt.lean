/- The model's l5Switch and SwitchSigns. -/
import Derived.Test.YtfkdhdiacelcjaaSws
namespace Go.Proofs.Ytfkdhdiacelcjaa.sws
open Go.RowKit Go.Deep Go.Proofs.Ytfkdhdiacelcjaa.base
open Go.Proofs.Ytfkdhdiacelcjaa.ints (ret_int infoInt infoInts)
open Go.Proofs.Ytfkdhdiacelcjaa.sgn (wide okSign signB signB_yes signB_no)
open Go.Proofs.Ytfkdhdiacelcjaa.row (nn)

theorem lows4c {n : Nat} {w w' : World} {a0 a1 a2 a3 : Addr} {u0 u1 u2 u3 : Value} (h0 : w.cell? a0 = some u0) (h1 : w.cell? a1 = some u1) (h2 : w.cell? a2 = some u2) (h3 : w.cell? a3 = some u3)
    (l0 : a0.block < n) (l1 : a1.block < n) (l2 : a2.block < n) (l3 : a3.block < n) (h : step.Low n w w') :
    w'.cell? a0 = some u0 ∧ w'.cell? a1 = some u1 ∧ w'.cell? a2 = some u2 ∧ w'.cell? a3 = some u3 :=
  ⟨(h _ l0).trans h0, (h _ l1).trans h1, (h _ l2).trans h2, (h _ l3).trans h3⟩
/-- a list's cells -/
theorem icells {w : World} {v : Value} {xs : List Int} (h : Ints w v xs) (hp : 0 < xs.length) :
    ∃ b o cap, v = .slice (some ⟨b, o, none⟩) xs.length cap ∧ ∀ k, k < xs.length → w.cell? ⟨b, o + k, none⟩ = some (.int .i64 (xs.getD k 0)) := by
  obtain ⟨A, b, o, cap, rfl, _, _, hA, hc⟩ := h.form
  obtain rfl := hA hp
  exact ⟨b, o, cap, rfl, fun k hk => by rw [show xs.getD k 0 = xs[k] from by simp [List.getD, hk]]; exact hc k hk⟩
theorem sw_bd {xss : List (List Int)} {rs ps : List Int} (hok : okSign xss) {n m : Int} (hr : signs n rs) (hp : signs m ps) {r c : Nat} (h1 : r < xss.length) (h2 : c < wide xss) (h3 : r < rs.length) (h4 : c < ps.length) :
    IntKind.i64.wrap (nn xss r c * rs.getD r 0) = nn xss r c * rs.getD r 0 ∧ IntKind.i64.wrap (nn xss r c * rs.getD r 0 * ps.getD c 0) = nn xss r c * rs.getD r 0 * ps.getD c 0 := by
  obtain ⟨b1, b2⟩ := sgn.nn_bd hok h1 h2
  have s1 := sign_at hr h3
  have s2 := sign_at hp h4
  rcases s1 with e1 | e1 <;> rcases s2 with e2 | e2 <;> rw [e1, e2] <;> exact ⟨IntWalk.i64_in _ (by omega), IntWalk.i64_in _ (by omega)⟩


set_option maxRecDepth 100000 in
set_option maxHeartbeats 8000000 in
theorem spec_switch (v vr vp : Value) (xss : List (List Int)) (rs ps : List Int) (w : World) (h : IRows w v xss) (hr : Ints w vr rs) (hp : Ints w vp ps) (hok : okSign xss) (hrs : signs xss.length rs) (hps : signs ((wide xss : Nat) : Int) ps) :
    Calls Try.prog 97 #[v, vr, vp] w fun e w' => ∃ u', e = .returned u' ∧ OwnRows w' w.heap.size w'.heap.size u' (swrows xss rs ps (wide xss) xss.length) ∧ Below w.heap.size w w' := by
  obtain ⟨s0, si, sz0, sz1, sz2⟩ := info_parts infoInts
  obtain ⟨i0, hi, hz0, hz1, hz2⟩ := info_parts infoInt
  have hX := sgn.len3 hok
  have hY := sgn.wide3 hok
  have hp0 := sgn.pos hok
  have hrl : rs.length = xss.length := by have := hrs.1; omega
  have hpl : ps.length = wide xss := by have := hps.1; omega
  obtain ⟨d, q, cap, rfl, _, hrm⟩ := sgn.cell0 hok h
  obtain ⟨b1, o1, c1, rfl, hc1⟩ := icells hr (by omega)
  obtain ⟨b2, o2, c2, rfl, hc2⟩ := icells hp (by omega)
  have HBD := Lib.hid (fun (r c : Nat) (h1 : r < xss.length) (h2 : c < wide xss) => sw_bd hok hrs hps h1 h2 (by omega) (by omega))
  have HSW : Hid (∀ r c, nn xss r c * rs.getD r 0 * ps.getD c 0 = sw xss rs ps r c) := Lib.hid (fun _ _ => rfl)
  rw [hrl, hpl]
  rw [hrl] at hc1
  rw [hpl] at hc2
  clear h hr hp hok hrs hps hrl hpl
  obtain ⟨Y, hYe⟩ : ∃ Y, wide xss = Y := ⟨_, rfl⟩
  obtain ⟨X, hXe⟩ : ∃ X, xss.length = X := ⟨_, rfl⟩
  rw [hYe] at hY HBD hrm hc2 ⊢
  rw [hXe] at hX HBD hrm hc1 hp0 ⊢
  clear hYe hXe
  have HR := Lib.hid hrm
  have HC1 := Lib.hid hc1
  have HC2 := Lib.hid hc2
  have HIS := Lib.hid (swrow_succ xss rs ps)
  have HRS := Lib.hid (swrows_succ xss rs ps Y)
  have HL1 := Lib.hid (len_swrow xss rs ps)
  have HL2 := Lib.hid (len_swrows xss rs ps Y)
  clear hrm hc1 hc2
  have P0 : Hid (pile.Pile w (w.alloc (.cells #[] 22)) w.heap.size (w.alloc (.cells #[] 22)).heap.size (.slice (some ⟨w.heap.size, 0, none⟩) 0 0) [] (swrows xss rs ps Y 0)) := Lib.hid (by
    refine pile.start (below_al (Below.refl _ _) _) (Nat.le_refl _) ?_ (by simp)
    have := World.ownsRow_made (base := w.heap.size) (e := 22) (size := 1) w #[] 0 (Nat.le_refl _) (Nat.zero_le _) rfl
    simpa using this)
  go_enter Try.func97, Try.ntmps97
  go_wp2_with fail
  go_loopw [7, 8, 9, 10] (fun v i z5 z6 wr => ∃ r : Nat, r ≤ X ∧ i = .int .i64 r ∧ (∃ z', z5 = z') ∧ (∃ z', z6 = z') ∧ ∃ vals, Hid (pile.Pile w wr w.heap.size wr.heap.size v vals (swrows xss rs ps Y r))) (fun _ i _ _ _ => X - (intOf i).toNat)
  case atStart => exact ⟨0, Nat.zero_le _, rfl, ⟨_, rfl⟩, ⟨_, rfl⟩, _, P0⟩
  case round =>
    obtain ⟨r, hr, rfl, ⟨z5, rfl⟩, ⟨z6, rfl⟩, vals, hP⟩ := hrel
    clear P0
    obtain ⟨wo, rfl⟩ : ∃ wo : World, wo = wr := ⟨_, rfl⟩
    by_cases hlt : r < X
    · have hkz : (r : Int) < (X : Int) := by omega
      obtain ⟨b, o, cap', gr, gc⟩ := HR.out r hlt
      have GR := Lib.hid gr
      have GC := Lib.hid gc
      have P1 := Lib.hid (hP.out.keep (below_al (Below.refl _ _) (.cells #[] 3)))
      have Q1 : Hid ((wo.alloc (.cells #[] 3)).ownsRow wo.heap.size 3 1 (.slice (some ⟨wo.heap.size, 0, none⟩) 0 0) 0 (i64s (swrow xss rs ps 0 r))) := Lib.hid (by
        have := World.ownsRow_made (base := wo.heap.size) (e := 3) (size := 1) wo #[] 0 (Nat.le_refl _) (Nat.zero_le _) rfl
        simpa [i64s, swrow] using this)
      obtain ⟨m, hm⟩ : ∃ m, wo.heap.size = m := ⟨_, rfl⟩
      have hmz : w.heap.size ≤ m := by rw [← hm]; exact hP.out.below.size
      have P1' : Hid (pile.Pile w (wo.alloc (.cells #[] 3)) w.heap.size m u7 vals (swrows xss rs ps Y r)) := Lib.hid (hm ▸ P1.out)
      have Q1' : Hid ((wo.alloc (.cells #[] 3)).ownsRow m 3 1 (.slice (some ⟨m, 0, none⟩) 0 0) 0 (i64s (swrow xss rs ps 0 r))) := Lib.hid (by have := Q1.out; rw [hm] at this; exact this)
      clear gr gc P1 Q1
      go_wp2_with fail
      clear hm hP
      go_loopw [9, 10] (fun q' j wi => ∃ c : Nat, c ≤ Y ∧ j = .int .i64 c ∧ Hid (wi.ownsRow m 3 1 q' c (i64s (swrow xss rs ps c r))) ∧ Hid (pile.Pile w wi w.heap.size m u7 vals (swrows xss rs ps Y r))) (fun _ j _ => Y - (intOf j).toNat)
      case atStart => exact ⟨0, Nat.zero_le _, rfl, Q1', P1'⟩
      case round =>
        clear P1' Q1'
        obtain ⟨c, hcl, rfl, hQ, hP⟩ := hrel
        obtain ⟨wi, rfl⟩ : ∃ wi : World, wi = wr := ⟨_, rfl⟩
        have BI := Lib.hid hP.out.below
        have e1 := below_cell BI.out _ _ GR.out
        have l1 : d < w.heap.size := World.block_lt_of_cell? _ _ GR.out
        by_cases hlc : c < Y
        · have hkc : (c : Int) < (Y : Int) := by omega
          have e2 := below_cell BI.out _ _ (GC.out c hlc)
          have e3 := below_cell BI.out _ _ (HC1.out r hlt)
          have e4 := below_cell BI.out _ _ (HC2.out c hlc)
          have l2 : b < w.heap.size := World.block_lt_of_cell? _ _ (GC.out c hlc)
          have l3 : b1 < w.heap.size := World.block_lt_of_cell? _ _ (HC1.out r hlt)
          have l4 : b2 < w.heap.size := World.block_lt_of_cell? _ _ (HC2.out c hlc)
          obtain ⟨k1, k2⟩ := HBD.out r c hlt hlc
          have HDT := Lib.hid (HIS.out c r)
          rw [← HSW.out r c] at HDT
          have lw : w.heap.size ≤ wi.heap.size := BI.out.size
          have hge := hP.out.ge
          have hszm := hP.out.le
          generalize nn xss r c = n at *
          generalize rs.getD r 0 = x at *
          generalize ps.getD c 0 = y at *
          have HQA := Lib.hid ((app.owns_below hQ.out (below_dr (below_al (Below.refl _ _) (.cells #[.int .i64 (n * x * y)] 3)))))
          have HPA := Lib.hid (hP.out.keep (below_dr (below_al (Below.refl _ _) (.cells #[.int .i64 (n * x * y)] 3))))
          go_wp2_with fail
          go_region_held3 (fun w' => w'.cell? ⟨d, q + r, none⟩ = some (.slice (some ⟨b, o, none⟩) (Y : Nat) cap') ∧ w'.cell? ⟨b, o + c, none⟩ = some (.int .i64 n) ∧ w'.cell? ⟨b1, o1 + r, none⟩ = some (.int .i64 x) ∧ w'.cell? ⟨b2, o2 + c, none⟩ = some (.int .i64 y))
            ((refine lows4c e1 e2 e3 e4 l1 l2 l3 l4 ?_; repeat (first | (with_reducible exact L3.out) | (with_reducible exact step.Low.refl _ _) | (with_reducible refine step.Low.drew ?_) | (with_reducible refine step.Low.alloc ?_ (by first | omega | (simp; omega)) _))))
            (first
              | (refine step.own rfl (.tmp 28) (.tmp 46) 22 rfl 3 i0 (.int .i64 0) 1 8 Try.underlying22 hi hz0 hz1 hz2 rfl (by decide) m _ c _ HQA.out (by simp [Act.eval]) ⟨wi.heap.size, 0, none⟩ 1 1 [.int .i64 (n * x * y)] (by simp [Act.eval]) rfl (by intro j u hj; have := app.one_at wi (.int .i64 (n * x * y)) 3; exact this j u hj) (by intro u hu; simp at hu; subst hu; rfl) (by unfold maxLen; omega) (by omega) (by simp; omega) ?_; intro v' w3 hown' hgrow; have L3 := Lib.hid (step.Low.grown (w := wi) (n := w.heap.size) (step.Low.drew (step.Low.alloc (step.Low.refl _ _) lw (.cells #[.int .i64 (n * x * y)] 3))) hgrow (by first | omega | (simp; omega)) (fun q hq2 => by have h1 := (HQA.out.lt q hq2).1; omega))))
          have P3 := Lib.hid (HPA.out.inner HQA.out hgrow)
          have Q3 : Hid (w3.ownsRow m 3 1 v' (c + 1) (i64s (swrow xss rs ps (c + 1) r))) := Lib.hid (by rw [HDT.out, ← app.i64s_snoc]; exact hown')
          clear hown' hgrow hQ hP HQA HPA e1 e2 e3 e4 k1 k2 L3 HDT
          go_wp2_with fail
          go_roundw
          case rel => exact ⟨c + 1, by omega, by go_num, Q3, P3⟩
          case measure => simp [intOf]; omega
        · have hkc : ¬ (c : Int) < (Y : Int) := by omega
          obtain rfl : c = Y := by omega
          obtain ⟨qa, ql, qc, rfl⟩ := make.shape hQ.out
          have U0 := Lib.hid ((app.ints_of_owns hQ.out).keep (below_al (Below.refl _ _) (.cells #[.slice qa ql qc] 22)))
          have T0 := Lib.hid (pile.typ_owns (hQ.out.alloc (.cells #[.slice qa ql qc] 22)))
          have P2 := Lib.hid (hP.out.keep (below_al (Below.refl _ _) (.cells #[.slice qa ql qc] 22)))
          have hsz := hP.out.below.size
          have hszm := hP.out.le
          have hge := hP.out.ge
          have hlu := Lib.hid (HL2.out r)
          go_wp2_with (at_builtin; go_must (refine wpList_append_own _ rfl (.tmp 48) (.tmp 50) 23 rfl w.heap.size 22 s0 (.slice none 0 0) 1 24 Try.underlying23 si sz0 sz1 sz2 rfl (by decide) _ _ _ rfl P2.out.owns ⟨wi.heap.size, 0, none⟩ 1 1 [.slice qa ql qc] rfl rfl ?d1 ?d2 ?d3 ?d4 ?d5 ?_))
          try (case d1 => exact app.one_at _ _ _)
          case d2 => first | rfl | (intro u hu; simp at hu; subst hu; rfl)
          case d3 => rw [hlu.out]; unfold maxLen; omega
          case d4 => rw [hlu.out]; omega
          try (case d5 => first | omega | (simp; omega))
          intro v' w3 hown' hgrow _
          have P4 : Hid (pile.Pile w w3 w.heap.size w3.heap.size v' (vals ++ [.slice qa ql qc]) (swrows xss rs ps c (r + 1))) := Lib.hid (by
            rw [HRS.out r]
            exact P2.out.grow U0.out (Nat.le_refl _) (by simp) T0.out hown' hgrow)
          obtain ⟨xa, xl, xc, rfl⟩ := make.shape hown'
          clear hown' hgrow P2 U0 T0 hP hQ
          go_wp2_with fail
          go_roundw
          case rel => exact ⟨r + 1, by omega, by go_num, ⟨_, rfl⟩, ⟨_, rfl⟩, _, P4⟩
          case measure => simp [intOf]; omega
    · have hkz : ¬ (r : Int) < (X : Int) := by omega
      obtain rfl : r = X := by omega
      obtain ⟨xa, xl, xc, rfl⟩ := make.shape hP.out.owns
      go_wp2_with fail
      go_ret
      exact ⟨_, rfl, hP.out.rows, hP.out.below⟩



set_option maxHeartbeats 4000000 in
theorem spec_any (v vr vp : Value) (xss : List (List Int)) (rs ps : List Int) (w : World) (h : IRows w v xss) (hr : Ints w vr rs) (hp : Ints w vp ps) :
    Calls Try.prog 52 #[v, vr, vp] w fun e w' => ∃ u', e = .returned (.tuple #[u', .bool (res xss rs ps).2]) ∧ IRows w' u' (res xss rs ps).1 ∧ Below w.heap.size w w' := by
  have H := Lib.hid h
  have HR := Lib.hid hr
  have HP := Lib.hid hp
  have HC := Lib.hid (sgn.spec_good v xss w h)
  by_cases hok : okSign xss
  · have HE := Lib.hid (signB_yes hok)
    obtain ⟨d, q, cap, rfl, ⟨m0, m1, mc⟩, _⟩ := sgn.cell0 hok h
    have hpos := sgn.pos hok
    have hkz : (0 : Int) < (xss.length : Int) := by omega
    obtain ⟨ra, rn, rc, rfl⟩ := hr.shape
    obtain ⟨pa, pn, pc, rfl⟩ := hp.shape
    have HOK := Lib.hid hok
    clear h hr hp
    by_cases hrs : signs xss.length rs
    · have HE1 := Lib.hid (signsB_yes hrs)
      by_cases hps : signs ((wide xss : Nat) : Int) ps
      · have HE2 := Lib.hid (signsB_yes hps)
        rw [res_yes ⟨hok, hrs, hps⟩]
        have HRS := Lib.hid hrs
        have HPS := Lib.hid hps
        clear hok hrs hps
        go_enter Try.func52, Try.ntmps52
        go_wp2_with fail
        refine HC.out.mono ?_
        rintro e w1 ⟨rfl, n, rfl⟩
        rw [HE.out]
        have B1 := Lib.hid (below_drewN (Below.refl w.heap.size w) n)
        go_wp2_with fail
        refine (spec_are _ rs _ _ (HR.out.below B1.out)).mono ?_
        rintro e w2 ⟨rfl, hb⟩
        rw [HE1.out]
        have B2 := Lib.hid (below_tr B1.out hb)
        have mc2 := below_cell B2.out _ _ mc
        clear hb
        go_wp2_with fail
        refine (spec_are _ ps _ _ (HP.out.below B2.out)).mono ?_
        rintro e w3 ⟨rfl, hb⟩
        rw [HE2.out]
        have B3 := Lib.hid (below_tr B2.out hb)
        clear hb
        go_wp2_with fail
        refine (spec_switch _ _ _ xss rs ps _ (H.out.below B3.out) (HR.out.below B3.out) (HP.out.below B3.out) HOK.out HRS.out HPS.out).mono ?_
        rintro e w4 ⟨u', rfl, hu, hb⟩
        obtain ⟨xa, xn, xc, rfl⟩ := hu.rows.shape
        have U2 := Lib.hid hu.rows
        have B4 := Lib.hid (below_tr B3.out hb)
        clear hu hb
        go_wp2_with fail
        go_ret2
        exact ⟨_, rfl, U2.out, B4.out⟩
      · have HE2 := Lib.hid (signsB_no hps)
        rw [res_no (fun h => hps h.2.2)]
        clear hok hrs hps
        go_enter Try.func52, Try.ntmps52
        go_wp2_with fail
        refine HC.out.mono ?_
        rintro e w1 ⟨rfl, n, rfl⟩
        rw [HE.out]
        have B1 := Lib.hid (below_drewN (Below.refl w.heap.size w) n)
        go_wp2_with fail
        refine (spec_are _ rs _ _ (HR.out.below B1.out)).mono ?_
        rintro e w2 ⟨rfl, hb⟩
        rw [HE1.out]
        have B2 := Lib.hid (below_tr B1.out hb)
        have mc2 := below_cell B2.out _ _ mc
        clear hb
        go_wp2_with fail
        refine (spec_are _ ps _ _ (HP.out.below B2.out)).mono ?_
        rintro e w3 ⟨rfl, hb⟩
        rw [HE2.out]
        have B3 := Lib.hid (below_tr B2.out hb)
        clear hb
        go_wp2_with fail
        go_ret2
        exact ⟨_, rfl, app.empties _ _ _ (Nat.zero_le _), below_al B3.out _⟩
    · have HE1 := Lib.hid (signsB_no hrs)
      rw [res_no (fun h => hrs h.2.1)]
      clear hok hrs
      go_enter Try.func52, Try.ntmps52
      go_wp2_with fail
      refine HC.out.mono ?_
      rintro e w1 ⟨rfl, n, rfl⟩
      rw [HE.out]
      have B1 := Lib.hid (below_drewN (Below.refl w.heap.size w) n)
      go_wp2_with fail
      refine (spec_are _ rs _ _ (HR.out.below B1.out)).mono ?_
      rintro e w2 ⟨rfl, hb⟩
      rw [HE1.out]
      have B2 := Lib.hid (below_tr B1.out hb)
      clear hb
      go_wp2_with fail
      go_ret2
      exact ⟨_, rfl, app.empties _ _ _ (Nat.zero_le _), below_al B2.out _⟩
  · have HE := Lib.hid (signB_no hok)
    rw [res_no (fun h => hok h.1)]
    obtain ⟨va, vn, vc, rfl⟩ := h.shape
    obtain ⟨ra, rn, rc, rfl⟩ := hr.shape
    obtain ⟨pa, pn, pc, rfl⟩ := hp.shape
    clear hok h hr hp
    go_enter Try.func52, Try.ntmps52
    go_wp2_with fail
    refine HC.out.mono ?_
    rintro e w1 ⟨rfl, n, rfl⟩
    rw [HE.out]
    go_wp2_with fail
    go_ret2
    exact ⟨_, rfl, app.empties _ _ _ (Nat.zero_le _), below_al (below_drewN (Below.refl _ _) _) _⟩


end Go.Proofs.Ytfkdhdiacelcjaa.sws
