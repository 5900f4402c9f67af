/- RepeatSum of the model. -/
import Derived.Test.YtneonebgneonkaaRps
import Derived.Test.YtneonebgneonkaaSbs
import Derived.Test.YtneonebgneonkaaLast
import Derived.Test.YtneonebgneonkaaScalec
namespace Go.Proofs.Ytneonebgneonkaa.rpm
open Go.RowKit Go.Deep Go.Proofs.Ytneonebgneonkaa.base
open Go.Proofs.Ytneonebgneonkaa.rws (total)
open Go.Proofs.Ytneonebgneonkaa.smm
open Go.Proofs.Ytneonebgneonkaa.two (two twoB twoB_yes twoB_no)
open Go.Proofs.Ytneonebgneonkaa.wis (ok2 ok2B ok2B_yes ok2B_no)
open Go.Proofs.Ytneonebgneonkaa.rule (RV)

theorem fold_zero (b : Bx) : ∀ j, fold make.Res.zero (List.replicate j b) = make.Res.zero
  | 0 => rfl
  | j + 1 => by rw [List.replicate_succ]; show fold (wire make.Res.zero b) _ = _; rw [wire_zero]; exact fold_zero b j
theorem fold_app (r : make.Res) (cs bs : List Bx) : fold r (cs ++ bs) = fold (fold r cs) bs := by simp [fold]
theorem rep_app (b : Bx) (n m : Nat) : List.replicate (n + m) b = List.replicate n b ++ List.replicate m b := by
  induction n with
  | zero => simp
  | succ n ih => rw [show n + 1 + m = (n + m) + 1 from by omega, List.replicate_succ, List.replicate_succ, ih, List.cons_append]
theorem fold_next (b : Bx) (k : Nat) : fold P0 (List.replicate (k + 1) b) = wire (fold P0 (List.replicate k b)) b := by rw [rep_app, fold_app]; rfl
theorem fold_stop {b : Bx} {k m : Nat} (hk : k < m) (h : wire (fold P0 (List.replicate k b)) b = make.Res.zero) : fold P0 (List.replicate m b) = make.Res.zero := by
  rw [show m = (k + 1) + (m - (k + 1)) from by omega, rep_app, fold_app, fold_next, h, fold_zero]
theorem res_bad {n : Int} {b : Bx} (h : ¬ two b.x b.y b.wh b.rows) : rps.res n b = make.Res.zero := by
  by_cases hn : 1 ≤ n ∧ n ≤ 9
  · rw [rps.res_yes hn]
    exact fold_stop (k := 0) (by omega) (wire_bad _ h)
  · exact rps.res_no hn
theorem D_one (xss : List (List Int)) : (List.range xss.length).map (scale.D xss 1) = xss := by
  apply List.ext_getElem
  · simp
  intro k h1 h2
  simp only [List.getElem_map, List.getElem_range, scale.D, Int.mul_one, List.map_id']
  simp [List.getD, h2]
/-- the sum under way -/
structure Way (w W : World) (g : Nat) (wh : Int) (va : Option Addr) (vn vc : Nat) (r : Value) (st : make.Res) : Prop where
  below : Below w.heap.size w W
  par : Blk W w.heap.size 48 #[.int .i64 2, .int .i64 2, .int .i64 wh, .slice va vn vc]
  res : Blk W (w.heap.size + 1) 48 #[.int .i64 0, .int .i64 0, .int .i64 0, .slice none 0 0]
  out : Blk W g 48 #[.int .i64 st.x, .int .i64 st.y, .int .i64 st.wh, r]
  rows : st3.Lo W (w.heap.size + 1 + 1) r st.rows
  tot : total st.rows ≤ 1048576
  hg : w.heap.size + 1 < g
def Eight (W : World) (g p : Nat) (a0 a1 a2 a3 b0 b1 b2 b3 : Value) : Prop := W.cell? ⟨g, 0, none⟩ = some a0 ∧ W.cell? ⟨g, 1, none⟩ = some a1 ∧ W.cell? ⟨g, 2, none⟩ = some a2 ∧ W.cell? ⟨g, 3, none⟩ = some a3 ∧ W.cell? ⟨p, 0, none⟩ = some b0 ∧ W.cell? ⟨p, 1, none⟩ = some b1 ∧ W.cell? ⟨p, 2, none⟩ = some b2 ∧ W.cell? ⟨p, 3, none⟩ = some b3
theorem eight {W : World} {g p : Nat} {t : TypeId} {a0 a1 a2 a3 b0 b1 b2 b3 : Value} (h : Blk W g t #[a0, a1, a2, a3]) (h' : Blk W p t #[b0, b1, b2, b3]) :
    W.cell? ⟨g, 0, none⟩ = some a0 ∧ W.cell? ⟨g, 1, none⟩ = some a1 ∧ W.cell? ⟨g, 2, none⟩ = some a2 ∧ W.cell? ⟨g, 3, none⟩ = some a3 ∧ W.cell? ⟨p, 0, none⟩ = some b0 ∧ W.cell? ⟨p, 1, none⟩ = some b1 ∧ W.cell? ⟨p, 2, none⟩ = some b2 ∧ W.cell? ⟨p, 3, none⟩ = some b3 := by
  obtain ⟨c0, c1, c2, c3, _⟩ := four_cells h
  obtain ⟨d0, d1, d2, d3, _⟩ := four_cells h'
  exact ⟨c0, c1, c2, c3, d0, d1, d2, d3⟩


set_option maxRecDepth 100000 in
set_option maxHeartbeats 8000000 in
theorem spec_low (x y wh : Int) (v : Value) (xss : List (List Int)) (n : Int) (w : World) (h : IRows w v xss) (hn : total xss ≤ 1048576) :
    Calls Try.prog 43 #[.agg #[.int .i64 x, .int .i64 y, .int .i64 wh, v], .int .i64 n] w fun e w' => ∃ r, e = .returned (.tuple #[.agg #[.int .i64 (rps.res n ⟨x, y, wh, xss⟩).x, .int .i64 (rps.res n ⟨x, y, wh, xss⟩).y, .int .i64 (rps.res n ⟨x, y, wh, xss⟩).wh, r], .bool (rps.res n ⟨x, y, wh, xss⟩).ok]) ∧ st3.Lo w' w.heap.size r (rps.res n ⟨x, y, wh, xss⟩).rows ∧ Below w.heap.size w w' := by
  obtain ⟨va, vn, vc, rfl⟩ := h.shape
  have B2 := below_al (below_al (Below.refl w.heap.size w) (.cells #[.int .i64 x, .int .i64 y, .int .i64 wh, .slice va vn vc] 48)) (.cells #[.int .i64 0, .int .i64 0, .int .i64 0, .slice none 0 0] 48)
  have P1 := (Blk.new w 48 #[.int .i64 x, .int .i64 y, .int .i64 wh, .slice va vn vc]).alloc (.cells #[.int .i64 0, .int .i64 0, .int .i64 0, .slice none 0 0] 48)
  have P2 : Blk ((w.alloc (.cells #[.int .i64 x, .int .i64 y, .int .i64 wh, .slice va vn vc] 48)).alloc (.cells #[.int .i64 0, .int .i64 0, .int .i64 0, .slice none 0 0] 48)) (w.heap.size + 1) 48 #[.int .i64 0, .int .i64 0, .int .i64 0, .slice none 0 0] := by have := Blk.new (w.alloc (.cells #[.int .i64 x, .int .i64 y, .int .i64 wh, .slice va vn vc] 48)) 48 #[.int .i64 0, .int .i64 0, .int .i64 0, .slice none 0 0]; simpa using this
  have hz2 : ((w.alloc (.cells #[.int .i64 x, .int .i64 y, .int .i64 wh, .slice va vn vc] 48)).alloc (.cells #[.int .i64 0, .int .i64 0, .int .i64 0, .slice none 0 0] 48)).heap.size = w.heap.size + 1 + 1 := by simp
  have HV := Lib.hid (h.below B2)
  obtain ⟨w2, hw2⟩ : ∃ w2, ((w.alloc (.cells #[.int .i64 x, .int .i64 y, .int .i64 wh, .slice va vn vc] 48)).alloc (.cells #[.int .i64 0, .int .i64 0, .int .i64 0, .slice none 0 0] 48)) = w2 := ⟨_, rfl⟩
  rw [hw2] at B2 P1 P2 HV hz2
  have BB := Lib.hid B2
  have HZ2 := Lib.hid hz2
  have HP1 := Lib.hid P1
  have HP2 := Lib.hid P2
  have CA := two.l6two x y wh _ xss w2 HV.out hn
  clear h B2 P1 P2 hz2
  by_cases g1 : two x y wh xss
  · rw [twoB_yes g1] at CA
    have HA := Lib.hid CA
    clear CA
    by_cases h1 : 1 ≤ n ∧ n ≤ 9
    · obtain ⟨m, rfl⟩ : ∃ m : Nat, n = (m : Int) := ⟨n.toNat, by omega⟩
      have HM := Lib.hid (show 1 ≤ m ∧ m ≤ 9 from by omega)
      have HE := Lib.hid (rps.res_yes (b := ⟨x, y, wh, xss⟩) h1)
      have HF := Lib.hid (first_yes (b := ⟨x, y, wh, xss⟩) g1)
      have HN := Lib.hid hn
      clear h1 hn
      obtain ⟨g1, rfl, rfl⟩ := g1
      have HTT := Lib.hid (fun (W : World) (hb : Below w2.heap.size w2 W) => scale.l2times 2 2 wh _ xss 1 W (HV.out.below hb) g1 (by omega) (by omega))
      have HWR := Lib.hid (fun (wo : Int) (r : Value) (yss : List (List Int)) (W : World) (hb : Below w.heap.size w W) (hb2 : Below w2.heap.size w2 W) (hr : IRows W r yss) (ht : two 2 2 wo yss) (sv1 u1 nv1 sv2 u2 nv2 : Value) (r1 : RV W sv1 F u1 K nv1 S) (r2 : RV W sv2 F u2 K nv2 S) => wis.l10Wire wo wh _ yss _ xss sv1 F u1 K nv1 S sv2 F u2 K nv2 S W hr (HV.out.below hb2) ht ⟨g1, rfl, rfl⟩ r1 r2 rule_sum rule_sum)
      clear g1
      go_enter Try.func43, Try.ntmps43
      obtain ⟨c0, c1, c2, c3, c4⟩ := four_cells HP1.out
      go_wp2_with fail
      clear hw2
      refine HA.out.mono ?_
      rintro e w4 ⟨rfl, hb⟩
      have W4 := Lib.hid hb
      clear hb c0 c1 c2 c3 c4
      obtain ⟨c0, c1, c2, c3, c4⟩ := four_cells (HP1.out.below W4.out)
      go_wp2_with fail
      refine (val.in_yes _ 1 9 _ (by have := HM.out; omega) (by have := HM.out; omega)).mono ?_
      rintro e w5 ⟨rfl, rfl⟩
      go_wp2_with fail
      refine (HTT.out _ W4.out).mono ?_
      rintro e w6 ⟨u, rfl, hu, hb⟩
      simp only [Int.mul_one]
      obtain ⟨xa, xn, xc, rfl⟩ := hu.rows.shape
      have W6 := below_tr W4.out hb
      have WW0 : Hid (Way w (w6.alloc (.cells #[.int .i64 2, .int .i64 2, .int .i64 wh, .slice xa xn xc] 48)) w6.heap.size wh va vn vc (.slice xa xn xc) (fold P0 (List.replicate 1 ⟨2, 2, wh, xss⟩)) ∧ Below w2.heap.size w2 (w6.alloc (.cells #[.int .i64 2, .int .i64 2, .int .i64 wh, .slice xa xn xc] 48))) := Lib.hid (by
        have hs4 := W4.out.size
        have hs6 := W6.size
        have hz := HZ2.out
        have e1 : fold P0 (List.replicate 1 ⟨2, 2, wh, xss⟩) = ⟨2, 2, wh, xss, true⟩ := HF.out
        rw [e1]
        refine ⟨⟨below_al (below_tr BB.out W6) _, (HP1.out.below W6).alloc _, (HP2.out.below W6).alloc _, Blk.new _ _ _, ?_, HN.out, by omega⟩, below_al W6 _⟩
        intro W' hW'
        have h1 := (hu.below (below_al (Below.refl _ _) (.cells #[.int .i64 2, .int .i64 2, .int .i64 wh, .slice xa xn xc] 48)))
        have h2 := (h1.low (hW'.mono (fun p hp => by have e : p.block < w.heap.size + 1 + 1 := hp; show p.block < _; omega))).rows
        rw [D_one] at h2
        exact h2)
      have HL6 := Lib.hid (show w2.heap.size ≤ w6.heap.size from W6.size)
      clear hu hb W6 c0 c1 c2 c3 c4
      go_wp2_with fail
      go_loopw [7] (fun i wr => ∃ k : Nat, 1 ≤ k ∧ k ≤ m ∧ i = .int .i64 k ∧ ∃ (st : make.Res) (ra : Option Addr) (rn rc : Nat), Hid (st = fold P0 (List.replicate k ⟨2, 2, wh, xss⟩)) ∧ Hid (st.ok = true) ∧ Hid (Way w wr w6.heap.size wh va vn vc (.slice ra rn rc) st ∧ Below w2.heap.size w2 wr)) (fun i _ => m - (intOf i).toNat)
      case atStart => exact ⟨1, Nat.le_refl _, HM.out.1, rfl, _, xa, xn, xc, Lib.hid rfl, Lib.hid (show (fold P0 (List.replicate 1 ⟨2, 2, wh, xss⟩)).ok = true from by have e := HF.out; exact congrArg make.Res.ok e), WW0⟩
      case round =>
        clear WW0
        obtain ⟨k, hk1, hk, rfl, st, ra, rn, rc, hst, hok, hW⟩ := hrel
        obtain ⟨wo, rfl⟩ : ∃ wo : World, wo = wr := ⟨_, rfl⟩
        by_cases hlt : k < m
        · have hkz : (k : Int) < (m : Int) := by omega
          have hm9 : (m : Int) ≤ 9 := by have := HM.out; omega
          have CB := wis.l10Both st.x st.y st.wh _ st.rows 2 2 wh _ xss wo hW.out.1.rows.rows (HV.out.below hW.out.2) hW.out.1.tot HN.out
          obtain ⟨c0, c1, c2, c3, c4⟩ := four_cells hW.out.1.out
          obtain ⟨d0, d1, d2, d3, d4⟩ := four_cells hW.out.1.par
          by_cases g2 : ok2 st.x st.y st.wh st.rows 2 2 wh xss
          · rw [ok2B_yes g2] at CB
            have HB := Lib.hid CB
            have HS1 : Hid (fold P0 (List.replicate (k + 1) ⟨2, 2, wh, xss⟩) = ⟨2, 2, st.wh * wh, make.rowsOf (wrm.N st.rows xss F K S F K S) 4, true⟩) := Lib.hid (by
              rw [fold_next, ← hst.out]
              exact wrm.res_yes ⟨⟨g2.1, rule_sum, rule_sum⟩, g2.2⟩)
            have G2 := Lib.hid g2
            clear CB g2 hst
            go_wp2_with fail
            refine HB.out.mono ?_
            rintro e w7 ⟨rfl, hb⟩
            have W7 := Lib.hid (below_tr hW.out.2 hb)
            have V7 := Lib.hid (below_tr hW.out.1.below hb)
            have HO := Lib.hid (hW.out.1.out.below hb)
            have HQ := Lib.hid (hW.out.1.par.below hb)
            have HR := Lib.hid (hW.out.1.res.below hb)
            have HI := Lib.hid (hW.out.1.rows.rows.below hb)
            have HG := Lib.hid hW.out.1.hg
            clear hb hW HB c0 c1 c2 c3 c4 d0 d1 d2 d3 d4
            obtain ⟨sx, sy, sw, srows, sok⟩ := st
            obtain ⟨_, rfl, rfl⟩ := G2.out.1.1
            have HT2 : Hid (two 2 2 sw srows) := Lib.hid (And.left (And.left G2.out))
            have HEI := Lib.hid (eight HO.out HQ.out)
            go_wp2_with fail
            refine last.start (S := fun w' => w'.cell? ⟨w6.heap.size, 0, none⟩ = some (.int .i64 2) ∧ w'.cell? ⟨w6.heap.size, 1, none⟩ = some (.int .i64 2) ∧ w'.cell? ⟨w6.heap.size, 2, none⟩ = some (.int .i64 sw) ∧ w'.cell? ⟨w6.heap.size, 3, none⟩ = some (.slice ra rn rc) ∧ w'.cell? ⟨w.heap.size, 0, none⟩ = some (.int .i64 2) ∧ w'.cell? ⟨w.heap.size, 1, none⟩ = some (.int .i64 2) ∧ w'.cell? ⟨w.heap.size, 2, none⟩ = some (.int .i64 wh) ∧ w'.cell? ⟨w.heap.size, 3, none⟩ = some (.slice va vn vc)) (L := 5) (by kernel_rfl) ?_
            have hHeld := HEI.out
            refine last.take (i := 0) (oi := { dst := some 29, op := Op.load 48 (Operand.tmp 6), type := 48, pos := "l10_wirings.go:132", after := #[], guard := none }) (v := ?v0) rfl (by kernel_rfl) (by kernel_rfl) (by kernel_rfl) (by kernel_rfl) (by decide) (fun _ _ _ h => h) (Or.inl ⟨by rfl, ?y0⟩) hHeld ?r0
            case y0 => (intro w hSw; (try dsimp only at hSw); go_simp; try with_reducible rfl)
            try simp only [Act.put, List.setIfInBounds_toArray, List.set_cons_zero, List.set_cons_succ]
            refine last.take (i := 1) (oi := { dst := some 30, op := Op.load 48 (Operand.tmp 2), type := 48, pos := "l10_wirings.go:132", after := #[], guard := none }) (v := ?v1) rfl (by kernel_rfl) (by kernel_rfl) (by kernel_rfl) (by kernel_rfl) (by decide) (fun _ _ _ h => h) (Or.inl ⟨by rfl, ?y1⟩) hHeld ?r1
            case y1 => (intro w hSw; (try dsimp only at hSw); go_simp; try with_reducible rfl)
            try simp only [Act.put, List.setIfInBounds_toArray, List.set_cons_zero, List.set_cons_succ]
            refine last.one (i := 2) (o := { dst := some 31, op := Op.call { callee := Callee.value (Operand.func 73), args := #[Operand.const (Value.int IntKind.i64 3)], argTypes := #[3] }, type := 28, pos := "l10_wirings.go:132", after := #[], guard := none }) (by kernel_rfl) rfl (fun K hK => ?_)
            go_simp
            (go_at_call 73; (with_reducible refine (sbs.named3 _).mono ?_); rintro e w8 ⟨sv8, u8, nv8, rfl, h8, hb8⟩; obtain ⟨a0, a1, a2, a3, a4, a5, a6, a7, a8, rfl, rfl, rfl⟩ := h8.shape)
            refine hK.out _ _ ?s2 (fun hHeld => ?_)
            case s2 => (try dsimp only); exact eight (HO.out.below (below_tr (below_dr (Below.refl _ _)) hb8)) (HQ.out.below (below_tr (below_dr (Below.refl _ _)) hb8))
            clear hK K
            try simp only [Act.put, List.setIfInBounds_toArray, List.set_cons_zero, List.set_cons_succ]
            refine last.one (i := 3) (o := { dst := some 32, op := Op.call { callee := Callee.value (Operand.func 73), args := #[Operand.const (Value.int IntKind.i64 3)], argTypes := #[3] }, type := 28, pos := "l10_wirings.go:132", after := #[{ on := 2, ground := Ground.chain }], guard := none }) (by kernel_rfl) rfl (fun K hK => ?_)
            go_simp
            (go_at_call 73; (with_reducible refine (sbs.named3 _).mono ?_); rintro e w9 ⟨sv9, u9, nv9, rfl, h9, hb9⟩; obtain ⟨b0, b1, b2, b3, b4, b5, b6, b7, b8, rfl, rfl, rfl⟩ := h9.shape)
            refine hK.out _ _ ?s3 (fun hHeld => ?_)
            case s3 => (try dsimp only); exact eight (HO.out.below (below_tr (below_tr (below_dr (Below.refl _ _)) hb8) hb9)) (HQ.out.below (below_tr (below_tr (below_dr (Below.refl _ _)) hb8) hb9))
            clear hK K
            try simp only [Act.put, List.setIfInBounds_toArray, List.set_cons_zero, List.set_cons_succ]
            have Q9 := Lib.hid (below_tr (below_tr (below_dr (Below.refl w7.heap.size w7)) hb8) hb9)
            refine last.one (i := 4) (o := { dst := some 33, op := Op.call { callee := Callee.value (Operand.func 84), args := #[Operand.tmp 29, Operand.tmp 30, Operand.tmp 31, Operand.tmp 32], argTypes := #[48, 48, 28, 28] }, type := 48, pos := "l10_wirings.go:132", after := #[{ on := 0, ground := Ground.data }, { on := 1, ground := Ground.data }, { on := 2, ground := Ground.data }, { on := 3, ground := Ground.data }, { on := 3, ground := Ground.chain }], guard := none }) (by kernel_rfl) rfl (fun K hK => ?_)
            go_simp
            (go_at_call 84; (with_reducible refine (HWR.out sw (.slice ra rn rc) srows _ (below_tr V7.out Q9.out) (below_tr W7.out Q9.out) (HI.out.below Q9.out) HT2.out _ _ _ _ _ _ (h8.below hb9) h9).mono ?_); rintro e w10 ⟨r10, rfl, h10, hb10⟩; obtain ⟨ya, yn, yc, rfl⟩ := h10.rows.shape)
            refine hK.out _ _ ?s4 (fun hHeld => ?_)
            case s4 => (try dsimp only); exact eight (HO.out.below (below_tr Q9.out hb10)) (HQ.out.below (below_tr Q9.out hb10))
            clear hK K
            try simp only [Act.put, List.setIfInBounds_toArray, List.set_cons_zero, List.set_cons_succ]
            have Q10 := below_tr Q9.out hb10
            have HO' := HO.out.below Q10
            have lg : w6.heap.size < w9.heap.size := (HO.out.below Q9.out).lt
            have rf : ∀ q, w10.frozen? ⟨w6.heap.size, q, none⟩ = false := fun q => Joins.unfrozen_of_block HO' q
            obtain ⟨q0, q1, q2, q3, q4⟩ := four_cells HO'
            have WS : Hid (Way w (sma.set4 w10 w6.heap.size (.int .i64 2) (.int .i64 2) (.int .i64 (sw * wh)) (.slice ya yn yc)) w6.heap.size wh va vn vc (.slice ya yn yc) (fold P0 (List.replicate (k + 1) ⟨2, 2, wh, xss⟩)) ∧ Below w2.heap.size w2 (sma.set4 w10 w6.heap.size (.int .i64 2) (.int .i64 2) (.int .i64 (sw * wh)) (.slice ya yn yc))) := Lib.hid (by
              have hz := HZ2.out
              have hl6 := HL6.out
              have hgg := HG.out
              have hw := sma.set4_wrote w10 w6.heap.size (.int .i64 2) (.int .i64 2) (.int .i64 (sw * wh)) (.slice ya yn yc)
              have e2 : Below w2.heap.size w2 (sma.set4 w10 w6.heap.size (.int .i64 2) (.int .i64 2) (.int .i64 (sw * wh)) (.slice ya yn yc)) := by
                unfold sma.set4
                exact Below.setCell (Below.setCell (Below.setCell (Below.setCell (below_tr W7.out Q10) hl6 _) hl6 _) hl6 _) hl6 _
              have ht : total (fold P0 (List.replicate (k + 1) ⟨2, 2, wh, xss⟩)).rows ≤ 1048576 := tot_fold _ rps.tot_P0 _
              rw [HS1.out] at ht ⊢
              refine ⟨⟨below_tr BB.out e2, (HQ.out.below Q10).wrote hw (fun p hp e => by have e1 : p.block = w6.heap.size := hp; omega), (HR.out.below Q10).wrote hw (fun p hp e => by have e1 : p.block = w6.heap.size := hp; omega), sma.set4_same _ _ _ _ HO', ?_, ht, hgg⟩, e2⟩
              intro W' hW'
              refine (h10.low (Wrote.trans (hw.mono (fun p hp => by have e1 : p.block = w6.heap.size := hp; show p.block < _; omega)) (hW'.mono (fun p hp => by have e1 : p.block < w.heap.size + 1 + 1 := hp; show p.block < _; omega)))).rows)
            have HWS : Hid (((((w10.setCell ⟨w6.heap.size, 0, none⟩ (.int .i64 2)).setCell ⟨w6.heap.size, 1, none⟩ (.int .i64 2)).setCell ⟨w6.heap.size, 2, none⟩ (.int .i64 (sw * wh))).setCell ⟨w6.heap.size, 3, none⟩ (.slice ya yn yc)) = sma.set4 w10 w6.heap.size (.int .i64 2) (.int .i64 2) (.int .i64 (sw * wh)) (.slice ya yn yc)) := Lib.hid rfl
            clear h8 h9 h10 hb8 hb9 hb10 Q10 HO' hHeld
            refine last.final (o := { dst := none, op := Op.store 48 (Operand.tmp 6) (Operand.tmp 33), type := 0, pos := "l10_wirings.go:132", after := #[{ on := 4, ground := Ground.data }, { on := 4, ground := Ground.chain }, { on := 0, ground := Ground.phase }, { on := 1, ground := Ground.phase }, { on := 2, ground := Ground.phase }, { on := 3, ground := Ground.phase }, { on := 4, ground := Ground.phase }], guard := none }) (by kernel_rfl) rfl (fun K hK => ?_)
            go_simp
            refine hK.out _ _ ?_
            clear hK K
            try simp only [Act.put, List.setIfInBounds_toArray, List.set_cons_zero, List.set_cons_succ]
            refine last.done (by kernel_rfl) ?_ _
            go_wp2_with fail
            go_roundw
            case rel => exact ⟨k + 1, by omega, by omega, by go_num, _, ya, yn, yc, Lib.hid rfl, Lib.hid (congrArg make.Res.ok HS1.out), WS⟩
            case measure => simp [intOf]; omega
          · rw [ok2B_no g2] at CB
            have HB := Lib.hid CB
            have HZR : Hid (rps.res (m : Int) ⟨2, 2, wh, xss⟩ = make.Res.zero) := Lib.hid (by
              rw [HE.out, show ((m : Int)).toNat = m from by omega]
              refine fold_stop hlt ?_
              rw [← hst.out]
              exact wrm.res_no (fun h => g2 ⟨h.1.1, h.2⟩))
            clear CB g2 hst
            go_wp2_with fail
            refine HB.out.mono ?_
            rintro e w7 ⟨rfl, hb⟩
            have V7 := Lib.hid (below_tr hW.out.1.below hb)
            have R9 := Lib.hid (hW.out.1.res.below hb)
            clear hb hW HB c0 c1 c2 c3 c4 d0 d1 d2 d3 d4
            obtain ⟨r0, r1, r2, r3, r4⟩ := four_cells R9.out
            have rf : ∀ q, w7.frozen? ⟨w.heap.size + 1, q, none⟩ = false := fun q => Joins.unfrozen_of_block R9.out q
            go_wp2_with fail
            refine bodyPost_ret (v := .tuple #[.agg #[.int .i64 0, .int .i64 0, .int .i64 0, .slice none 0 0], .bool false]) (by simp [results, Try.results43, go_sem, r0, r1, r2, r3]) rfl ?_
            rw [HZR.out]
            refine ⟨_, rfl, st3.Lo.nil _ _, ?_⟩
            repeat (first | (with_reducible exact V7.out) | (with_reducible refine Below.setCell ?_ (by simp) _))
        · have hkz : ¬ (k : Int) < (m : Int) := by omega
          obtain rfl : k = m := by omega
          have HRE : Hid (rps.res (k : Int) ⟨2, 2, wh, xss⟩ = st) := Lib.hid (by rw [HE.out, show ((k : Int)).toNat = k from by omega]; exact hst.out.symm)
          have HOK : Hid (st.ok = true) := hok
          obtain ⟨c0, c1, c2, c3, c4⟩ := four_cells hW.out.1.out
          obtain ⟨r0, r1, r2, r3, r4⟩ := four_cells hW.out.1.res
          have rf : ∀ q, wo.frozen? ⟨w.heap.size + 1, q, none⟩ = false := fun q => Joins.unfrozen_of_block hW.out.1.res q
          have HW := hW
          clear hst hW
          go_wp2_with fail
          refine bodyPost_ret (v := .tuple #[.agg #[.int .i64 st.x, .int .i64 st.y, .int .i64 st.wh, .slice ra rn rc], .bool true]) (by simp [results, Try.results43, go_sem, r0, r1, r2, r3]) rfl ?_
          rw [HRE.out, HOK.out]
          refine ⟨_, rfl, (HW.out.1.rows.low ?_).mono (by omega), ?_⟩
          · repeat (first | (with_reducible exact Wrote.refl _ _) | refine Wrote.setCell ?_ (by simp) _)
          · repeat (first | (with_reducible exact HW.out.1.below) | (with_reducible refine Below.setCell ?_ (by simp) _))
    · have HE := Lib.hid (rps.res_no (b := ⟨x, y, wh, xss⟩) h1)
      go_enter Try.func43, Try.ntmps43
      obtain ⟨c0, c1, c2, c3, c4⟩ := four_cells HP1.out
      go_wp2_with fail
      clear hw2
      refine HA.out.mono ?_
      rintro e w4 ⟨rfl, hb⟩
      have BW := Lib.hid (below_tr BB.out hb)
      have R9 := Lib.hid (HP2.out.below hb)
      clear hb c0 c1 c2 c3 c4
      obtain ⟨r0, r1, r2, r3, r4⟩ := four_cells R9.out
      have rf : ∀ q, w4.frozen? ⟨w.heap.size + 1, q, none⟩ = false := fun q => Joins.unfrozen_of_block R9.out q
      go_wp2_with fail
      refine (val.in_no n 1 9 _ (by omega)).mono ?_
      rintro e w5 ⟨rfl, rfl⟩
      go_wp2_with fail
      refine bodyPost_ret (v := .tuple #[.agg #[.int .i64 0, .int .i64 0, .int .i64 0, .slice none 0 0], .bool false]) (by simp [results, Try.results43, go_sem, r0, r1, r2, r3]) rfl ?_
      rw [HE.out]
      refine ⟨_, rfl, st3.Lo.nil _ _, ?_⟩
      repeat (first | (with_reducible exact BW.out) | (with_reducible refine Below.setCell ?_ (by simp) _))
  · rw [twoB_no g1] at CA
    have HA := Lib.hid CA
    have HE := Lib.hid (res_bad (n := n) (b := ⟨x, y, wh, xss⟩) g1)
    clear CA g1
    go_enter Try.func43, Try.ntmps43
    obtain ⟨c0, c1, c2, c3, c4⟩ := four_cells HP1.out
    go_wp2_with fail
    clear hw2
    refine HA.out.mono ?_
    rintro e w4 ⟨rfl, hb⟩
    have BW := Lib.hid (below_tr BB.out hb)
    have R9 := Lib.hid (HP2.out.below hb)
    clear hb c0 c1 c2 c3 c4
    obtain ⟨r0, r1, r2, r3, r4⟩ := four_cells R9.out
    have rf : ∀ q, w4.frozen? ⟨w.heap.size + 1, q, none⟩ = false := fun q => Joins.unfrozen_of_block R9.out q
    go_wp2_with fail
    refine bodyPost_ret (v := .tuple #[.agg #[.int .i64 0, .int .i64 0, .int .i64 0, .slice none 0 0], .bool false]) (by simp [results, Try.results43, go_sem, r0, r1, r2, r3]) rfl ?_
    rw [HE.out]
    refine ⟨_, rfl, st3.Lo.nil _ _, ?_⟩
    repeat (first | (with_reducible exact BW.out) | (with_reducible refine Below.setCell ?_ (by simp) _))
theorem spec_any (x y wh : Int) (v : Value) (xss : List (List Int)) (n : Int) (w : World) (h : IRows w v xss) (hn : total xss ≤ 1048576) :
    Calls Try.prog 43 #[.agg #[.int .i64 x, .int .i64 y, .int .i64 wh, v], .int .i64 n] w fun e w' => ∃ r, e = .returned (.tuple #[.agg #[.int .i64 (rps.res n ⟨x, y, wh, xss⟩).x, .int .i64 (rps.res n ⟨x, y, wh, xss⟩).y, .int .i64 (rps.res n ⟨x, y, wh, xss⟩).wh, r], .bool (rps.res n ⟨x, y, wh, xss⟩).ok]) ∧ IRows w' r (rps.res n ⟨x, y, wh, xss⟩).rows ∧ Below w.heap.size w w' :=
  (spec_low x y wh v xss n w h hn).mono fun _ _ ⟨r, he, hl, hb⟩ => ⟨r, he, hl.rows, hb⟩


end Go.Proofs.Ytneonebgneonkaa.rpm
