/- AddThird of the model. -/
import Derived.Test.YtomofmmecpdalabTat
import Derived.Test.YtomofmmecpdalabTbl
namespace Go.Proofs.Ytomofmmecpdalab.tas
open Go.RowKit Go.Deep Go.Proofs.Ytomofmmecpdalab.base
open Go.Proofs.Ytomofmmecpdalab.ints (infoInt infoInts)
open Go.Proofs.Ytomofmmecpdalab.rws (total)
open Go.Proofs.Ytomofmmecpdalab.tri (two_cells)
open Go.Proofs.Ytomofmmecpdalab.grd
open Go.Proofs.Ytomofmmecpdalab.tvk (Res)
open Go.Proofs.Ytomofmmecpdalab.row (nn nn_bd nn_get)
open Go.Proofs.Ytomofmmecpdalab.val (okBox in_yes in_no)
open Go.Proofs.Ytomofmmecpdalab.two (two twoB twoB_yes twoB_no l6two)
open Go.Proofs.Ytomofmmecpdalab.play (within)
open Go.Proofs.Ytomofmmecpdalab.trv (okTrio)
open Go.Proofs.Ytomofmmecpdalab.tat

theorem formsB {w : World} {v : Value} {x y wh : Int} {xss : List (List Int)} (h : IRows w v xss) (hs : two x y wh xss) :
    ∃ (b o cap : Nat) (rb ro rc : Nat → Nat), v = .slice (some ⟨b, o, none⟩) 4 cap ∧ (∀ q, q < 4 → w.cell? ⟨b, o + q, none⟩ = some (.slice (some ⟨rb q, ro q, none⟩) 4 (rc q))) ∧
      ∀ q, q < 4 → ∀ k, k < 4 → w.cell? ⟨rb q, ro q + k, none⟩ = some (.int .i64 (nn xss q k)) := by
  obtain ⟨A, b, o, cap, R, rfl, hcap, hmax, hA, hc⟩ := h.form
  have hl := len4 hs
  obtain rfl := hA (by omega)
  have key : ∀ q : Nat, ∃ (x y z : Nat), q < 4 → (R q = .slice (some ⟨x, y, none⟩) 4 z ∧ ∀ k, k < 4 → w.cell? ⟨x, y + k, none⟩ = some (.int .i64 (nn xss q k))) := by
    intro q
    by_cases hq : q < 4
    · have hql : q < xss.length := by omega
      obtain ⟨_, hi⟩ := hc q hql
      have hl4 : xss[q].length = 4 := (hs.1.2.2.2 q hql).1
      obtain ⟨A', b', o', cap', e, _, _, hA', hc'⟩ := hi.form
      obtain rfl := hA' (by omega)
      refine ⟨b', o', cap', fun _ => ⟨by rw [e, hl4], fun k hk => ?_⟩⟩
      have hkl : k < xss[q].length := by rw [hl4]; exact hk
      have := hc' k hkl
      rw [this]
      unfold nn
      rw [trn.getD_at hql, trn.getD_at hkl]
    · exact ⟨0, 0, 0, fun h => absurd h hq⟩
  refine ⟨b, o, cap, fun q => (key q).choose, fun q => (key q).choose_spec.choose, fun q => (key q).choose_spec.choose_spec.choose, by rw [hl], fun q hq => ?_, fun q hq k hk => ?_⟩
  · have h1 := (hc q (by omega)).1
    have h2 := ((key q).choose_spec.choose_spec.choose_spec hq).1
    rw [h1, h2]
  · exact ((key q).choose_spec.choose_spec.choose_spec hq).2 k hk
theorem and1 {q : Nat} (hq : q < 8) : bits BinOp.and IntKind.i64 (q : Int) 1 = ((q % 2 : Nat) : Int) := by
  have h : q = 0 ∨ q = 1 ∨ q = 2 ∨ q = 3 ∨ q = 4 ∨ q = 5 ∨ q = 6 ∨ q = 7 := by omega
  rcases h with rfl | rfl | rfl | rfl | rfl | rfl | rfl | rfl <;> rfl
def DA (xss : List (List Int)) (cs : List Int) (most : Int) (q : Nat) : List Int := (List.range 8).map fun k => NA xss cs most q k
theorem da_take (xss : List (List Int)) (cs : List Int) (most : Int) {q c : Nat} (hc : c < 8) : (DA xss cs most q).take (c + 1) = (DA xss cs most q).take c ++ [NA xss cs most q c] := by
  have hl : c < (DA xss cs most q).length := by simp [DA]; omega
  rw [List.take_succ_eq_append_getElem hl]
  simp [DA]
theorem len_da (xss : List (List Int)) (cs : List Int) (most : Int) (q : Nat) : (DA xss cs most q).length = 8 := by simp [DA]

set_option maxRecDepth 100000 in
set_option maxHeartbeats 8000000 in
theorem spec_any (x y wh : Int) (v : Value) (xss : List (List Int)) (vc : Value) (cs : List Int) (most : Int) (w : World) (h : IRows w v xss) (hc : Ints w vc cs) (hn : total xss ≤ 1048576) :
    Calls Try.prog 6 #[.agg #[.int .i64 x, .int .i64 y, .int .i64 wh, v], vc, .int .i64 most] w fun e w' => ∃ u, e = .returned (.tuple #[.agg #[.int .i64 (res x y wh xss cs most).wh, u], .bool (res x y wh xss cs most).ok]) ∧ IRows w' u (res x y wh xss cs most).rows ∧ Below w.heap.size w w' := by
  obtain ⟨i0, hi, hz0, hz1, hz2⟩ := info_parts infoInt
  obtain ⟨s0, si, sz0, sz1, sz2⟩ := info_parts infoInts
  have HX := Lib.hid h
  obtain ⟨va, vn, vcc, rfl⟩ := h.shape
  obtain ⟨A2, b2, o2, cap2, rfl, _, _, hA2, hc2⟩ := hc.form
  obtain ⟨W0, hW0⟩ : ∃ W, W = (w.alloc (.cells #[.int .i64 x, .int .i64 y, .int .i64 wh, .slice va vn vcc] 31)).alloc (.cells #[.int .i64 0, .slice none 0 0] 28) := ⟨_, rfl⟩
  have Kb : Hid (Blk W0 w.heap.size 31 #[.int .i64 x, .int .i64 y, .int .i64 wh, .slice va vn vcc]) := Lib.hid (by rw [hW0]; exact (Blk.new _ _ _).alloc _)
  have Kr : Hid (Blk W0 (w.heap.size + 1) 28 #[.int .i64 0, .slice none 0 0]) := Lib.hid (by
    rw [hW0]
    have := Blk.new (w.alloc (.cells #[.int .i64 x, .int .i64 y, .int .i64 wh, .slice va vn vcc] 31)) 28 #[.int .i64 0, .slice none 0 0]
    simpa using this)
  have B0 : Hid (Below w.heap.size w W0) := Lib.hid (by rw [hW0]; exact below_al (below_al (Below.refl _ _) _) _)
  have HT := l6two x y wh _ xss W0 (h.below B0.out) hn
  obtain ⟨a0, a1, a2, a3, _⟩ := four_cells Kb.out
  rw [hW0] at a0 a1 a2 a3
  clear h hc
  by_cases h2 : two x y wh xss
  · rw [twoB_yes h2] at HT
    have HT' := Lib.hid HT
    clear HT
    by_cases hm : 1 ≤ most ∧ most ≤ 1000
    · have HM := Lib.hid (fun W => in_yes most 1 1000 W hm.1 hm.2)
      by_cases hl : cs.length = 2
      · have dl : ((cs.length : Int) != 2) = false := by simp; omega
        obtain rfl := hA2 (by omega)
        have y0 := hc2 0 (by omega)
        have y1 := hc2 1 (by omega)
        have e0 : cs[0]'(by omega) = cs.getD 0 0 := by rw [trn.getD_at (by omega)]
        have e1 : cs[1]'(by omega) = cs.getD 1 0 := by rw [trn.getD_at (by omega)]
        rw [e0] at y0
        rw [e1] at y1
        simp only [Nat.add_zero] at y0
        rw [hl]
        have Y := Lib.hid (And.intro y0 y1)
        clear hA2 hc2 e0 e1 y0 y1
        by_cases hc0 : 0 ≤ cs.getD 0 0 ∧ cs.getD 0 0 ≤ most
        · have H0 := Lib.hid (fun W => in_yes (cs.getD 0 0) 0 most W hc0.1 hc0.2)
          by_cases hc1 : 0 ≤ cs.getD 1 0 ∧ cs.getD 1 0 ≤ most
          · have H1 := Lib.hid (fun W => in_yes (cs.getD 1 0) 0 most W hc1.1 hc1.2)
            have HOK := Lib.hid (show good x y wh xss cs most from ⟨h2, hm, by rw [hl]; rfl, fun k hk => by
              obtain rfl | rfl : k = 0 ∨ k = 1 := by omega
              · have := hc0; rw [trn.getD_at hk] at this; exact this
              · have := hc1; rw [trn.getD_at hk] at this; exact this⟩)
            have hwz := wm_wrap HOK.out
            have HCS := Lib.hid (And.intro hc0 hc1)
            have HMM := Lib.hid hm
            have HCH := Lib.hid (fun (i : Nat) (hi2 : i < 2) => (show w.cell? ⟨b2, o2 + i, none⟩ = some (.int .i64 (cs.getD i 0)) from by
              obtain rfl | rfl : i = 0 ∨ i = 1 := by omega
              · exact Y.out.1
              · exact Y.out.2))
            clear hc0 hc1 hm hl
            obtain ⟨wb, hwb⟩ : ∃ wb, wb = w.alloc (.cells #[.int .i64 x, .int .i64 y, .int .i64 wh, .slice va vn vcc] 31) := ⟨_, rfl⟩
            have HZB : Hid (wb.heap.size = w.heap.size + 1) := Lib.hid (by rw [hwb]; simp)
            have BWB : Hid (Below w.heap.size w wb) := Lib.hid (by rw [hwb]; exact below_al (Below.refl _ _) _)
            have KBB : Hid (Blk wb w.heap.size 31 #[.int .i64 x, .int .i64 y, .int .i64 wh, .slice va vn vcc]) := Lib.hid (by rw [hwb]; exact Blk.new _ _ _)
            have EB0 : Hid (Below wb.heap.size wb W0) := Lib.hid (by rw [hW0, hwb]; exact below_al (Below.refl _ _) _)
            clear hwb
            obtain ⟨b, o, cap, rb, ro, rc, hv, g1, g2⟩ := formsB HX.out h2
            injection hv with hv1 hv2 hv3
            subst hv1 hv2 hv3
            have HG := Lib.hid (And.intro g1 g2)
            clear g1 g2 h2
            have z0 := Lib.hid (fun (W : World) (hW : Below w.heap.size w W) => below_cell hW _ _ Y.out.1)
            have z1 := Lib.hid (fun (W : World) (hW : Below w.heap.size w W) => below_cell hW _ _ Y.out.2)
            go_enter Try.func6, Try.ntmps6
            go_wp2_with fail
            rw [← hW0]
            clear hW0 a0 a1 a2 a3
            refine HT'.out.mono ?_
            rintro e w1 ⟨rfl, hb⟩
            have K1 := Lib.hid (Kr.out.below hb)
            have E1 := Lib.hid hb
            have B1 := Lib.hid (below_tr B0.out hb)
            clear hb HT'
            have EB := Lib.hid (below_tr EB0.out E1.out)
            have y0 := z0.out w1 B1.out
            have y1 := z1.out w1 B1.out
            go_wp2_with fail
            refine (HM.out _).mono ?_
            rintro e w' ⟨rfl, rfl⟩
            go_wp2_with fail
            refine (H0.out _).mono ?_
            rintro e w' ⟨rfl, rfl⟩
            go_wp2_with fail
            refine (H1.out _).mono ?_
            rintro e w' ⟨rfl, rfl⟩
            obtain ⟨a0, a1, a2, a3, _⟩ := four_cells (Kb.out.below E1.out)
            go_wp2_with fail
            have WL0 : Hid (tbl.Built wb ((w1.alloc (.cells #[] 25)).alloc (.cells #[.int .i64 (wh * most), .slice (some ⟨w1.heap.size, 0, none⟩) 0 0] 28)) w1.heap.size (w1.heap.size + 1) (w.heap.size + 1) (wh * most) 0 ((w1.alloc (.cells #[] 25)).alloc (.cells #[.int .i64 (wh * most), .slice (some ⟨w1.heap.size, 0, none⟩) 0 0] 28)).heap.size (.slice (some ⟨w1.heap.size, 0, none⟩) 0 0) [] (DA xss cs most)) := Lib.hid (by
              have hzb := HZB.out
              have hs1 := EB.out.size
              have hk1 := K1.out.lt
              refine ⟨below_al (below_al EB.out _) _, hs1, ⟨by omega, by omega⟩, ?_, (K1.out.alloc _).alloc _, ?_, fun r u hu => by simp at hu, by simp; omega, Nat.le_refl _⟩
              · have := Blk.new (w1.alloc (.cells #[] 25)) 28 #[.int .i64 (wh * most), .slice (some ⟨w1.heap.size, 0, none⟩) 0 0]
                simpa using this
              · have := World.ownsRow_made (base := w1.heap.size) (e := 25) (size := 1) w1 #[] 0 (Nat.le_refl _) (Nat.zero_le _) rfl
                exact this.alloc (.cells #[.int .i64 (wh * most), .slice (some ⟨w1.heap.size, 0, none⟩) 0 0] 28))
            have HS1 : Hid (w.heap.size + 1 < w1.heap.size) := Lib.hid K1.out.lt
            clear a0 a1 a2 a3 y0 y1 K1 E1 B1 EB
            generalize ((w1.alloc (.cells #[] 25)).alloc (.cells #[.int .i64 (wh * most), .slice (some ⟨w1.heap.size, 0, none⟩) 0 0] 28)) = WL at *
            generalize w1.heap.size = w1s at *
            go_loopw [9] (fun i wr => ∃ q : Nat, q ≤ 8 ∧ i = .int .i64 q ∧ ∃ v vals m, Hid (tbl.Built wb wr w1s (w1s + 1) (w.heap.size + 1) (wh * most) q m v vals (DA xss cs most))) (fun i _ => 8 - (intOf i).toNat)
            case atStart => exact ⟨0, Nat.zero_le _, rfl, _, _, _, WL0⟩
            case round =>
              obtain ⟨q, hq, rfl, v, vals, m, hW⟩ := hrel
              clear WL0
              obtain ⟨wo, rfl⟩ : ∃ wo : World, wo = wr := ⟨_, rfl⟩
              by_cases hlt : q < 8
              · have hqz : (q : Int) < 8 := by omega
                have W1 := Lib.hid (hW.out.fresh.keep (below_al (Below.refl _ _) (.cells #[] 3)))
                have hq0 : Hid ((wo.alloc (.cells #[] 3)).ownsRow wo.heap.size 3 1 (.slice (some ⟨wo.heap.size, 0, none⟩) 0 0) 0 (i64s ((DA xss cs most q).take 0))) := Lib.hid (by
                  have := World.ownsRow_made (base := wo.heap.size) (e := 3) (size := 1) wo #[] 0 (by simp) (Nat.zero_le _) rfl
                  simpa [i64s] using this)
                have HMB : Hid (w1s ≤ wo.heap.size) := Lib.hid (by have := hW.out.blk.lt; omega)
                go_wp2_with fail
                generalize (wo.alloc (.cells #[] 3)) = W2 at *
                generalize wo.heap.size = mm at *
                go_loopw [10, 11] (fun u j wi => ∃ c : Nat, c ≤ 8 ∧ j = .int .i64 c ∧ Hid (wi.ownsRow mm 3 1 u c (i64s ((DA xss cs most q).take c))) ∧ Hid (tbl.Built wb wi w1s (w1s + 1) (w.heap.size + 1) (wh * most) q mm v vals (DA xss cs most))) (fun _ j _ => 8 - (intOf j).toNat)
                case atStart => exact ⟨0, by omega, rfl, hq0, W1⟩
                case round =>
                  obtain ⟨c, hc, rfl, hQ, hW1⟩ := hrel
                  clear W1 hq0 hW
                  obtain ⟨wj, rfl⟩ : ∃ wo : World, wo = wr := ⟨_, rfl⟩
                  by_cases hlc : c < 8
                  · have hcz : (c : Int) < 8 := by omega
                    have BW := below_tr BWB.out hW1.out.below
                    obtain ⟨_, _, _, p3, _⟩ := four_cells (KBB.out.below hW1.out.below)
                    obtain ⟨qh, hqh⟩ : ∃ n, n = q / 2 := ⟨_, rfl⟩
                    obtain ⟨qm, hqm⟩ : ∃ n, n = q % 2 := ⟨_, rfl⟩
                    obtain ⟨ck, hck⟩ : ∃ n, n = c / 2 := ⟨_, rfl⟩
                    have x1 := below_cell BW _ _ (HG.out.1 qh (by omega))
                    have x2 := below_cell BW _ _ (HG.out.2 qh (by omega) ck (by omega))
                    have xc := below_cell BW _ _ (HCH.out qm (by omega))
                    have hb1 : bits BinOp.and IntKind.i64 (q : Int) 1 = (qm : Int) := by rw [hqm]; exact and1 hlt
                    have hs1 : (q : Int) / 2 = (qh : Int) := by omega
                    have hs2 : (c : Int) / 2 = (ck : Int) := by omega
                    have hl1 : (qh : Int) < 4 := by omega
                    have hl2 : (ck : Int) < 4 := by omega
                    have hl3 : (qm : Int) < 2 := by omega
                    obtain ⟨k1, k2, _⟩ := cs_in HOK.out.2.2 (show qm < 2 by omega)
                    have hmm := HMM.out
                    have hws : IntKind.i64.wrap (most - cs.getD qm 0) = most - cs.getD qm 0 := IntWalk.i64_in _ (by omega)
                    have hw := na_wrap HOK.out hlt hlc
                    rw [← hqh, ← hck, ← hqm] at hw
                    have HDT := Lib.hid (da_take xss cs most (q := q) hlc)
                    have hsz := hW1.out.below.size
                    have hszm := hW1.out.le
                    obtain ⟨qa, ql, qc, rfl⟩ := make.shape hQ.out
                    by_cases hcm : c % 2 = 1
                    all_goals
                      have hb2 := and1 hlc
                      first
                        | have hth : th cs most qm (c % 2) = cs.getD qm 0 := by simp [th, hcm]
                          rw [hcm] at hb2
                        | have hc0 : c % 2 = 0 := by omega
                          have hth : th cs most qm (c % 2) = most - cs.getD qm 0 := by simp [th, hc0]
                          rw [hc0] at hb2
                      rw [hth] at hw
                      generalize NA xss cs most q c = nm at *
                      generalize cs.getD qm 0 = cq at *
                      clear hth hqh hqm hck k1 k2 BW hcm
                      go_wp2_with (at_builtin; go_must (refine wpList_append_own _ rfl (.tmp 73) (.tmp 86) 25 rfl mm 3 i0 (.int .i64 0) 1 8 Try.underlying25 hi hz0 hz1 hz2 rfl (by decide) _ _ _ rfl (hQ.out.alloc _) ⟨wj.heap.size, 0, none⟩ 1 1 [.int .i64 nm] rfl rfl ?c1 ?c2 ?c3 ?c4 ?c5 ?_))
                      try (case c1 => exact app.one_at _ _ _)
                      case c2 => first | rfl | (intro u hu; simp at hu; subst hu; rfl)
                      case c3 => unfold maxLen; omega
                      case c4 => omega
                      try (case c5 => first | omega | (simp; omega))
                      intro v' w3 hown' hgrow _
                      have W3 := Lib.hid ((hW1.out.keep (below_al (Below.refl _ _) (.cells #[.int .i64 nm] 3))).inner (hQ.out.alloc _) hgrow)
                      have Q3 : Hid (w3.ownsRow mm 3 1 v' (c + 1) (i64s ((DA xss cs most q).take (c + 1)))) := Lib.hid (by rw [HDT.out, ← app.i64s_snoc]; exact hown')
                      clear hown' hgrow hQ hW1 x1 x2 xc p3
                      go_wp2_with fail
                      go_roundw
                      case rel => exact ⟨c + 1, by omega, by go_num, Q3, W3⟩
                      case measure => simp [intOf]; omega
                  · have hcz : ¬ (c : Int) < 8 := by omega
                    obtain rfl : c = 8 := by omega
                    obtain ⟨qa, ql, qc, rfl⟩ := make.shape hQ.out
                    have Q4 : Hid (wj.ownsRow mm 3 1 (.slice qa ql qc) (DA xss cs most q).length (i64s (DA xss cs most q))) := Lib.hid (by
                      have := hQ.out
                      rw [List.take_of_length_le (by rw [len_da]; omega)] at this
                      rw [len_da]; exact this)
                    obtain ⟨f0, f1, fl⟩ := two_cells hW1.out.blk
                    have f1' := fun (o1 : Obj) => below_cell (below_al (Below.refl _ _) o1) _ _ f1
                    have hsz := hW1.out.below.size
                    have hszm := hW1.out.le
                    have hge := hW1.out.ge
                    have hbz := hW1.out.blk.lt
                    clear hQ
                    go_wp2_with (at_builtin; go_must (refine wpList_append_own _ rfl (.tmp 89) (.tmp 91) 22 rfl w1s 25 s0 (.slice none 0 0) 1 24 Try.underlying22 si sz0 sz1 sz2 rfl (by decide) _ _ _ rfl ((hW1.out.owns).alloc _) ⟨wj.heap.size, 0, none⟩ 1 1 [.slice qa ql qc] rfl rfl ?d1x0 ?d2x0 ?d3x0 ?d4x0 ?d5x0 ?_))
                    try (case d1x0 => first | exact app.one_at _ _ _ | (have := app.one_at wj (.slice qa ql qc) 25; simpa using this))
                    case d2x0 => first | rfl | (intro u hu; simp at hu; subst hu; rfl) | simp
                    case d3x0 => unfold maxLen; omega
                    case d4x0 => omega
                    try (case d5x0 => first | omega | (simp; omega))
                    intro v' w3 hown' hgrow _
                    have HGR := Lib.hid (hW1.out.keep (below_al (Below.refl _ _) (.cells #[.slice qa ql qc] 25)))
                    obtain ⟨e1, e2⟩ := HGR.out.field hgrow
                    have W4 := Lib.hid (HGR.out.grow (Q4.out.alloc (.cells #[.slice qa ql qc] 25)) HMB.out hown' hgrow)
                    obtain ⟨xa, xl, xc, rfl⟩ := make.shape hown'
                    clear hown' hgrow hW1 HGR Q4 f0 f1 fl f1'
                    go_wp2_with fail
                    go_roundw
                    case rel => exact ⟨q + 1, by omega, by go_num, _, _, _, W4⟩
                    case measure => simp [intOf]; omega
              · have hqz : ¬ (q : Int) < 8 := by omega
                obtain rfl : q = 8 := by omega
                obtain ⟨xa, xl, xc, rfl⟩ := make.shape hW.out.owns
                obtain ⟨f0, f1, fl⟩ := two_cells hW.out.blk
                have HAP := Lib.hid (hW.out.apart (Wrote.refl _ _))
                have HRO := HAP.out.rows
                have HRR : (List.range 8).map (DA xss cs most) = rows8 (NA xss cs most) := rfl
                rw [HRR] at HRO
                have K1 := Lib.hid hW.out.res
                have BW := Lib.hid (below_tr BWB.out hW.out.below)
                by_cases hv : okTrio (wh * most) (rows8 (NA xss cs most))
                · have HV := Lib.hid (tvk.kept_yes (wh * most) _ _ wo HRO (tot_rows8 _) hv)
                  have HR := Lib.hid (res_yes ⟨HOK.out, hv⟩)
                  clear hv HRO hW HRR
                  go_wp2_with fail
                  refine HV.out.mono ?_
                  rintro e w4 ⟨rfl, hb⟩
                  have U2 := Lib.hid (HAP.out.below hb)
                  have K2 := Lib.hid (K1.out.below hb)
                  have B1 := Lib.hid (below_tr BW.out hb)
                  obtain ⟨r0, r1, rl⟩ := two_cells K2.out
                  have rf : ∀ k, w4.frozen? ⟨w.heap.size + 1, k, none⟩ = false := fun k => Joins.unfrozen_of_block K2.out k
                  clear hb HV HAP f0 f1 fl
                  go_wp2_with fail
                  refine bodyPost_ret (v := .tuple #[.agg #[.int .i64 (wh * most), .slice xa xl xc], .bool true]) (by simp [results, Try.results6, go_sem, r0, r1]) rfl ?_
                  rw [HR.out]
                  refine ⟨_, rfl, ?_, ?_⟩
                  · have hw : Wrote (fun p => p.block < w1s) w4 ((w4.setCell ⟨w.heap.size + 1, 0, none⟩ (.int .i64 (wh * most))).setCell ⟨w.heap.size + 1, 1, none⟩ (.slice xa xl xc)) := Wrote.setCell (S := fun p => p.block < w1s) (Wrote.setCell (S := fun p => p.block < w1s) (Wrote.refl _ _) HS1.out _) HS1.out _
                    exact (U2.out.low hw).rows
                  · exact Below.setCell (Below.setCell B1.out (show w.heap.size ≤ w.heap.size + 1 by omega) _) (show w.heap.size ≤ w.heap.size + 1 by omega) _
                · have HV := Lib.hid (tvk.kept_no (wh * most) _ _ wo HRO (tot_rows8 _) hv)
                  have HR := Lib.hid (res_no (x := x) (y := y) (wh := wh) (fun h => hv h.2))
                  clear hv HRO hW HRR
                  go_wp2_with fail
                  refine HV.out.mono ?_
                  rintro e w4 ⟨rfl, hb⟩
                  have K1 := Lib.hid (K1.out.below hb)
                  have B1 := Lib.hid (below_tr BW.out hb)
                  clear f0 f1 fl
                  obtain ⟨r0, r1, rl⟩ := two_cells K1.out
                  have rf : ∀ k, w4.frozen? ⟨w.heap.size + 1, k, none⟩ = false := fun k => Joins.unfrozen_of_block K1.out k
                  go_wp2_with fail
                  refine bodyPost_ret (v := .tuple #[.agg #[.int .i64 0, .slice none 0 0], .bool false]) (by simp [results, Try.results6, go_sem, r0, r1]) rfl ?_
                  rw [HR.out]
                  refine ⟨_, rfl, IRows.nil _, ?_⟩
                  exact Below.setCell (Below.setCell B1.out (show w.heap.size ≤ w.heap.size + 1 by omega) _) (show w.heap.size ≤ w.heap.size + 1 by omega) _
          · have H1 := Lib.hid (fun W => in_no (cs.getD 1 0) 0 most W (by omega))
            have HR := Lib.hid (res_no (x := x) (y := y) (wh := wh) (xss := xss) (fun h => hc1 (by have := cs_in h.1.2.2 (show 1 < 2 by omega); exact ⟨this.1, this.2.1⟩)))
            have z0 := Lib.hid (fun (W : World) (hW : Below w.heap.size w W) => below_cell hW _ _ Y.out.1)
            have z1 := Lib.hid (fun (W : World) (hW : Below w.heap.size w W) => below_cell hW _ _ Y.out.2)
            clear hc0 hc1 hm hl h2
            go_enter Try.func6, Try.ntmps6
            go_wp2_with fail
            rw [← hW0]
            clear hW0 a0 a1 a2 a3
            refine HT'.out.mono ?_
            rintro e w1 ⟨rfl, hb⟩
            have K1 := Lib.hid (Kr.out.below hb)
            have E1 := Lib.hid hb
            have B1 := Lib.hid (below_tr B0.out hb)
            clear hb HT'
            have y0 := z0.out w1 B1.out
            have y1 := z1.out w1 B1.out
            go_wp2_with fail
            refine (HM.out _).mono ?_
            rintro e w' ⟨rfl, rfl⟩
            go_wp2_with fail
            refine (H0.out _).mono ?_
            rintro e w' ⟨rfl, rfl⟩
            go_wp2_with fail
            refine (H1.out _).mono ?_
            rintro e w' ⟨rfl, rfl⟩
            obtain ⟨r0, r1, rl⟩ := two_cells K1.out
            have rf : ∀ k, w1.frozen? ⟨w.heap.size + 1, k, none⟩ = false := fun k => Joins.unfrozen_of_block K1.out k
            go_wp2_with fail
            refine bodyPost_ret (v := .tuple #[.agg #[.int .i64 0, .slice none 0 0], .bool false]) (by simp [results, Try.results6, go_sem, r0, r1]) rfl ?_
            rw [HR.out]
            refine ⟨_, rfl, IRows.nil _, ?_⟩
            exact Below.setCell (Below.setCell B1.out (show w.heap.size ≤ w.heap.size + 1 by omega) _) (show w.heap.size ≤ w.heap.size + 1 by omega) _
        · have H0 := Lib.hid (fun W => in_no (cs.getD 0 0) 0 most W (by omega))
          have HR := Lib.hid (res_no (x := x) (y := y) (wh := wh) (xss := xss) (fun h => hc0 (by have := cs_in h.1.2.2 (show 0 < 2 by omega); exact ⟨this.1, this.2.1⟩)))
          have z0 := Lib.hid (fun (W : World) (hW : Below w.heap.size w W) => below_cell hW _ _ Y.out.1)
          clear hc0 hm hl h2
          go_enter Try.func6, Try.ntmps6
          go_wp2_with fail
          rw [← hW0]
          clear hW0 a0 a1 a2 a3
          refine HT'.out.mono ?_
          rintro e w1 ⟨rfl, hb⟩
          have K1 := Lib.hid (Kr.out.below hb)
          have E1 := Lib.hid hb
          have B1 := Lib.hid (below_tr B0.out hb)
          clear hb HT'
          have y0 := z0.out w1 B1.out
          go_wp2_with fail
          refine (HM.out _).mono ?_
          rintro e w' ⟨rfl, rfl⟩
          go_wp2_with fail
          refine (H0.out _).mono ?_
          rintro e w' ⟨rfl, rfl⟩
          obtain ⟨r0, r1, rl⟩ := two_cells K1.out
          have rf : ∀ k, w1.frozen? ⟨w.heap.size + 1, k, none⟩ = false := fun k => Joins.unfrozen_of_block K1.out k
          go_wp2_with fail
          refine bodyPost_ret (v := .tuple #[.agg #[.int .i64 0, .slice none 0 0], .bool false]) (by simp [results, Try.results6, go_sem, r0, r1]) rfl ?_
          rw [HR.out]
          refine ⟨_, rfl, IRows.nil _, ?_⟩
          exact Below.setCell (Below.setCell B1.out (show w.heap.size ≤ w.heap.size + 1 by omega) _) (show w.heap.size ≤ w.heap.size + 1 by omega) _
      · have dl : ((cs.length : Int) != 2) = true := by simp; omega
        have HR := Lib.hid (res_no (x := x) (y := y) (wh := wh) (xss := xss) (cs := cs) (most := most) (fun h => hl (by have := h.1.2.2.1; omega)))
        clear hm hl h2 hA2 hc2
        go_enter Try.func6, Try.ntmps6
        go_wp2_with fail
        rw [← hW0]
        clear hW0 a0 a1 a2 a3
        refine HT'.out.mono ?_
        rintro e w1 ⟨rfl, hb⟩
        have K1 := Lib.hid (Kr.out.below hb)
        have E1 := Lib.hid hb
        have B1 := Lib.hid (below_tr B0.out hb)
        clear hb HT'
        go_wp2_with fail
        refine (HM.out _).mono ?_
        rintro e w' ⟨rfl, rfl⟩
        obtain ⟨r0, r1, rl⟩ := two_cells K1.out
        have rf : ∀ k, w1.frozen? ⟨w.heap.size + 1, k, none⟩ = false := fun k => Joins.unfrozen_of_block K1.out k
        go_wp2_with fail
        refine bodyPost_ret (v := .tuple #[.agg #[.int .i64 0, .slice none 0 0], .bool false]) (by simp [results, Try.results6, go_sem, r0, r1]) rfl ?_
        rw [HR.out]
        refine ⟨_, rfl, IRows.nil _, ?_⟩
        exact Below.setCell (Below.setCell B1.out (show w.heap.size ≤ w.heap.size + 1 by omega) _) (show w.heap.size ≤ w.heap.size + 1 by omega) _
    · have HM := Lib.hid (fun W => in_no most 1 1000 W (by omega))
      have HR := Lib.hid (res_no (x := x) (y := y) (wh := wh) (xss := xss) (cs := cs) (fun h => hm h.1.2.1))
      clear hm h2 hA2 hc2
      go_enter Try.func6, Try.ntmps6
      go_wp2_with fail
      rw [← hW0]
      clear hW0 a0 a1 a2 a3
      refine HT'.out.mono ?_
      rintro e w1 ⟨rfl, hb⟩
      have K1 := Lib.hid (Kr.out.below hb)
      have E1 := Lib.hid hb
      have B1 := Lib.hid (below_tr B0.out hb)
      clear hb HT'
      go_wp2_with fail
      refine (HM.out _).mono ?_
      rintro e w' ⟨rfl, rfl⟩
      obtain ⟨r0, r1, rl⟩ := two_cells K1.out
      have rf : ∀ k, w1.frozen? ⟨w.heap.size + 1, k, none⟩ = false := fun k => Joins.unfrozen_of_block K1.out k
      go_wp2_with fail
      refine bodyPost_ret (v := .tuple #[.agg #[.int .i64 0, .slice none 0 0], .bool false]) (by simp [results, Try.results6, go_sem, r0, r1]) rfl ?_
      rw [HR.out]
      refine ⟨_, rfl, IRows.nil _, ?_⟩
      exact Below.setCell (Below.setCell B1.out (show w.heap.size ≤ w.heap.size + 1 by omega) _) (show w.heap.size ≤ w.heap.size + 1 by omega) _
  · rw [twoB_no h2] at HT
    have HT' := Lib.hid HT
    have HR := Lib.hid (res_no (cs := cs) (most := most) (fun h => h2 h.1.1))
    clear HT h2 hA2 hc2
    go_enter Try.func6, Try.ntmps6
    go_wp2_with fail
    rw [← hW0]
    clear hW0 a0 a1 a2 a3
    refine HT'.out.mono ?_
    rintro e w1 ⟨rfl, hb⟩
    have K1 := Lib.hid (Kr.out.below hb)
    have E1 := Lib.hid hb
    have B1 := Lib.hid (below_tr B0.out hb)
    clear hb HT'
    obtain ⟨r0, r1, rl⟩ := two_cells K1.out
    have rf : ∀ k, w1.frozen? ⟨w.heap.size + 1, k, none⟩ = false := fun k => Joins.unfrozen_of_block K1.out k
    go_wp2_with fail
    refine bodyPost_ret (v := .tuple #[.agg #[.int .i64 0, .slice none 0 0], .bool false]) (by simp [results, Try.results6, go_sem, r0, r1]) rfl ?_
    rw [HR.out]
    refine ⟨_, rfl, IRows.nil _, ?_⟩
    exact Below.setCell (Below.setCell B1.out (show w.heap.size ≤ w.heap.size + 1 by omega) _) (show w.heap.size ≤ w.heap.size + 1 by omega) _

end Go.Proofs.Ytomofmmecpdalab.tas
