/- PlayOf of the model. -/
import Derived.Test.YtkajebhagkbcaaaPlof
import Derived.Test.YtkajebhagkbcaaaStep
import Derived.Deep.RegionHeld3
namespace Go.Proofs.Ytkajebhagkbcaaa.plof
open Go.RowKit Go.Deep Go.Proofs.Ytkajebhagkbcaaa.base
open Go.Proofs.Ytkajebhagkbcaaa.val (okSizes okBox boxB boxB_yes boxB_no)
open Go.Proofs.Ytkajebhagkbcaaa.ints (infoInt)
open Go.Proofs.Ytkajebhagkbcaaa.row (nn one)
open Go.Proofs.Ytkajebhagkbcaaa.rws (total)

theorem quo_w {n kk : Int} (h0 : 0 ≤ n) (h1 : n ≤ 1000) (k0 : 1 ≤ kk) : wrap64 (n.tdiv kk) = n / kk := by
  have a := Int.ediv_nonneg h0 (show 0 ≤ kk by omega)
  have b : n / kk ≤ n := Int.ediv_le_self kk h0
  rw [Int.tdiv_eq_ediv_of_nonneg h0]
  exact IntWalk.wrap64_in _ (by omega)

set_option maxRecDepth 100000 in
set_option maxHeartbeats 4000000 in
theorem spec_any (x y wh : Int) (v : Value) (xss : List (List Int)) (w : World) (h : IRows w v xss) (hn : total xss ≤ 1048576) :
    Calls Try.prog 41 #[.agg #[.int .i64 x, .int .i64 y, .int .i64 wh, v]] w fun e w' => ∃ u, e = .returned (.tuple #[u, .bool (res x y wh xss).2]) ∧ Ints w' u (res x y wh xss).1 ∧ Below w.heap.size w w' := by
  obtain ⟨i0, hi, hz0, hz1, hz2⟩ := info_parts infoInt
  have HV0 := Lib.hid h
  obtain ⟨va, vn, vc, rfl⟩ := h.shape
  clear h
  have B0 := Lib.hid (below_al (Below.refl w.heap.size w) (.cells #[.int .i64 x, .int .i64 y, .int .i64 wh, .slice va vn vc] 24))
  have CP := Lib.hid (val.spec_any x y wh _ xss _ (HV0.out.below B0.out) hn)
  by_cases hs : okBox x y wh xss
  · have EB := Lib.hid (boxB_yes hs)
    obtain ⟨X, rfl⟩ : ∃ X : Nat, x = X := ⟨x.toNat, by have := hs.1.1; omega⟩
    obtain ⟨Y, rfl⟩ : ∃ Y : Nat, y = Y := ⟨y.toNat, by have := hs.1.2; omega⟩
    have hX1 : 0 < X := by have := hs.1.1; omega
    have hX2 : X ≤ 3 := by have := hs.1.1; omega
    have hY1 : 0 < Y := by have := hs.1.2; omega
    have hY2 : Y ≤ 3 := by have := hs.1.2; omega
    have HNB := Lib.hid (⟨hX1, hX2, hY1, hY2⟩ : 0 < X ∧ X ≤ 3 ∧ 0 < Y ∧ Y ≤ 3)
    have HS := Lib.hid hs
    have HW1 := Lib.hid hs.2.1
    have HLN : Hid (xss.length = X * Y) := Lib.hid (by have := hs.2.2.1; rw [← Int.natCast_mul] at this; omega)
    have HCB := Lib.hid (fun k (hk : k < X + Y) => (⟨(cn_bd hs hk).1, Int.le_trans (cn_bd hs hk).2 hs.2.1.2⟩ : 0 ≤ cn xss X Y k ∧ cn xss X Y k ≤ 1000))
    have HPO : Hid (okBox X Y 1 (make.rowsOf (pbox.N (O xss X Y wh (X + Y)) X Y 1) (X * Y))) := Lib.hid (pbox.box_ok ⟨hs.1, within_of (len_O _ _ _ _ _) (O_bits hs), by omega, by omega⟩)
    have HSM : Hid (alike.same X Y wh xss X Y 1 (make.rowsOf (pbox.N (O xss X Y wh (X + Y)) X Y 1) (X * Y))) := Lib.hid ⟨hs, HPO.out, rfl, rfl⟩
    have P00 := Lib.hid (Blk.new w 24 #[.int .i64 (X : Int), .int .i64 (Y : Int), .int .i64 wh, .slice va vn vc])
    clear hs hX1 hX2 hY1 hY2
    by_cases hpl : Pl xss X Y wh (O xss X Y wh (X + Y))
    · rw [res_yes HS.out hpl]
      have EA := Lib.hid (alike.alikeB_yes ((alike_spec HS.out).2 hpl))
      clear hpl
      go_enter Try.func41, Try.ntmps41
      go_wp2_with fail
      refine CP.out.mono ?_
      rintro e w1 ⟨rfl, hb⟩
      have B1 := Lib.hid hb
      have HWW : Hid ((w.alloc (.cells #[.int .i64 (X : Int), .int .i64 (Y : Int), .int .i64 wh, .slice va vn vc] 24)).heap.size ≤ w1.heap.size) := Lib.hid hb.size
      rw [EB.out]
      clear hb
      have P1 := Lib.hid (P00.out.below B1.out)
      obtain ⟨c0, c1, c2, c3, c4⟩ := four_cells P1.out
      go_wp2_with fail
      have OS0 : Hid ((w1.alloc (.cells #[] 3)).ownsRow w1.heap.size 3 1 (.slice (some ⟨w1.heap.size, 0, none⟩) 0 0) 0 (i64s (O xss X Y wh 0))) := Lib.hid (by
        have := World.ownsRow_made (base := w1.heap.size) (e := 3) (size := 1) w1 #[] 0 (Nat.le_refl _) (Nat.zero_le _) rfl
        simpa [i64s, O] using this)
      have BS0 := Lib.hid (below_al B1.out (.cells #[] 3))
      have HZ0 : Hid (w1.heap.size ≤ (w1.alloc (.cells #[] 3)).heap.size) := Lib.hid (by simp)
      clear c0 c1 c2 c3 c4 P1
      go_loopw [4, 5] (fun out i wr => ∃ k : Nat, k ≤ X ∧ i = .int .i64 k ∧ Hid (wr.ownsRow w1.heap.size 3 1 out k (i64s (O xss X Y wh k))) ∧ Hid (Below (w.alloc (.cells #[.int .i64 (X : Int), .int .i64 (Y : Int), .int .i64 wh, .slice va vn vc] 24)).heap.size (w.alloc (.cells #[.int .i64 (X : Int), .int .i64 (Y : Int), .int .i64 wh, .slice va vn vc] 24)) wr) ∧ Hid (w1.heap.size ≤ wr.heap.size)) (fun _ i _ => X - (intOf i).toNat)
      case atStart => exact ⟨0, Nat.zero_le _, rfl, OS0, BS0, HZ0⟩
      case round =>
        obtain ⟨k, hk, rfl, hOw, hB, hz⟩ := hrel
        obtain ⟨hX1, hX2, hY1, hY2⟩ := HNB.out
        obtain ⟨wo, rfl⟩ : ∃ wo : World, wo = wr := ⟨_, rfl⟩
        have PO := Lib.hid (P00.out.below hB.out)
        obtain ⟨c0, c1, c2, c3, c4⟩ := four_cells PO.out
        by_cases hlt : k < X
        · have hkz : (k : Int) < (X : Int) := by omega
          have hrow := row.l2row X Y wh (k : Int) 0 _ xss wo.drew (HV0.out.below (below_tr (below_al (Below.refl w.heap.size w) (.cells #[.int .i64 (X : Int), .int .i64 (Y : Int), .int .i64 wh, .slice va vn vc] 24)) (below_dr hB.out))) HS.out (by omega) (by omega) (by omega) (by omega)
          rw [loud.at_zero] at hrow
          have HRW := Lib.hid hrow
          have hrl : (k * Y) < xss.length := by
            have h1 := HLN.out
            have h2 : (k + 1) * Y ≤ X * Y := Nat.mul_le_mul_right _ (by omega)
            rw [Nat.add_mul] at h2
            omega
          have HRL := Lib.hid hrl
          have hcb := HCB.out k (by omega)
          have ecn : cn xss X Y k = one xss (k * Y) 0 := by
            unfold cn
            rw [if_pos hlt]; rfl
          rw [ecn] at hcb
          have HON : Hid (∀ (u : Value) (W : World), Ints W u (xss.getD (k * Y) []) → Calls Try.prog 90 #[u, .int .i64 0] W fun e w' => e = .returned (.int .i64 (one xss (k * Y) 0)) ∧ Below W.heap.size W w') := Lib.hid (fun u W hu => row.l2one u X Y wh 0 xss (k * Y) W HS.out HRL.out hu)
          have OSU : Hid (O xss X Y wh (k + 1) = O xss X Y wh k ++ [one xss (k * Y) 0 / wh]) := Lib.hid (by rw [O_succ, ecn])
          obtain ⟨q, hq⟩ : ∃ q, one xss (k * Y) 0 = q := ⟨_, rfl⟩
          rw [hq] at hcb HON OSU
          have kw := quo_w hcb.1 (by omega) HW1.out.1
          have kw2 : IntKind.i64.wrap (q.tdiv wh) = q / wh := by rw [IntWalk.i64_left]; exact kw
          have d0 : wo.drew.cell? ⟨w.heap.size, 0, none⟩ = some (.int .i64 (X : Int)) := c0
          have d1 : wo.drew.cell? ⟨w.heap.size, 1, none⟩ = some (.int .i64 (Y : Int)) := c1
          have d2 : wo.drew.cell? ⟨w.heap.size, 2, none⟩ = some (.int .i64 wh) := c2
          have d3 : wo.drew.cell? ⟨w.heap.size, 3, none⟩ = some (.slice va vn vc) := c3
          have hwz : ¬ wh = 0 := by have := HW1.out; omega
          have hwz2 : (wh == 0) = false := by simp [hwz]
          have hlen : k ≤ 6 := by omega
          clear hrow hrl ecn hq hcb hX1 hX2 hY1 hY2
          go_wp2_with fail
          go_region_held3 (fun w' => w'.cell? ⟨w.heap.size, 0, none⟩ = some (.int .i64 (X : Int)) ∧ w'.cell? ⟨w.heap.size, 1, none⟩ = some (.int .i64 (Y : Int)) ∧ w'.cell? ⟨w.heap.size, 2, none⟩ = some (.int .i64 wh) ∧ w'.cell? ⟨w.heap.size, 3, none⟩ = some (.slice va vn vc))
            ((first | (with_reducible exact ⟨d0, d1, d2, d3⟩) | (with_reducible exact step.fours d0 d1 d2 d3 hb1) | (with_reducible exact step.fours d0 d1 d2 d3 (below_tr hb1 hb2)) | (with_reducible exact step.fours d0 d1 d2 d3 (below_al (below_tr hb1 hb2) _)) | (with_reducible exact hS5)))
            (first
              | (go_at_call 79; (with_reducible refine HRW.out.mono ?_); rintro e w3 ⟨u, rfl, hu, hb1⟩)
              | (go_at_call 90; (with_reducible refine (HON.out _ _ hu).mono ?_); rintro e w4 ⟨rfl, hb2⟩)
              | (refine step.own rfl (.tmp 18) (.tmp 26) 30 rfl 3 i0 (.int .i64 0) 1 8 Try.underlying30 hi hz0 hz1 hz2 rfl (by decide) w1.heap.size _ k (i64s (O xss X Y wh k)) (app.owns_below hOw.out (below_al (below_tr (below_tr (below_dr (Below.refl _ _)) hb1) hb2) (.cells #[.int .i64 (q / wh)] 3))) (by simp [Act.eval]) ⟨w4.heap.size, 0, none⟩ 1 1 [.int .i64 (q / wh)] (by simp [Act.eval]) rfl (app.one_at _ _ _) (by intro u hu; simp at hu; subst hu; rfl) (by unfold maxLen; omega) (by omega) (by have h1 := hb1.size; have h2 := hb2.size; have h3 := hz.out; simp at h1 ⊢; omega) ?_; intro v' w5 hown' hgrow; have hS5 := step.fours_grown (step.fours d0 d1 d2 d3 (below_al (below_tr hb1 hb2) _)) hgrow (fun e => by have := (hOw.out.lt _ e.symm).1; have := HWW.out; simp at this; omega)))
          have BB := Lib.hid (below_al (below_tr (below_tr (below_dr (Below.refl _ _)) hb1) hb2) (.cells #[.int .i64 (q / wh)] 3))
          have B5 : Hid (Below (w.alloc (.cells #[.int .i64 (X : Int), .int .i64 (Y : Int), .int .i64 wh, .slice va vn vc] 24)).heap.size (w.alloc (.cells #[.int .i64 (X : Int), .int .i64 (Y : Int), .int .i64 wh, .slice va vn vc] 24)) w5) := Lib.hid ((below_tr hB.out BB.out).grown hgrow (below_tr hB.out BB.out).size (fun j hj => Nat.le_trans HWW.out (hOw.out.lt j hj).1))
          have O5 : Hid (w5.ownsRow w1.heap.size 3 1 v' (k + 1) (i64s (O xss X Y wh (k + 1)))) := Lib.hid (by rw [OSU.out, ← app.i64s_snoc]; exact hown')
          have Z5 : Hid (w1.heap.size ≤ w5.heap.size) := Lib.hid (by have := hgrow.size; have := BB.out.size; have := hz.out; omega)
          clear hown' hgrow hu hb1 hb2 hS5 BB hOw hB hz d0 d1 d2 d3 c0 c1 c2 c3 c4 kw kw2 HRW HON
          go_wp2_with fail
          go_roundw
          case rel => exact ⟨k + 1, by omega, by go_num, O5, B5, Z5⟩
          case measure => simp [intOf]; omega
        · have hkz : ¬ (k : Int) < (X : Int) := by omega
          have hke : k = X := by omega
          have OS1 : Hid (wo.ownsRow w1.heap.size 3 1 _ (X + 0) (i64s (O xss X Y wh (X + 0)))) := Lib.hid (by have e := hOw.out; rw [show k = X + 0 from by omega] at e; exact e)
          have BS1 := hB
          have HZ1 := hz
          clear hke hOw hB hz
          go_wp2_with fail
          clear c0 c1 c2 c3 c4 PO hlt hkz hk
          go_loopw [4, 6] (fun out i wr => ∃ k : Nat, k ≤ Y ∧ i = .int .i64 k ∧ Hid (wr.ownsRow w1.heap.size 3 1 out (X + k) (i64s (O xss X Y wh (X + k)))) ∧ Hid (Below (w.alloc (.cells #[.int .i64 (X : Int), .int .i64 (Y : Int), .int .i64 wh, .slice va vn vc] 24)).heap.size (w.alloc (.cells #[.int .i64 (X : Int), .int .i64 (Y : Int), .int .i64 wh, .slice va vn vc] 24)) wr) ∧ Hid (w1.heap.size ≤ wr.heap.size)) (fun _ i _ => Y - (intOf i).toNat)
          case atStart => exact ⟨0, Nat.zero_le _, rfl, OS1, BS1, HZ1⟩
          case round =>
            obtain ⟨k, hk, rfl, hOw, hB, hz⟩ := hrel
            obtain ⟨hX1, hX2, hY1, hY2⟩ := HNB.out
            obtain ⟨wo, rfl⟩ : ∃ wo : World, wo = wr := ⟨_, rfl⟩
            have PO := Lib.hid (P00.out.below hB.out)
            obtain ⟨c0, c1, c2, c3, c4⟩ := four_cells PO.out
            by_cases hlt : k < Y
            · have hkz : (k : Int) < (Y : Int) := by omega
              have hrow := row.l2row X Y wh 0 (k : Int) _ xss wo.drew (HV0.out.below (below_tr (below_al (Below.refl w.heap.size w) (.cells #[.int .i64 (X : Int), .int .i64 (Y : Int), .int .i64 wh, .slice va vn vc] 24)) (below_dr hB.out))) HS.out (by omega) (by omega) (by omega) (by omega)
              rw [loud.at_top] at hrow
              have HRW := Lib.hid hrow
              have hrl : k < xss.length := by
                have h1 := HLN.out
                have h2 : 1 * Y ≤ X * Y := Nat.mul_le_mul_right _ (by omega)
                skip
                omega
              have HRL := Lib.hid hrl
              have hcb := HCB.out (X + k) (by omega)
              have ecn : cn xss X Y (X + k) = one xss k 1 := by
                unfold cn
                rw [if_neg (by omega), show X + k - X = k from by omega]; rfl
              rw [ecn] at hcb
              have HON : Hid (∀ (u : Value) (W : World), Ints W u (xss.getD k []) → Calls Try.prog 90 #[u, .int .i64 1] W fun e w' => e = .returned (.int .i64 (one xss k 1)) ∧ Below W.heap.size W w') := Lib.hid (fun u W hu => row.l2one u X Y wh 1 xss k W HS.out HRL.out hu)
              have OSU : Hid (O xss X Y wh ((X + k) + 1) = O xss X Y wh (X + k) ++ [one xss k 1 / wh]) := Lib.hid (by rw [O_succ, ecn])
              obtain ⟨q, hq⟩ : ∃ q, one xss k 1 = q := ⟨_, rfl⟩
              rw [hq] at hcb HON OSU
              have kw := quo_w hcb.1 (by omega) HW1.out.1
              have kw2 : IntKind.i64.wrap (q.tdiv wh) = q / wh := by rw [IntWalk.i64_left]; exact kw
              have d0 : wo.drew.cell? ⟨w.heap.size, 0, none⟩ = some (.int .i64 (X : Int)) := c0
              have d1 : wo.drew.cell? ⟨w.heap.size, 1, none⟩ = some (.int .i64 (Y : Int)) := c1
              have d2 : wo.drew.cell? ⟨w.heap.size, 2, none⟩ = some (.int .i64 wh) := c2
              have d3 : wo.drew.cell? ⟨w.heap.size, 3, none⟩ = some (.slice va vn vc) := c3
              have hwz : ¬ wh = 0 := by have := HW1.out; omega
              have hwz2 : (wh == 0) = false := by simp [hwz]
              have hlen : (X + k) ≤ 6 := by omega
              clear hrow hrl ecn hq hcb hX1 hX2 hY1 hY2
              go_wp2_with fail
              go_region_held3 (fun w' => w'.cell? ⟨w.heap.size, 0, none⟩ = some (.int .i64 (X : Int)) ∧ w'.cell? ⟨w.heap.size, 1, none⟩ = some (.int .i64 (Y : Int)) ∧ w'.cell? ⟨w.heap.size, 2, none⟩ = some (.int .i64 wh) ∧ w'.cell? ⟨w.heap.size, 3, none⟩ = some (.slice va vn vc))
                ((first | (with_reducible exact ⟨d0, d1, d2, d3⟩) | (with_reducible exact step.fours d0 d1 d2 d3 hb1) | (with_reducible exact step.fours d0 d1 d2 d3 (below_tr hb1 hb2)) | (with_reducible exact step.fours d0 d1 d2 d3 (below_al (below_tr hb1 hb2) _)) | (with_reducible exact hS5)))
                (first
                  | (go_at_call 79; (with_reducible refine HRW.out.mono ?_); rintro e w3 ⟨u, rfl, hu, hb1⟩)
                  | (go_at_call 90; (with_reducible refine (HON.out _ _ hu).mono ?_); rintro e w4 ⟨rfl, hb2⟩)
                  | (refine step.own rfl (.tmp 34) (.tmp 42) 30 rfl 3 i0 (.int .i64 0) 1 8 Try.underlying30 hi hz0 hz1 hz2 rfl (by decide) w1.heap.size _ (X + k) (i64s (O xss X Y wh (X + k))) (app.owns_below hOw.out (below_al (below_tr (below_tr (below_dr (Below.refl _ _)) hb1) hb2) (.cells #[.int .i64 (q / wh)] 3))) (by simp [Act.eval]) ⟨w4.heap.size, 0, none⟩ 1 1 [.int .i64 (q / wh)] (by simp [Act.eval]) rfl (app.one_at _ _ _) (by intro u hu; simp at hu; subst hu; rfl) (by unfold maxLen; omega) (by omega) (by have h1 := hb1.size; have h2 := hb2.size; have h3 := hz.out; simp at h1 ⊢; omega) ?_; intro v' w5 hown' hgrow; have hS5 := step.fours_grown (step.fours d0 d1 d2 d3 (below_al (below_tr hb1 hb2) _)) hgrow (fun e => by have := (hOw.out.lt _ e.symm).1; have := HWW.out; simp at this; omega)))
              have BB := Lib.hid (below_al (below_tr (below_tr (below_dr (Below.refl _ _)) hb1) hb2) (.cells #[.int .i64 (q / wh)] 3))
              have B5 : Hid (Below (w.alloc (.cells #[.int .i64 (X : Int), .int .i64 (Y : Int), .int .i64 wh, .slice va vn vc] 24)).heap.size (w.alloc (.cells #[.int .i64 (X : Int), .int .i64 (Y : Int), .int .i64 wh, .slice va vn vc] 24)) w5) := Lib.hid ((below_tr hB.out BB.out).grown hgrow (below_tr hB.out BB.out).size (fun j hj => Nat.le_trans HWW.out (hOw.out.lt j hj).1))
              have O5 : Hid (w5.ownsRow w1.heap.size 3 1 v' ((X + k) + 1) (i64s (O xss X Y wh ((X + k) + 1)))) := Lib.hid (by rw [OSU.out, ← app.i64s_snoc]; exact hown')
              have Z5 : Hid (w1.heap.size ≤ w5.heap.size) := Lib.hid (by have := hgrow.size; have := BB.out.size; have := hz.out; omega)
              clear hown' hgrow hu hb1 hb2 hS5 BB hOw hB hz d0 d1 d2 d3 c0 c1 c2 c3 c4 kw kw2 HRW HON
              go_wp2_with fail
              go_roundw
              case rel => exact ⟨k + 1, by omega, by go_num, O5, B5, Z5⟩
              case measure => simp [intOf]; omega
            · have hkz : ¬ (k : Int) < (Y : Int) := by omega
              have hke : k = Y := by omega
              have O2' : Hid (wo.ownsRow w1.heap.size 3 1 _ (X + Y) (i64s (O xss X Y wh (X + Y)))) := Lib.hid (by have e := hOw.out; rw [show X + k = X + Y from by omega] at e; exact e)
              obtain ⟨qa, ql, qc, rfl⟩ := make.shape hOw.out
              have UI := Lib.hid (app.ints_of_owns O2'.out).ints
              have d0 : wo.drew.cell? ⟨w.heap.size, 0, none⟩ = some (.int .i64 (X : Int)) := c0
              have d1 : wo.drew.cell? ⟨w.heap.size, 1, none⟩ = some (.int .i64 (Y : Int)) := c1
              have d2 : wo.drew.cell? ⟨w.heap.size, 2, none⟩ = some (.int .i64 wh) := c2
              have d3 : wo.drew.cell? ⟨w.heap.size, 3, none⟩ = some (.slice va vn vc) := c3
              have BW := Lib.hid (below_tr (below_al (Below.refl w.heap.size w) (.cells #[.int .i64 (X : Int), .int .i64 (Y : Int), .int .i64 wh, .slice va vn vc] 24)) hB.out)
              have HPB := Lib.hid (pbox.l2playbox _ (O xss X Y wh (X + Y)) X Y 1 wo.drew (UI.out.below (below_dr (Below.refl _ _))) (len_O _ _ _ _ _) (fun j hj => by have := O_bits HS.out j (by rw [len_O] at hj; exact hj); simpa [List.getD, hj] using this) (by omega) (by omega))
              clear hke hOw
              go_wp2_with fail
              go_region_held3 (fun w' => w'.cell? ⟨w.heap.size, 0, none⟩ = some (.int .i64 (X : Int)) ∧ w'.cell? ⟨w.heap.size, 1, none⟩ = some (.int .i64 (Y : Int)) ∧ w'.cell? ⟨w.heap.size, 2, none⟩ = some (.int .i64 wh) ∧ w'.cell? ⟨w.heap.size, 3, none⟩ = some (.slice va vn vc))
                ((first | (with_reducible exact ⟨d0, d1, d2, d3⟩) | (with_reducible exact step.fours d0 d1 d2 d3 hb1) | (with_reducible exact step.fours d0 d1 d2 d3 (below_tr hb1 hb2))))
                (first
                  | (go_at_call 61; (with_reducible refine HPB.out.mono ?_); rintro e w3 ⟨u, rfl, hu, hb1⟩; have hrows := hu.rows)
                  | (go_at_call 91; (with_reducible refine (alike.l2alike X Y wh _ xss X Y 1 _ (make.rowsOf (pbox.N (O xss X Y wh (X + Y)) X Y 1) (X * Y)) _ (HV0.out.below (below_tr BW.out (below_tr (below_dr (Below.refl _ _)) hb1))) hrows HSM.out).mono ?_); rw [EA.out]; rintro e w4 ⟨rfl, hb2⟩))
              have hbt := below_tr (below_tr (below_dr (Below.refl _ _)) hb1) hb2
              have B6 := Lib.hid (below_tr BW.out hbt)
              have U6 := Lib.hid (UI.out.below hbt)
              clear hbt hb1 hb2 hu hrows
              go_wp2_with fail
              go_ret2
              exact ⟨_, rfl, U6.out, B6.out⟩
    · rw [res_pl hpl]
      have EA := Lib.hid (alike.alikeB_no (fun h => hpl ((alike_spec HS.out).1 h)))
      clear hpl
      go_enter Try.func41, Try.ntmps41
      go_wp2_with fail
      refine CP.out.mono ?_
      rintro e w1 ⟨rfl, hb⟩
      have B1 := Lib.hid hb
      have HWW : Hid ((w.alloc (.cells #[.int .i64 (X : Int), .int .i64 (Y : Int), .int .i64 wh, .slice va vn vc] 24)).heap.size ≤ w1.heap.size) := Lib.hid hb.size
      rw [EB.out]
      clear hb
      have P1 := Lib.hid (P00.out.below B1.out)
      obtain ⟨c0, c1, c2, c3, c4⟩ := four_cells P1.out
      go_wp2_with fail
      have OS0 : Hid ((w1.alloc (.cells #[] 3)).ownsRow w1.heap.size 3 1 (.slice (some ⟨w1.heap.size, 0, none⟩) 0 0) 0 (i64s (O xss X Y wh 0))) := Lib.hid (by
        have := World.ownsRow_made (base := w1.heap.size) (e := 3) (size := 1) w1 #[] 0 (Nat.le_refl _) (Nat.zero_le _) rfl
        simpa [i64s, O] using this)
      have BS0 := Lib.hid (below_al B1.out (.cells #[] 3))
      have HZ0 : Hid (w1.heap.size ≤ (w1.alloc (.cells #[] 3)).heap.size) := Lib.hid (by simp)
      clear c0 c1 c2 c3 c4 P1
      go_loopw [4, 5] (fun out i wr => ∃ k : Nat, k ≤ X ∧ i = .int .i64 k ∧ Hid (wr.ownsRow w1.heap.size 3 1 out k (i64s (O xss X Y wh k))) ∧ Hid (Below (w.alloc (.cells #[.int .i64 (X : Int), .int .i64 (Y : Int), .int .i64 wh, .slice va vn vc] 24)).heap.size (w.alloc (.cells #[.int .i64 (X : Int), .int .i64 (Y : Int), .int .i64 wh, .slice va vn vc] 24)) wr) ∧ Hid (w1.heap.size ≤ wr.heap.size)) (fun _ i _ => X - (intOf i).toNat)
      case atStart => exact ⟨0, Nat.zero_le _, rfl, OS0, BS0, HZ0⟩
      case round =>
        obtain ⟨k, hk, rfl, hOw, hB, hz⟩ := hrel
        obtain ⟨hX1, hX2, hY1, hY2⟩ := HNB.out
        obtain ⟨wo, rfl⟩ : ∃ wo : World, wo = wr := ⟨_, rfl⟩
        have PO := Lib.hid (P00.out.below hB.out)
        obtain ⟨c0, c1, c2, c3, c4⟩ := four_cells PO.out
        by_cases hlt : k < X
        · have hkz : (k : Int) < (X : Int) := by omega
          have hrow := row.l2row X Y wh (k : Int) 0 _ xss wo.drew (HV0.out.below (below_tr (below_al (Below.refl w.heap.size w) (.cells #[.int .i64 (X : Int), .int .i64 (Y : Int), .int .i64 wh, .slice va vn vc] 24)) (below_dr hB.out))) HS.out (by omega) (by omega) (by omega) (by omega)
          rw [loud.at_zero] at hrow
          have HRW := Lib.hid hrow
          have hrl : (k * Y) < xss.length := by
            have h1 := HLN.out
            have h2 : (k + 1) * Y ≤ X * Y := Nat.mul_le_mul_right _ (by omega)
            rw [Nat.add_mul] at h2
            omega
          have HRL := Lib.hid hrl
          have hcb := HCB.out k (by omega)
          have ecn : cn xss X Y k = one xss (k * Y) 0 := by
            unfold cn
            rw [if_pos hlt]; rfl
          rw [ecn] at hcb
          have HON : Hid (∀ (u : Value) (W : World), Ints W u (xss.getD (k * Y) []) → Calls Try.prog 90 #[u, .int .i64 0] W fun e w' => e = .returned (.int .i64 (one xss (k * Y) 0)) ∧ Below W.heap.size W w') := Lib.hid (fun u W hu => row.l2one u X Y wh 0 xss (k * Y) W HS.out HRL.out hu)
          have OSU : Hid (O xss X Y wh (k + 1) = O xss X Y wh k ++ [one xss (k * Y) 0 / wh]) := Lib.hid (by rw [O_succ, ecn])
          obtain ⟨q, hq⟩ : ∃ q, one xss (k * Y) 0 = q := ⟨_, rfl⟩
          rw [hq] at hcb HON OSU
          have kw := quo_w hcb.1 (by omega) HW1.out.1
          have kw2 : IntKind.i64.wrap (q.tdiv wh) = q / wh := by rw [IntWalk.i64_left]; exact kw
          have d0 : wo.drew.cell? ⟨w.heap.size, 0, none⟩ = some (.int .i64 (X : Int)) := c0
          have d1 : wo.drew.cell? ⟨w.heap.size, 1, none⟩ = some (.int .i64 (Y : Int)) := c1
          have d2 : wo.drew.cell? ⟨w.heap.size, 2, none⟩ = some (.int .i64 wh) := c2
          have d3 : wo.drew.cell? ⟨w.heap.size, 3, none⟩ = some (.slice va vn vc) := c3
          have hwz : ¬ wh = 0 := by have := HW1.out; omega
          have hwz2 : (wh == 0) = false := by simp [hwz]
          have hlen : k ≤ 6 := by omega
          clear hrow hrl ecn hq hcb hX1 hX2 hY1 hY2
          go_wp2_with fail
          go_region_held3 (fun w' => w'.cell? ⟨w.heap.size, 0, none⟩ = some (.int .i64 (X : Int)) ∧ w'.cell? ⟨w.heap.size, 1, none⟩ = some (.int .i64 (Y : Int)) ∧ w'.cell? ⟨w.heap.size, 2, none⟩ = some (.int .i64 wh) ∧ w'.cell? ⟨w.heap.size, 3, none⟩ = some (.slice va vn vc))
            ((first | (with_reducible exact ⟨d0, d1, d2, d3⟩) | (with_reducible exact step.fours d0 d1 d2 d3 hb1) | (with_reducible exact step.fours d0 d1 d2 d3 (below_tr hb1 hb2)) | (with_reducible exact step.fours d0 d1 d2 d3 (below_al (below_tr hb1 hb2) _)) | (with_reducible exact hS5)))
            (first
              | (go_at_call 79; (with_reducible refine HRW.out.mono ?_); rintro e w3 ⟨u, rfl, hu, hb1⟩)
              | (go_at_call 90; (with_reducible refine (HON.out _ _ hu).mono ?_); rintro e w4 ⟨rfl, hb2⟩)
              | (refine step.own rfl (.tmp 18) (.tmp 26) 30 rfl 3 i0 (.int .i64 0) 1 8 Try.underlying30 hi hz0 hz1 hz2 rfl (by decide) w1.heap.size _ k (i64s (O xss X Y wh k)) (app.owns_below hOw.out (below_al (below_tr (below_tr (below_dr (Below.refl _ _)) hb1) hb2) (.cells #[.int .i64 (q / wh)] 3))) (by simp [Act.eval]) ⟨w4.heap.size, 0, none⟩ 1 1 [.int .i64 (q / wh)] (by simp [Act.eval]) rfl (app.one_at _ _ _) (by intro u hu; simp at hu; subst hu; rfl) (by unfold maxLen; omega) (by omega) (by have h1 := hb1.size; have h2 := hb2.size; have h3 := hz.out; simp at h1 ⊢; omega) ?_; intro v' w5 hown' hgrow; have hS5 := step.fours_grown (step.fours d0 d1 d2 d3 (below_al (below_tr hb1 hb2) _)) hgrow (fun e => by have := (hOw.out.lt _ e.symm).1; have := HWW.out; simp at this; omega)))
          have BB := Lib.hid (below_al (below_tr (below_tr (below_dr (Below.refl _ _)) hb1) hb2) (.cells #[.int .i64 (q / wh)] 3))
          have B5 : Hid (Below (w.alloc (.cells #[.int .i64 (X : Int), .int .i64 (Y : Int), .int .i64 wh, .slice va vn vc] 24)).heap.size (w.alloc (.cells #[.int .i64 (X : Int), .int .i64 (Y : Int), .int .i64 wh, .slice va vn vc] 24)) w5) := Lib.hid ((below_tr hB.out BB.out).grown hgrow (below_tr hB.out BB.out).size (fun j hj => Nat.le_trans HWW.out (hOw.out.lt j hj).1))
          have O5 : Hid (w5.ownsRow w1.heap.size 3 1 v' (k + 1) (i64s (O xss X Y wh (k + 1)))) := Lib.hid (by rw [OSU.out, ← app.i64s_snoc]; exact hown')
          have Z5 : Hid (w1.heap.size ≤ w5.heap.size) := Lib.hid (by have := hgrow.size; have := BB.out.size; have := hz.out; omega)
          clear hown' hgrow hu hb1 hb2 hS5 BB hOw hB hz d0 d1 d2 d3 c0 c1 c2 c3 c4 kw kw2 HRW HON
          go_wp2_with fail
          go_roundw
          case rel => exact ⟨k + 1, by omega, by go_num, O5, B5, Z5⟩
          case measure => simp [intOf]; omega
        · have hkz : ¬ (k : Int) < (X : Int) := by omega
          have hke : k = X := by omega
          have OS1 : Hid (wo.ownsRow w1.heap.size 3 1 _ (X + 0) (i64s (O xss X Y wh (X + 0)))) := Lib.hid (by have e := hOw.out; rw [show k = X + 0 from by omega] at e; exact e)
          have BS1 := hB
          have HZ1 := hz
          clear hke hOw hB hz
          go_wp2_with fail
          clear c0 c1 c2 c3 c4 PO hlt hkz hk
          go_loopw [4, 6] (fun out i wr => ∃ k : Nat, k ≤ Y ∧ i = .int .i64 k ∧ Hid (wr.ownsRow w1.heap.size 3 1 out (X + k) (i64s (O xss X Y wh (X + k)))) ∧ Hid (Below (w.alloc (.cells #[.int .i64 (X : Int), .int .i64 (Y : Int), .int .i64 wh, .slice va vn vc] 24)).heap.size (w.alloc (.cells #[.int .i64 (X : Int), .int .i64 (Y : Int), .int .i64 wh, .slice va vn vc] 24)) wr) ∧ Hid (w1.heap.size ≤ wr.heap.size)) (fun _ i _ => Y - (intOf i).toNat)
          case atStart => exact ⟨0, Nat.zero_le _, rfl, OS1, BS1, HZ1⟩
          case round =>
            obtain ⟨k, hk, rfl, hOw, hB, hz⟩ := hrel
            obtain ⟨hX1, hX2, hY1, hY2⟩ := HNB.out
            obtain ⟨wo, rfl⟩ : ∃ wo : World, wo = wr := ⟨_, rfl⟩
            have PO := Lib.hid (P00.out.below hB.out)
            obtain ⟨c0, c1, c2, c3, c4⟩ := four_cells PO.out
            by_cases hlt : k < Y
            · have hkz : (k : Int) < (Y : Int) := by omega
              have hrow := row.l2row X Y wh 0 (k : Int) _ xss wo.drew (HV0.out.below (below_tr (below_al (Below.refl w.heap.size w) (.cells #[.int .i64 (X : Int), .int .i64 (Y : Int), .int .i64 wh, .slice va vn vc] 24)) (below_dr hB.out))) HS.out (by omega) (by omega) (by omega) (by omega)
              rw [loud.at_top] at hrow
              have HRW := Lib.hid hrow
              have hrl : k < xss.length := by
                have h1 := HLN.out
                have h2 : 1 * Y ≤ X * Y := Nat.mul_le_mul_right _ (by omega)
                skip
                omega
              have HRL := Lib.hid hrl
              have hcb := HCB.out (X + k) (by omega)
              have ecn : cn xss X Y (X + k) = one xss k 1 := by
                unfold cn
                rw [if_neg (by omega), show X + k - X = k from by omega]; rfl
              rw [ecn] at hcb
              have HON : Hid (∀ (u : Value) (W : World), Ints W u (xss.getD k []) → Calls Try.prog 90 #[u, .int .i64 1] W fun e w' => e = .returned (.int .i64 (one xss k 1)) ∧ Below W.heap.size W w') := Lib.hid (fun u W hu => row.l2one u X Y wh 1 xss k W HS.out HRL.out hu)
              have OSU : Hid (O xss X Y wh ((X + k) + 1) = O xss X Y wh (X + k) ++ [one xss k 1 / wh]) := Lib.hid (by rw [O_succ, ecn])
              obtain ⟨q, hq⟩ : ∃ q, one xss k 1 = q := ⟨_, rfl⟩
              rw [hq] at hcb HON OSU
              have kw := quo_w hcb.1 (by omega) HW1.out.1
              have kw2 : IntKind.i64.wrap (q.tdiv wh) = q / wh := by rw [IntWalk.i64_left]; exact kw
              have d0 : wo.drew.cell? ⟨w.heap.size, 0, none⟩ = some (.int .i64 (X : Int)) := c0
              have d1 : wo.drew.cell? ⟨w.heap.size, 1, none⟩ = some (.int .i64 (Y : Int)) := c1
              have d2 : wo.drew.cell? ⟨w.heap.size, 2, none⟩ = some (.int .i64 wh) := c2
              have d3 : wo.drew.cell? ⟨w.heap.size, 3, none⟩ = some (.slice va vn vc) := c3
              have hwz : ¬ wh = 0 := by have := HW1.out; omega
              have hwz2 : (wh == 0) = false := by simp [hwz]
              have hlen : (X + k) ≤ 6 := by omega
              clear hrow hrl ecn hq hcb hX1 hX2 hY1 hY2
              go_wp2_with fail
              go_region_held3 (fun w' => w'.cell? ⟨w.heap.size, 0, none⟩ = some (.int .i64 (X : Int)) ∧ w'.cell? ⟨w.heap.size, 1, none⟩ = some (.int .i64 (Y : Int)) ∧ w'.cell? ⟨w.heap.size, 2, none⟩ = some (.int .i64 wh) ∧ w'.cell? ⟨w.heap.size, 3, none⟩ = some (.slice va vn vc))
                ((first | (with_reducible exact ⟨d0, d1, d2, d3⟩) | (with_reducible exact step.fours d0 d1 d2 d3 hb1) | (with_reducible exact step.fours d0 d1 d2 d3 (below_tr hb1 hb2)) | (with_reducible exact step.fours d0 d1 d2 d3 (below_al (below_tr hb1 hb2) _)) | (with_reducible exact hS5)))
                (first
                  | (go_at_call 79; (with_reducible refine HRW.out.mono ?_); rintro e w3 ⟨u, rfl, hu, hb1⟩)
                  | (go_at_call 90; (with_reducible refine (HON.out _ _ hu).mono ?_); rintro e w4 ⟨rfl, hb2⟩)
                  | (refine step.own rfl (.tmp 34) (.tmp 42) 30 rfl 3 i0 (.int .i64 0) 1 8 Try.underlying30 hi hz0 hz1 hz2 rfl (by decide) w1.heap.size _ (X + k) (i64s (O xss X Y wh (X + k))) (app.owns_below hOw.out (below_al (below_tr (below_tr (below_dr (Below.refl _ _)) hb1) hb2) (.cells #[.int .i64 (q / wh)] 3))) (by simp [Act.eval]) ⟨w4.heap.size, 0, none⟩ 1 1 [.int .i64 (q / wh)] (by simp [Act.eval]) rfl (app.one_at _ _ _) (by intro u hu; simp at hu; subst hu; rfl) (by unfold maxLen; omega) (by omega) (by have h1 := hb1.size; have h2 := hb2.size; have h3 := hz.out; simp at h1 ⊢; omega) ?_; intro v' w5 hown' hgrow; have hS5 := step.fours_grown (step.fours d0 d1 d2 d3 (below_al (below_tr hb1 hb2) _)) hgrow (fun e => by have := (hOw.out.lt _ e.symm).1; have := HWW.out; simp at this; omega)))
              have BB := Lib.hid (below_al (below_tr (below_tr (below_dr (Below.refl _ _)) hb1) hb2) (.cells #[.int .i64 (q / wh)] 3))
              have B5 : Hid (Below (w.alloc (.cells #[.int .i64 (X : Int), .int .i64 (Y : Int), .int .i64 wh, .slice va vn vc] 24)).heap.size (w.alloc (.cells #[.int .i64 (X : Int), .int .i64 (Y : Int), .int .i64 wh, .slice va vn vc] 24)) w5) := Lib.hid ((below_tr hB.out BB.out).grown hgrow (below_tr hB.out BB.out).size (fun j hj => Nat.le_trans HWW.out (hOw.out.lt j hj).1))
              have O5 : Hid (w5.ownsRow w1.heap.size 3 1 v' ((X + k) + 1) (i64s (O xss X Y wh ((X + k) + 1)))) := Lib.hid (by rw [OSU.out, ← app.i64s_snoc]; exact hown')
              have Z5 : Hid (w1.heap.size ≤ w5.heap.size) := Lib.hid (by have := hgrow.size; have := BB.out.size; have := hz.out; omega)
              clear hown' hgrow hu hb1 hb2 hS5 BB hOw hB hz d0 d1 d2 d3 c0 c1 c2 c3 c4 kw kw2 HRW HON
              go_wp2_with fail
              go_roundw
              case rel => exact ⟨k + 1, by omega, by go_num, O5, B5, Z5⟩
              case measure => simp [intOf]; omega
            · have hkz : ¬ (k : Int) < (Y : Int) := by omega
              have hke : k = Y := by omega
              have O2' : Hid (wo.ownsRow w1.heap.size 3 1 _ (X + Y) (i64s (O xss X Y wh (X + Y)))) := Lib.hid (by have e := hOw.out; rw [show X + k = X + Y from by omega] at e; exact e)
              obtain ⟨qa, ql, qc, rfl⟩ := make.shape hOw.out
              have UI := Lib.hid (app.ints_of_owns O2'.out).ints
              have d0 : wo.drew.cell? ⟨w.heap.size, 0, none⟩ = some (.int .i64 (X : Int)) := c0
              have d1 : wo.drew.cell? ⟨w.heap.size, 1, none⟩ = some (.int .i64 (Y : Int)) := c1
              have d2 : wo.drew.cell? ⟨w.heap.size, 2, none⟩ = some (.int .i64 wh) := c2
              have d3 : wo.drew.cell? ⟨w.heap.size, 3, none⟩ = some (.slice va vn vc) := c3
              have BW := Lib.hid (below_tr (below_al (Below.refl w.heap.size w) (.cells #[.int .i64 (X : Int), .int .i64 (Y : Int), .int .i64 wh, .slice va vn vc] 24)) hB.out)
              have HPB := Lib.hid (pbox.l2playbox _ (O xss X Y wh (X + Y)) X Y 1 wo.drew (UI.out.below (below_dr (Below.refl _ _))) (len_O _ _ _ _ _) (fun j hj => by have := O_bits HS.out j (by rw [len_O] at hj; exact hj); simpa [List.getD, hj] using this) (by omega) (by omega))
              clear hke hOw
              go_wp2_with fail
              go_region_held3 (fun w' => w'.cell? ⟨w.heap.size, 0, none⟩ = some (.int .i64 (X : Int)) ∧ w'.cell? ⟨w.heap.size, 1, none⟩ = some (.int .i64 (Y : Int)) ∧ w'.cell? ⟨w.heap.size, 2, none⟩ = some (.int .i64 wh) ∧ w'.cell? ⟨w.heap.size, 3, none⟩ = some (.slice va vn vc))
                ((first | (with_reducible exact ⟨d0, d1, d2, d3⟩) | (with_reducible exact step.fours d0 d1 d2 d3 hb1) | (with_reducible exact step.fours d0 d1 d2 d3 (below_tr hb1 hb2))))
                (first
                  | (go_at_call 61; (with_reducible refine HPB.out.mono ?_); rintro e w3 ⟨u, rfl, hu, hb1⟩; have hrows := hu.rows)
                  | (go_at_call 91; (with_reducible refine (alike.l2alike X Y wh _ xss X Y 1 _ (make.rowsOf (pbox.N (O xss X Y wh (X + Y)) X Y 1) (X * Y)) _ (HV0.out.below (below_tr BW.out (below_tr (below_dr (Below.refl _ _)) hb1))) hrows HSM.out).mono ?_); rw [EA.out]; rintro e w4 ⟨rfl, hb2⟩))
              have hbt := below_tr (below_tr (below_dr (Below.refl _ _)) hb1) hb2
              have B6 := Lib.hid (below_tr BW.out hbt)
              have U6 := Lib.hid (UI.out.below hbt)
              clear hbt hb1 hb2 hu hrows
              go_wp2_with fail
              go_ret2
              exact ⟨_, rfl, app.empty _ _ _ (Nat.zero_le _), below_al B6.out _⟩
  · have EB := Lib.hid (boxB_no hs)
    rw [res_no hs]
    clear hs
    go_enter Try.func41, Try.ntmps41
    go_wp2_with fail
    refine CP.out.mono ?_
    rintro e w1 ⟨rfl, hb⟩
    have B1 := Lib.hid (below_tr B0.out hb)
    clear hb
    rw [EB.out]
    go_wp2_with fail
    go_ret2
    exact ⟨_, rfl, app.empty _ _ _ (Nat.zero_le _), below_al B1.out _⟩

end Go.Proofs.Ytkajebhagkbcaaa.plof
