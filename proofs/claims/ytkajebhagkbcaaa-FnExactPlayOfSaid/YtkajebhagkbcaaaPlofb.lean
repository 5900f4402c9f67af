/- PlayOf of the program. -/
import Derived.Test.YtkajebhagkbcaaaPlof
namespace Go.Proofs.Ytkajebhagkbcaaa.plof
open Go.RowKit Go.Deep Go.Proofs.Ytkajebhagkbcaaa.base
open Go.Proofs.Ytkajebhagkbcaaa.val (okSizes okBox boxB boxB_yes boxB_no)
open Go.Proofs.Ytkajebhagkbcaaa.play (within)
open Go.Proofs.Ytkajebhagkbcaaa.row (nn one)
open Go.Proofs.Ytkajebhagkbcaaa.rws (total)

theorem ints_of_cells {w : World} {A : Option Addr} {b o cap n : Nat} {xs : List Int} (hl : xs.length = n) (hcap : n ≤ cap) (hmax : cap ≤ maxLen) (hA : 0 < n → A = some ⟨b, o, none⟩) (hc : ∀ k, k < n → w.cell? ⟨b, o + k, none⟩ = some (.int .i64 (xs.getD k 0))) : Ints w (.slice A n cap) xs := by
  refine ⟨A, cap, by rw [len_i64s, hl], by rw [len_i64s, hl]; exact hcap, hmax, fun k u hu => ?_⟩
  have hk : k < xs.length := by
    rcases Nat.lt_or_ge k xs.length with h | h
    · exact h
    · rw [List.getElem?_eq_none (by rw [len_i64s]; exact h)] at hu; cases hu
  rw [get_i64s hk] at hu
  injection hu with hu
  subst hu
  refine ⟨b, o, hA (by omega), ?_⟩
  rw [hc k (by omega)]
  simp [List.getD, hk]
theorem pres {X Y : Nat} {ps : List Int} {wh : Int} (h : pbox.all X Y ps wh) : pbox.res X Y ps wh = ⟨X, Y, wh, make.rowsOf (pbox.N ps X Y wh) (X * Y), true⟩ := by
  rw [pbox.res_yes h, ← Int.natCast_mul]; rfl

set_option maxHeartbeats 4000000 in
theorem impl_any (x y wh : Int) (v : Value) (xss : List (List Int)) (w : World) (h : IRows w v xss) (hn : total xss ≤ 1048576) :
    Calls Try.prog 42 #[.agg #[.int .i64 x, .int .i64 y, .int .i64 wh, v]] w fun e w' => ∃ u, e = .returned (.tuple #[u, .bool (res x y wh xss).2]) ∧ OwnInts w' w.heap.size w'.heap.size u (res x y wh xss).1 ∧ Below w.heap.size w w' := by
  have HV0 := Lib.hid h
  obtain ⟨va, vn, vc, rfl⟩ := h.shape
  clear h
  have B0 := Lib.hid (below_al (Below.refl w.heap.size w) (.cells #[.int .i64 x, .int .i64 y, .int .i64 wh, .slice va vn vc] 24))
  have P0 := Lib.hid (Blk.new w 24 #[.int .i64 x, .int .i64 y, .int .i64 wh, .slice va vn vc])
  have CP := Lib.hid (val.impl_any x y wh _ xss _ (HV0.out.below B0.out) hn)
  by_cases hs : okBox x y wh xss
  · have EB := Lib.hid (boxB_yes hs)
    obtain ⟨X, rfl⟩ : ∃ X : Nat, x = X := ⟨x.toNat, by have := hs.1.1; omega⟩
    obtain ⟨Y, rfl⟩ : ∃ Y : Nat, y = Y := ⟨y.toNat, by have := hs.1.2; omega⟩
    have HS := Lib.hid hs
    have hn6 : X + Y ≤ 6 := by have := hs.1.1; have := hs.1.2; omega
    obtain ⟨n, hnn⟩ : ∃ n, X + Y = n := ⟨_, rfl⟩
    have h6 : n ≤ 6 := by omega
    have HNN := Lib.hid hnn
    have HFC := Lib.hid (fun (W : World) (hb : Below w.heap.size w W) => counts.first X Y wh _ xss W (HV0.out.below hb) HS.out)
    have HAL := Lib.hid (show pbox.all X Y (M xss X Y) wh from ⟨hs.1, within_of (len_M _ _ _) (M_bits hs), hs.2.1.1, hs.2.1.2⟩)
    have HPR := Lib.hid (pres HAL.out)
    have HBO := Lib.hid (pbox.box_ok HAL.out)
    have HT := Lib.hid (make.total_rowsOf (pbox.N (M xss X Y) X Y wh) (X * Y) (Nat.mul_le_mul (by have := hs.1.1; omega : X ≤ 3) (by have := hs.1.2; omega : Y ≤ 3)))
    have HCB := Lib.hid (fun k (hk : k < X + Y) => cn_bd hs hk)
    clear hs hn6 hnn
    by_cases hpl : Pl xss X Y wh (O xss X Y wh (X + Y))
    · rw [res_yes HS.out hpl]
      have HMO := Lib.hid (m_is HS.out hpl)
      have EA := Lib.hid (alike.alikeB_yes ((alike_impl HS.out).2 ((pl_same HS.out).2 hpl)))
      clear hpl
      go_enter Try.func42, Try.ntmps42
      go_wp2_with fail
      refine CP.out.mono ?_
      rintro e w1 ⟨rfl, hb⟩
      have B1 := Lib.hid (below_tr B0.out hb)
      have P1 := Lib.hid (P0.out.below hb)
      obtain ⟨c0, c1, c2, c3, c4⟩ := four_cells P1.out
      rw [EB.out]
      clear hb
      go_wp2_with fail
      refine (HFC.out _ B1.out).mono ?_
      rintro e w2 ⟨u, rfl, hu, hb⟩
      have B2 := Lib.hid (below_tr B1.out hb)
      have P2 := Lib.hid (P1.out.below hb)
      have hz1 := B1.out.size
      have hzp := P1.out.lt
      have hu' : OwnInts w2 w1.heap.size w2.heap.size u ((List.range n).map (cn xss X Y)) := by rw [up1_eq, HNN.out] at hu; exact hu
      obtain ⟨A, b, o, cap, hv, hcap, hmax, hA, hcc⟩ := hu'.ints.form
      rw [show ((List.range n).map (cn xss X Y)).length = n from by simp] at hv hcap hA
      subst hv
      have HU := Lib.hid hu'
      have HMAX := Lib.hid hmax
      have HC0 : Hid (∀ j, j < n → w2.cell? ⟨b, o + j, none⟩ = some (.int .i64 (cn xss X Y j))) := Lib.hid (fun j hj => by
        have := hcc j (by simp; exact hj)
        simpa using this)
      clear hu hu' hb hmax hcc c0 c1 c2 c3 c4 HFC CP
      go_wp2_with fail
      go_loopw [5, 17] (fun z i wr => ∃ k : Nat, k ≤ n ∧ i = .int .i64 k ∧ (∃ z', z = z') ∧ Hid (Wrote (In (.slice A n cap)) w2 wr ∧ ∀ j, j < n → wr.cell? ⟨b, o + j, none⟩ = some (.int .i64 (if j < k then min (cn xss X Y j) 1 else cn xss X Y j)))) (fun _ i _ => n - (intOf i).toNat)
      case atStart => exact ⟨0, Nat.zero_le _, rfl, ⟨_, rfl⟩, Wrote.refl _ _, fun j hj => by rw [if_neg (by omega)]; exact HC0.out j hj⟩
      case round =>
        obtain ⟨k, hk, rfl, ⟨z', rfl⟩, hW⟩ := hrel
        obtain ⟨wo, rfl⟩ : ∃ wo : World, wo = wr := ⟨_, rfl⟩
        by_cases hlt : k < n
        · have hkz : (k : Int) < (n : Int) := by omega
          obtain rfl := hA (by omega)
          have g1 := hW.out.2 k hlt
          rw [if_neg (by omega)] at g1
          have hin : In (.slice (some ⟨b, o, none⟩) n cap) ⟨b, o + k, none⟩ := ints.in_one hlt
          have g2 : wo.frozen? ⟨b, o + k, none⟩ = false := (hW.out.1.frozen _).trans (HU.out.free _ hin)
          have hbd := HCB.out k (by have := HNN.out; omega)
          have HI := Lib.hid hin
          obtain ⟨q, hq⟩ : ∃ q, cn xss X Y k = q := ⟨_, rfl⟩
          rw [hq] at g1 hbd
          have HQ := Lib.hid hq
          clear hin hq
          go_wp2_with fail
          go_roundw
          case rel =>
            refine ⟨k + 1, by omega, by go_num, ⟨_, rfl⟩, Lib.hid ⟨hW.out.1.setCell HI.out _, fun j hj => ?_⟩⟩
            by_cases e : j = k
            · subst e
              have e1 : (if j < j + 1 then min q 1 else q) = min q 1 := if_pos (by omega)
              rw [HQ.out, e1, World.cell?_setCell_same _ _ _ g1]
              refine congrArg (fun z => some (Value.int .i64 z)) ?_
              first | rfl | omega | (split <;> omega)
            · rw [World.cell?_setCell_other _ _ _ _ (by intro e2; injection e2 with e3 e4 e5; omega), hW.out.2 j hj]
              by_cases h2 : j < k
              · rw [if_pos h2, if_pos (by omega)]
              · rw [if_neg h2, if_neg (by omega)]
          case measure => simp [intOf]; omega
        · have hkz : ¬ (k : Int) < (n : Int) := by omega
          have hke : k = n := by omega
          have UM : Hid (OwnInts wo w1.heap.size w2.heap.size (.slice A n cap) (M xss X Y)) := Lib.hid ⟨ints_of_cells (by rw [len_M, HNN.out]) hcap HMAX.out hA (fun j hj => by
              rw [hW.out.2 j hj, if_pos (by omega), M_at (by have := HNN.out; omega)]), HU.out.ge, HU.out.lt, fun p hp => (hW.out.1.frozen p).trans (HU.out.free p hp)⟩
          have B3 : Hid (Below w.heap.size w wo) := Lib.hid (B2.out.trans (hW.out.1.below (fun p hp => by have := HU.out.ge p hp; omega)))
          have P3 := Lib.hid (P2.out.wrote hW.out.1 (fun p hp => by have := HU.out.ge p hp; omega))
          have hz3 : w2.heap.size = wo.heap.size := hW.out.1.size.symm
          obtain ⟨c0, c1, c2, c3, c4⟩ := four_cells P3.out
          clear hW HC0 hke
          go_wp2_with fail
          refine (pbox.impl_any X Y _ (M xss X Y) wh wo UM.out.ints).mono ?_
          rw [HPR.out]
          rintro e w4 ⟨r, rfl, hr, hb⟩
          obtain ⟨ra, rl, rc, rfl⟩ := hr.rows.shape
          have B4 := Lib.hid (below_al (below_tr B3.out hb) (.cells #[.int .i64 (X : Int), .int .i64 (Y : Int), .int .i64 wh, .slice ra rl rc] 24))
          have P4 := Lib.hid ((P3.out.below hb).alloc (.cells #[.int .i64 (X : Int), .int .i64 (Y : Int), .int .i64 wh, .slice ra rl rc] 24))
          have U4 := Lib.hid (UM.out.keep (below_al hb (.cells #[.int .i64 (X : Int), .int .i64 (Y : Int), .int .i64 wh, .slice ra rl rc] 24)))
          have R4 := Lib.hid (hr.rows.below (below_al (Below.refl _ _) (.cells #[.int .i64 (X : Int), .int .i64 (Y : Int), .int .i64 wh, .slice ra rl rc] 24)))
          have hz4 := hb.size
          clear hr hb c0 c1 c2 c3 c4
          obtain ⟨c0, c1, c2, c3, c4⟩ := four_cells P4.out
          go_wp2_with fail
          refine (alike.impl_any X Y wh _ (make.rowsOf (pbox.N (M xss X Y) X Y wh) (X * Y)) X Y wh _ xss _ R4.out (HV0.out.below B4.out) HT.out hn).mono ?_
          rw [alike.res_yes (⟨HBO.out, HS.out, rfl, rfl⟩ : alike.same _ _ _ _ _ _ _ _), EA.out]
          rintro e w5 ⟨rfl, hb⟩
          have B5 := Lib.hid (below_tr B4.out hb)
          have U5 := Lib.hid (U4.out.keep hb)
          have hz5 := hb.size
          clear hb c0 c1 c2 c3 c4
          go_wp2_with fail
          go_ret2
          exact ⟨_, rfl, by rw [← HMO.out]; exact U5.out.mono (by omega) (by simp at hz5; omega), B5.out⟩
    · rw [res_pl hpl]
      have EA := Lib.hid (alike.alikeB_no (fun h => hpl ((pl_same HS.out).1 ((alike_impl HS.out).1 h))))
      clear hpl
      go_enter Try.func42, Try.ntmps42
      go_wp2_with fail
      refine CP.out.mono ?_
      rintro e w1 ⟨rfl, hb⟩
      have B1 := Lib.hid (below_tr B0.out hb)
      have P1 := Lib.hid (P0.out.below hb)
      obtain ⟨c0, c1, c2, c3, c4⟩ := four_cells P1.out
      rw [EB.out]
      clear hb
      go_wp2_with fail
      refine (HFC.out _ B1.out).mono ?_
      rintro e w2 ⟨u, rfl, hu, hb⟩
      have B2 := Lib.hid (below_tr B1.out hb)
      have P2 := Lib.hid (P1.out.below hb)
      have hz1 := B1.out.size
      have hzp := P1.out.lt
      have hu' : OwnInts w2 w1.heap.size w2.heap.size u ((List.range n).map (cn xss X Y)) := by rw [up1_eq, HNN.out] at hu; exact hu
      obtain ⟨A, b, o, cap, hv, hcap, hmax, hA, hcc⟩ := hu'.ints.form
      rw [show ((List.range n).map (cn xss X Y)).length = n from by simp] at hv hcap hA
      subst hv
      have HU := Lib.hid hu'
      have HMAX := Lib.hid hmax
      have HC0 : Hid (∀ j, j < n → w2.cell? ⟨b, o + j, none⟩ = some (.int .i64 (cn xss X Y j))) := Lib.hid (fun j hj => by
        have := hcc j (by simp; exact hj)
        simpa using this)
      clear hu hu' hb hmax hcc c0 c1 c2 c3 c4 HFC CP
      go_wp2_with fail
      go_loopw [5, 17] (fun z i wr => ∃ k : Nat, k ≤ n ∧ i = .int .i64 k ∧ (∃ z', z = z') ∧ Hid (Wrote (In (.slice A n cap)) w2 wr ∧ ∀ j, j < n → wr.cell? ⟨b, o + j, none⟩ = some (.int .i64 (if j < k then min (cn xss X Y j) 1 else cn xss X Y j)))) (fun _ i _ => n - (intOf i).toNat)
      case atStart => exact ⟨0, Nat.zero_le _, rfl, ⟨_, rfl⟩, Wrote.refl _ _, fun j hj => by rw [if_neg (by omega)]; exact HC0.out j hj⟩
      case round =>
        obtain ⟨k, hk, rfl, ⟨z', rfl⟩, hW⟩ := hrel
        obtain ⟨wo, rfl⟩ : ∃ wo : World, wo = wr := ⟨_, rfl⟩
        by_cases hlt : k < n
        · have hkz : (k : Int) < (n : Int) := by omega
          obtain rfl := hA (by omega)
          have g1 := hW.out.2 k hlt
          rw [if_neg (by omega)] at g1
          have hin : In (.slice (some ⟨b, o, none⟩) n cap) ⟨b, o + k, none⟩ := ints.in_one hlt
          have g2 : wo.frozen? ⟨b, o + k, none⟩ = false := (hW.out.1.frozen _).trans (HU.out.free _ hin)
          have hbd := HCB.out k (by have := HNN.out; omega)
          have HI := Lib.hid hin
          obtain ⟨q, hq⟩ : ∃ q, cn xss X Y k = q := ⟨_, rfl⟩
          rw [hq] at g1 hbd
          have HQ := Lib.hid hq
          clear hin hq
          go_wp2_with fail
          go_roundw
          case rel =>
            refine ⟨k + 1, by omega, by go_num, ⟨_, rfl⟩, Lib.hid ⟨hW.out.1.setCell HI.out _, fun j hj => ?_⟩⟩
            by_cases e : j = k
            · subst e
              have e1 : (if j < j + 1 then min q 1 else q) = min q 1 := if_pos (by omega)
              rw [HQ.out, e1, World.cell?_setCell_same _ _ _ g1]
              refine congrArg (fun z => some (Value.int .i64 z)) ?_
              first | rfl | omega | (split <;> omega)
            · rw [World.cell?_setCell_other _ _ _ _ (by intro e2; injection e2 with e3 e4 e5; omega), hW.out.2 j hj]
              by_cases h2 : j < k
              · rw [if_pos h2, if_pos (by omega)]
              · rw [if_neg h2, if_neg (by omega)]
          case measure => simp [intOf]; omega
        · have hkz : ¬ (k : Int) < (n : Int) := by omega
          have hke : k = n := by omega
          have UM : Hid (OwnInts wo w1.heap.size w2.heap.size (.slice A n cap) (M xss X Y)) := Lib.hid ⟨ints_of_cells (by rw [len_M, HNN.out]) hcap HMAX.out hA (fun j hj => by
              rw [hW.out.2 j hj, if_pos (by omega), M_at (by have := HNN.out; omega)]), HU.out.ge, HU.out.lt, fun p hp => (hW.out.1.frozen p).trans (HU.out.free p hp)⟩
          have B3 : Hid (Below w.heap.size w wo) := Lib.hid (B2.out.trans (hW.out.1.below (fun p hp => by have := HU.out.ge p hp; omega)))
          have P3 := Lib.hid (P2.out.wrote hW.out.1 (fun p hp => by have := HU.out.ge p hp; omega))
          have hz3 : w2.heap.size = wo.heap.size := hW.out.1.size.symm
          obtain ⟨c0, c1, c2, c3, c4⟩ := four_cells P3.out
          clear hW HC0 hke
          go_wp2_with fail
          refine (pbox.impl_any X Y _ (M xss X Y) wh wo UM.out.ints).mono ?_
          rw [HPR.out]
          rintro e w4 ⟨r, rfl, hr, hb⟩
          obtain ⟨ra, rl, rc, rfl⟩ := hr.rows.shape
          have B4 := Lib.hid (below_al (below_tr B3.out hb) (.cells #[.int .i64 (X : Int), .int .i64 (Y : Int), .int .i64 wh, .slice ra rl rc] 24))
          have P4 := Lib.hid ((P3.out.below hb).alloc (.cells #[.int .i64 (X : Int), .int .i64 (Y : Int), .int .i64 wh, .slice ra rl rc] 24))
          have U4 := Lib.hid (UM.out.keep (below_al hb (.cells #[.int .i64 (X : Int), .int .i64 (Y : Int), .int .i64 wh, .slice ra rl rc] 24)))
          have R4 := Lib.hid (hr.rows.below (below_al (Below.refl _ _) (.cells #[.int .i64 (X : Int), .int .i64 (Y : Int), .int .i64 wh, .slice ra rl rc] 24)))
          have hz4 := hb.size
          clear hr hb c0 c1 c2 c3 c4
          obtain ⟨c0, c1, c2, c3, c4⟩ := four_cells P4.out
          go_wp2_with fail
          refine (alike.impl_any X Y wh _ (make.rowsOf (pbox.N (M xss X Y) X Y wh) (X * Y)) X Y wh _ xss _ R4.out (HV0.out.below B4.out) HT.out hn).mono ?_
          rw [alike.res_yes (⟨HBO.out, HS.out, rfl, rfl⟩ : alike.same _ _ _ _ _ _ _ _), EA.out]
          rintro e w5 ⟨rfl, hb⟩
          have B5 := Lib.hid (below_tr B4.out hb)
          have U5 := Lib.hid (U4.out.keep hb)
          have hz5 := hb.size
          clear hb c0 c1 c2 c3 c4
          go_wp2_with fail
          go_ret2
          exact ⟨_, rfl, OwnInts.nil _ _ _, B5.out⟩
  · have EB := Lib.hid (boxB_no hs)
    rw [res_no hs]
    clear hs
    go_enter Try.func42, Try.ntmps42
    go_wp2_with fail
    refine CP.out.mono ?_
    rintro e w1 ⟨rfl, hb⟩
    have B1 := Lib.hid (below_tr B0.out hb)
    clear hb
    rw [EB.out]
    go_wp2_with fail
    go_ret2
    exact ⟨_, rfl, OwnInts.nil _ _ _, B1.out⟩

end Go.Proofs.Ytkajebhagkbcaaa.plof
