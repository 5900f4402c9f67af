/- BoxCode of the program. -/
import Derived.Test.YtnjaocgciokpaaaRlo
import Derived.Test.YtnjaocgciokpaaaCdi
import Derived.Test.YtnjaocgciokpaaaAsk
namespace Go.Proofs.Ytnjaocgciokpaaa.bcd
open Go.RowKit Go.Deep Go.Proofs.Ytnjaocgciokpaaa.base
open Go.Proofs.Ytnjaocgciokpaaa.ints (ret_int infoInt)
open Go.Proofs.Ytnjaocgciokpaaa.val (okBox boxB boxB_yes boxB_no)
open Go.Proofs.Ytnjaocgciokpaaa.rws (total)
open Go.Proofs.Ytnjaocgciokpaaa.oco
open Go.Proofs.Ytnjaocgciokpaaa.ocs (two_cells' three_cells' four_cells' R)
open Go.Proofs.Ytnjaocgciokpaaa.rlo
open Go.Proofs.Ytnjaocgciokpaaa.cdm (lt lt_le)

/-- the number with which the bit i of the string k is guessed -/
def bc (xss : List (List Int)) (k i : Nat) : Int := rn (lt k i) (pair xss i (k % 2) (k / 2))
def pre (xss : List (List Int)) (n : Nat) : List Int := (List.range n).map fun t => bc xss (t / 2) (t % 2)
theorem pre_succ (xss : List (List Int)) (n : Nat) : pre xss (n + 1) = pre xss n ++ [bc xss (n / 2) (n % 2)] := by simp [pre, List.range_succ]
theorem len_pre (xss : List (List Int)) (n : Nat) : (pre xss n).length = n := by simp [pre]
theorem pre_at (xss : List (List Int)) {k i : Nat} (h : i < 2) : pre xss (2 * k + (i + 1)) = pre xss (2 * k + i) ++ [bc xss k i] := by
  rw [← Nat.add_assoc, pre_succ, show (2 * k + i) / 2 = k by omega, show (2 * k + i) % 2 = i by omega]
def okT (x y wh : Int) (xss : List (List Int)) : Prop := okBox x y wh xss ∧ x = 2 ∧ y = 2
open Classical in
noncomputable def res (x y wh : Int) (xss : List (List Int)) : List Int × Bool := if okT x y wh xss then (pre xss 8, true) else ([], false)
theorem res_yes {x y wh : Int} {xss : List (List Int)} (h : okT x y wh xss) : res x y wh xss = (pre xss 8, true) := if_pos h
theorem res_no {x y wh : Int} {xss : List (List Int)} (h : ¬ okT x y wh xss) : res x y wh xss = ([], false) := if_neg h
theorem len_res (x y wh : Int) (xss : List (List Int)) : (res x y wh xss).1.length ≤ 1048576 := by
  by_cases h : okT x y wh xss
  · rw [res_yes h, len_pre]; decide
  · rw [res_no h]; exact Nat.zero_le _


set_option maxRecDepth 100000 in
set_option maxHeartbeats 8000000 in
theorem impl_any (x y wh : Int) (v : Value) (xss : List (List Int)) (w : World) (h : IRows w v xss) (hn : total xss ≤ 1048576) :
    Calls Try.prog 49 #[.agg #[.int .i64 x, .int .i64 y, .int .i64 wh, v]] w fun e w' => ∃ u, e = .returned (.tuple #[u, .bool (res x y wh xss).2]) ∧ OwnInts w' w.heap.size w'.heap.size u (res x y wh xss).1 ∧ Below w.heap.size w w' := by
  obtain ⟨i0, hi, hz0, hz1, hz2⟩ := info_parts infoInt
  have HBX := Lib.hid h
  have hr := val.impl_any x y wh _ xss _ (h.below (below_al (Below.refl w.heap.size w) (.cells #[.int .i64 x, .int .i64 y, .int .i64 wh, v] 50))) hn
  obtain ⟨va, vn, vc, rfl⟩ := h.shape
  have K0 := Lib.hid (Blk.new w 50 #[.int .i64 x, .int .i64 y, .int .i64 wh, .slice va vn vc])
  have B0 := Lib.hid (below_al (Below.refl w.heap.size w) (.cells #[.int .i64 x, .int .i64 y, .int .i64 wh, .slice va vn vc] 50))
  by_cases hok : okBox x y wh xss
  · rw [boxB_yes hok] at hr
    have HR := Lib.hid hr
    have HAS := Lib.hid (fun W => two.asks x y W)
    by_cases h2 : x = 2 ∧ y = 2
    · obtain ⟨rfl, rfl⟩ := h2
      have HOK := Lib.hid hok
      rw [res_yes ⟨hok, rfl, rfl⟩]
      have hmk := app.mk0 8 (by decide)
      rw [show ((8 : Nat) : Int) = 8 from rfl] at hmk
      have HAT : Hid (∀ W, Calls Try.prog 80 #[.int .i64 2, .int .i64 2] W fun e w' => e = .returned (.bool true) ∧ W = w') := Lib.hid (fun W => by have := HAS.out W; rwa [two.asksB_yes] at this)
      clear h hr hok HAS
      go_enter Try.func49, Try.ntmps49
      go_wp2_with fail
      refine HR.out.mono ?_
      rintro e w1 ⟨rfl, hb⟩
      have B1 := Lib.hid (below_tr B0.out hb)
      have K1 := Lib.hid (K0.out.below hb)
      obtain ⟨c0, c1, c2, c3⟩ := four_cells' K1.out
      clear hb HR B0 K0
      go_wp2_with fail
      refine (HAT.out w1).mono ?_
      rintro e w' ⟨rfl, rfl⟩
      have B2 := Lib.hid (below_al B1.out (.cells (madeCells #[.int .i64 0] 8) 3))
      have K2 := Lib.hid (K1.out.alloc (.cells (madeCells #[.int .i64 0] 8) 3))
      have O2 : Hid ((w1.alloc (.cells (madeCells #[.int .i64 0] 8) 3)).ownsRow (w.heap.size + 1) 3 1 (.slice (some ⟨w1.heap.size, 0, none⟩) 0 8) (2 * 0) (i64s (pre xss (2 * 0)))) := Lib.hid (by
        have := World.ownsRow_made (base := w.heap.size + 1) (e := 3) (size := 1) w1 (madeCells #[.int .i64 0] 8) 8 K1.out.lt (by decide) (by simp [madeCells])
        simpa [i64s, pre] using this)
      clear HAT B1 K1 c0 c1 c2 c3
      go_wp2_with fail
      clear hmk
      go_loopw [4, 5, 6, 7, 20] (fun out z5 z6 z7 q wr => ∃ k : Nat, k ≤ 4 ∧ q = .int .i64 k ∧ (∃ z, z5 = z) ∧ (∃ z, z6 = z) ∧ (∃ z, z7 = z) ∧ Hid (wr.ownsRow (w.heap.size + 1) 3 1 out (2 * k) (i64s (pre xss (2 * k)))) ∧ Hid (Below w.heap.size w wr) ∧ Hid (Blk wr w.heap.size 50 #[.int .i64 2, .int .i64 2, .int .i64 wh, .slice va vn vc])) (fun _ _ _ _ q _ => 4 - (intOf q).toNat)
      case atStart => exact ⟨0, by decide, rfl, ⟨_, rfl⟩, ⟨_, rfl⟩, ⟨_, rfl⟩, O2, B2, K2⟩
      case round =>
        clear O2 B2 K2
        obtain ⟨k, hk, rfl, ⟨z5, rfl⟩, ⟨z6, rfl⟩, ⟨z7, rfl⟩, hO, hB, hK⟩ := hrel
        obtain ⟨wo, rfl⟩ : ∃ wo : World, wo = wr := ⟨_, rfl⟩
        by_cases hlt : k < 4
        · have hkz : (k : Int) < 4 := by omega
          have HLT := Lib.hid hlt
          have HO0 : Hid (wo.ownsRow (w.heap.size + 1) 3 1 _ (2 * k + 0) (i64s (pre xss (2 * k + 0)))) := hO
          clear hlt
          go_wp2_with fail
          go_loopw [4, 6, 7, 23] (fun out z6 z7 q wr => ∃ i : Nat, i ≤ 2 ∧ q = .int .i64 i ∧ (∃ z, z6 = z) ∧ (∃ z, z7 = z) ∧ Hid (wr.ownsRow (w.heap.size + 1) 3 1 out (2 * k + i) (i64s (pre xss (2 * k + i)))) ∧ Hid (Below w.heap.size w wr) ∧ Hid (Blk wr w.heap.size 50 #[.int .i64 2, .int .i64 2, .int .i64 wh, .slice va vn vc])) (fun _ _ _ q _ => 2 - (intOf q).toNat)
          case atStart => exact ⟨0, by decide, rfl, ⟨_, rfl⟩, ⟨_, rfl⟩, HO0, hB, hK⟩
          case round =>
            clear HO0 hO hB hK
            obtain ⟨i, hi', rfl, ⟨z6, rfl⟩, ⟨z7, rfl⟩, hO, hB, hK⟩ := hrel
            obtain ⟨wi, rfl⟩ : ∃ wi : World, wi = wr := ⟨_, rfl⟩
            by_cases hli : i < 2
            · have hiz : (i : Int) < 2 := by omega
              have HLI := Lib.hid hli
              obtain ⟨b0, b1, b2, b3⟩ := four_cells' hK.out
              have h0 := plg.and_one k
              have h1 : (k : Int) / 2 = ((k / 2 : Nat) : Int) := by omega
              have HH0 := Lib.hid h0
              have HH1 := Lib.hid h1
              have HF := Lib.hid (fine_pair (y := i) (k0 := k % 2) (k1 := k / 2) HOK.out (by omega) (by omega) (by have := HLT.out; omega))
              obtain ⟨va4, vl4, vc4, rfl⟩ := boxl.shapez hO.out
              have HNEW : Hid (∀ W : World, (W.alloc (.cells #[.int .i64 (i : Int)] 3)).cell? ⟨W.heap.size, 0, none⟩ = some (.int .i64 (i : Int))) := Lib.hid (fun W => by rw [Joins.cell_of_block (Blk.new W _ _)]; rfl)
              clear h0 h1 hli
              go_wp2_with fail
              go_region_held3 (fun w' => w'.cell? ⟨w.heap.size, 0, none⟩ = some (.int .i64 2) ∧ w'.cell? ⟨w.heap.size, 1, none⟩ = some (.int .i64 2) ∧ w'.cell? ⟨w.heap.size, 2, none⟩ = some (.int .i64 wh) ∧ w'.cell? ⟨w.heap.size, 3, none⟩ = some (.slice va vn vc) ∧ Below wi.heap.size wi w')
                ((refine held4 b0 b1 b2 b3 ?_; repeat (first | exact Below.refl _ _ | assumption | refine below_dr ?_ | refine below_al ?_ _ | refine below_tr ?_ (by assumption))))
                (first
                  | (go_at_call 81; (with_reducible refine (rly.of2 k _ _ _ HH0.out HH1.out).mono ?_); rintro e w2 ⟨u2, rfl, ⟨pb, rfl, hpb, hgb, hb2⟩⟩)
                  | (go_at_call 82; (with_reducible refine (rlo.two i (by have := HLI.out; omega) pb (k % 2) (k / 2) (by omega) (by have := HLT.out; omega) wh _ xss _ 0 _ ?_ ?_ HOK.out ?_).mono ?_); (first | exact hpb.alloc _ | exact hpb); (refine HBX.out.below (below_tr hB.out ?_)); (repeat (first | exact Below.refl _ _ | assumption | refine below_dr ?_ | refine below_al ?_ _ | refine below_tr ?_ (by assumption))); (first | exact HNEW.out _ | exact below_cell hb2 _ _ (HNEW.out wi)); rintro e w3 ⟨u3, rfl, ⟨g3, cur3, ⟨cap3, rfl, hbl3, ht3⟩, hge3, hb3⟩⟩))
              · have hb4 : Below wi.heap.size wi w3 := by repeat (first | exact Below.refl _ _ | assumption | refine below_dr ?_ | refine below_al ?_ _ | refine below_tr ?_ (by assumption))
                have HRN := Lib.hid (rlo.right _ _ g3 (lt k i) cur3 wh w3 ⟨cap3, rfl, hbl3, ht3⟩ (lt_le k i) HF.out ⟨by have := HOK.out.2.1; omega, by have := HOK.out.2.1; omega⟩ (by rw [len_pair]; decide))
                have HLE := Lib.hid (cdi.letter k i w3 (by have := HLT.out; omega) (by have := HLI.out; omega))
                have O3 := Lib.hid (app.owns_below hO.out hb4)
                have B3 := Lib.hid (below_tr hB.out hb4)
                have K3 := Lib.hid (hK.out.below hb4)
                clear hb4 hbl3 ht3 hge3 hb3 hgb hb2 hpb hO hB hK b0 b1 b2 b3
                go_wp2_with fail
                refine HLE.out.mono ?_
                rintro e w' ⟨rfl, rfl⟩
                go_wp2_with fail
                refine HRN.out.mono ?_
                rintro e w4 ⟨rfl, hb⟩
                have O4 := Lib.hid (app.owns_below O3.out hb)
                have B4 := Lib.hid (below_tr B3.out hb)
                have K4 := Lib.hid (K3.out.below hb)
                have hsz := K4.out.lt
                have hk4 := HLT.out
                have hi2 := HLI.out
                obtain ⟨yy, hyy⟩ : ∃ yy, rn (lt k i) (pair xss i (k % 2) (k / 2)) = yy := ⟨_, rfl⟩
                have HYY : Hid (bc xss k i = yy) := Lib.hid hyy
                rw [hyy]
                clear hb O3 B3 K3 HRN HLE hyy
                go_wp2_with (at_builtin; go_must (refine wpList_append_own _ rfl (.tmp 32) (.tmp 38) 22 rfl (w.heap.size + 1) 3 i0 (.int .i64 0) 1 8 Try.underlying22 hi hz0 hz1 hz2 rfl (by decide) _ _ _ rfl (O4.out.alloc _) ⟨w4.heap.size, 0, none⟩ 1 1 [.int .i64 yy] rfl rfl ?c1_0 ?c2_0 ?c3_0 ?c4_0 ?c5_0 ?_))
                try (case c1_0 => first | exact app.one_at _ _ _ | (intro q u hq; have h5 := app.one_at w4 (.int .i64 yy) 3 q u hq; simpa using h5))
                case c2_0 => first | rfl | (intro u hu; simp at hu; subst hu; rfl)
                case c3_0 => unfold maxLen; omega
                case c4_0 => omega
                try (case c5_0 => first | omega | (simp; omega))
                intro v9 w9 hown hgrow _
                have B9 := Lib.hid ((below_al B4.out _).grown hgrow (by simp; omega) (fun j hj => by have := (O4.out.lt j hj).1; omega))
                have O9 := Lib.hid hown
                rw [app.i64s_snoc] at O9
                have GG := Lib.hid hgrow
                clear hown hgrow
                have K9 : Hid (Blk w9 w.heap.size 50 #[.int .i64 2, .int .i64 2, .int .i64 wh, .slice va vn vc]) := Lib.hid ((GG.out.block _ (K4.out.alloc _).lt (by
                  intro e
                  have := (O4.out.lt _ e.symm).1
                  omega)).trans (K4.out.alloc _))
                clear GG O4 B4 K4
                go_wp2_with fail
                go_roundw
                case rel => exact ⟨i + 1, by have := HLI.out; omega, by go_num, ⟨_, rfl⟩, ⟨_, rfl⟩, Lib.hid (by rw [pre_at xss HLI.out, HYY.out]; exact O9.out), B9, K9⟩
                case measure => have := HLI.out; simp [intOf]; omega
              · have hb4 : Below wi.heap.size wi w3 := by repeat (first | exact Below.refl _ _ | assumption | refine below_dr ?_ | refine below_al ?_ _ | refine below_tr ?_ (by assumption))
                have HRN := Lib.hid (rlo.right _ _ g3 (lt k i) cur3 wh w3 ⟨cap3, rfl, hbl3, ht3⟩ (lt_le k i) HF.out ⟨by have := HOK.out.2.1; omega, by have := HOK.out.2.1; omega⟩ (by rw [len_pair]; decide))
                have HLE := Lib.hid (cdi.letter k i w3 (by have := HLT.out; omega) (by have := HLI.out; omega))
                have O3 := Lib.hid (app.owns_below hO.out hb4)
                have B3 := Lib.hid (below_tr hB.out hb4)
                have K3 := Lib.hid (hK.out.below hb4)
                clear hb4 hbl3 ht3 hge3 hb3 hgb hb2 hpb hO hB hK b0 b1 b2 b3
                go_wp2_with fail
                refine HLE.out.mono ?_
                rintro e w' ⟨rfl, rfl⟩
                go_wp2_with fail
                refine HRN.out.mono ?_
                rintro e w4 ⟨rfl, hb⟩
                have O4 := Lib.hid (app.owns_below O3.out hb)
                have B4 := Lib.hid (below_tr B3.out hb)
                have K4 := Lib.hid (K3.out.below hb)
                have hsz := K4.out.lt
                have hk4 := HLT.out
                have hi2 := HLI.out
                obtain ⟨yy, hyy⟩ : ∃ yy, rn (lt k i) (pair xss i (k % 2) (k / 2)) = yy := ⟨_, rfl⟩
                have HYY : Hid (bc xss k i = yy) := Lib.hid hyy
                rw [hyy]
                clear hb O3 B3 K3 HRN HLE hyy
                go_wp2_with (at_builtin; go_must (refine wpList_append_own _ rfl (.tmp 32) (.tmp 38) 22 rfl (w.heap.size + 1) 3 i0 (.int .i64 0) 1 8 Try.underlying22 hi hz0 hz1 hz2 rfl (by decide) _ _ _ rfl (O4.out.alloc _) ⟨w4.heap.size, 0, none⟩ 1 1 [.int .i64 yy] rfl rfl ?c1_1 ?c2_1 ?c3_1 ?c4_1 ?c5_1 ?_))
                try (case c1_1 => first | exact app.one_at _ _ _ | (intro q u hq; have h5 := app.one_at w4 (.int .i64 yy) 3 q u hq; simpa using h5))
                case c2_1 => first | rfl | (intro u hu; simp at hu; subst hu; rfl)
                case c3_1 => unfold maxLen; omega
                case c4_1 => omega
                try (case c5_1 => first | omega | (simp; omega))
                intro v9 w9 hown hgrow _
                have B9 := Lib.hid ((below_al B4.out _).grown hgrow (by simp; omega) (fun j hj => by have := (O4.out.lt j hj).1; omega))
                have O9 := Lib.hid hown
                rw [app.i64s_snoc] at O9
                have GG := Lib.hid hgrow
                clear hown hgrow
                have K9 : Hid (Blk w9 w.heap.size 50 #[.int .i64 2, .int .i64 2, .int .i64 wh, .slice va vn vc]) := Lib.hid ((GG.out.block _ (K4.out.alloc _).lt (by
                  intro e
                  have := (O4.out.lt _ e.symm).1
                  omega)).trans (K4.out.alloc _))
                clear GG O4 B4 K4
                go_wp2_with fail
                go_roundw
                case rel => exact ⟨i + 1, by have := HLI.out; omega, by go_num, ⟨_, rfl⟩, ⟨_, rfl⟩, Lib.hid (by rw [pre_at xss HLI.out, HYY.out]; exact O9.out), B9, K9⟩
                case measure => have := HLI.out; simp [intOf]; omega
            · have hiz : ¬ (i : Int) < 2 := by omega
              obtain rfl : i = 2 := by omega
              have HO5 : Hid (wi.ownsRow (w.heap.size + 1) 3 1 u4 (2 * (k + 1)) (i64s (pre xss (2 * (k + 1))))) := Lib.hid (by rw [Nat.mul_succ]; exact hO.out)
              clear hO
              go_wp2_with fail
              go_roundw
              case rel => exact ⟨k + 1, by have := HLT.out; omega, by go_num, ⟨_, rfl⟩, ⟨_, rfl⟩, ⟨_, rfl⟩, HO5, hB, hK⟩
              case measure => have := HLT.out; simp [intOf]; omega
        · have hkz : ¬ (k : Int) < 4 := by omega
          obtain rfl : k = 4 := by omega
          have OF := Lib.hid (app.ints_of_owns hO.out)
          go_wp2_with fail
          go_ret2
          exact ⟨_, rfl, OF.out.mono (Nat.le_succ _) (Nat.le_refl _), hB.out⟩
    · rw [res_no (fun h => h2 h.2)]
      have HA0 : Hid (∀ W, Calls Try.prog 80 #[.int .i64 x, .int .i64 y] W fun e w' => e = .returned (.bool false) ∧ W = w') := Lib.hid (fun W => by have := HAS.out W; rwa [two.asksB_no h2] at this)
      clear h hr hok h2 HAS
      go_enter Try.func49, Try.ntmps49
      go_wp2_with fail
      refine HR.out.mono ?_
      rintro e w1 ⟨rfl, hb⟩
      have B1 := Lib.hid (below_tr B0.out hb)
      have K1 := Lib.hid (K0.out.below hb)
      obtain ⟨c0, c1, c2, c3⟩ := four_cells' K1.out
      clear hb HR B0 K0
      go_wp2_with fail
      refine (HA0.out w1).mono ?_
      rintro e w' ⟨rfl, rfl⟩
      go_wp2_with fail
      go_ret2
      exact ⟨_, rfl, OwnInts.nil _ _ _, B1.out⟩
  · rw [boxB_no hok] at hr
    rw [res_no (fun h => hok h.1)]
    have HR := Lib.hid hr
    clear h hr hok K0
    go_enter Try.func49, Try.ntmps49
    go_wp2_with fail
    refine HR.out.mono ?_
    rintro e w1 ⟨rfl, hb⟩
    have B1 := Lib.hid (below_tr B0.out hb)
    clear hb HR B0
    go_wp2_with fail
    go_ret2
    exact ⟨_, rfl, OwnInts.nil _ _ _, B1.out⟩

end Go.Proofs.Ytnjaocgciokpaaa.bcd
