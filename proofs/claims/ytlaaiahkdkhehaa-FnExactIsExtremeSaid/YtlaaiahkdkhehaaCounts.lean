/- AnswerCounts of the model and of the program. -/
import Derived.Test.YtlaaiahkdkhehaaLoudc
import Derived.Test.YtlaaiahkdkhehaaApp
namespace Go.Proofs.Ytlaaiahkdkhehaa.counts
open Go.RowKit Go.Deep Go.Proofs.Ytlaaiahkdkhehaa.base
open Go.Proofs.Ytlaaiahkdkhehaa.val (okBox okRow okSizes boxB boxB_yes boxB_no)
open Go.Proofs.Ytlaaiahkdkhehaa.ints (ret_int infoInt)
open Go.Proofs.Ytlaaiahkdkhehaa.rws (total)
open Go.Proofs.Ytlaaiahkdkhehaa.row (one at_ nn)
open Go.Proofs.Ytlaaiahkdkhehaa.loud (Quiet quietB quietB_yes quietB_no at_cast at_zero at_top)

def f0 (xss : List (List Int)) (Y a : Nat) : Int := one xss (a * Y) 0
def f1 (xss : List (List Int)) (c : Nat) : Int := one xss c 1
def up0 (xss : List (List Int)) (Y k : Nat) : List Int := (List.range k).map (f0 xss Y)
def up1 (xss : List (List Int)) (X Y k : Nat) : List Int := up0 xss Y X ++ (List.range k).map (f1 xss)
theorem up0_succ (xss : List (List Int)) (Y k : Nat) : up0 xss Y (k + 1) = up0 xss Y k ++ [f0 xss Y k] := by simp [up0, List.range_succ]
theorem up1_succ (xss : List (List Int)) (X Y k : Nat) : up1 xss X Y (k + 1) = up1 xss X Y k ++ [f1 xss k] := by simp [up1, List.range_succ]
theorem up1_zero (xss : List (List Int)) (X Y : Nat) : up1 xss X Y 0 = up0 xss Y X := by simp [up1]
theorem len_up0 (xss : List (List Int)) (Y k : Nat) : (up0 xss Y k).length = k := by simp [up0]
theorem len_up1 (xss : List (List Int)) (X Y k : Nat) : (up1 xss X Y k).length = X + k := by simp [up1, up0]
open Classical in
noncomputable def data (x y wh : Int) (xss : List (List Int)) : List Int := if okBox x y wh xss ∧ Quiet xss x.toNat y.toNat then up1 xss x.toNat y.toNat y.toNat else []
theorem data_yes {X Y : Nat} {wh : Int} {xss : List (List Int)} (h : okBox X Y wh xss) (hq : Quiet xss X Y) : data X Y wh xss = up1 xss X Y Y := if_pos ⟨h, hq⟩
theorem data_no {x y wh : Int} {xss : List (List Int)} (h : quietB x y wh xss = false) : data x y wh xss = [] := if_neg (fun h' => by rw [show quietB x y wh xss = true from if_pos h'] at h; cases h)
theorem len_data (x y wh : Int) (xss : List (List Int)) : (data x y wh xss).length ≤ 1048576 := by
  unfold data
  split
  · rename_i h
    rw [len_up1]
    obtain ⟨⟨_, a2⟩, _, b2⟩ := h.1.1
    omega
  · simp


set_option maxRecDepth 100000 in
set_option maxHeartbeats 4000000 in
theorem spec_any (x y wh : Int) (v : Value) (xss : List (List Int)) (w : World) (h : IRows w v xss) (hn : total xss ≤ 1048576) :
    Calls Try.prog 89 #[.agg #[.int .i64 x, .int .i64 y, .int .i64 wh, v]] w fun e w' => ∃ u, e = .returned (.tuple #[u, .bool (quietB x y wh xss)]) ∧ Ints w' u (data x y wh xss) ∧ Below w.heap.size w w' := by
  obtain ⟨i0, hi, hz0, hz1, hz2⟩ := info_parts infoInt
  obtain ⟨va, vn, vc, rfl⟩ := h.shape
  have H := Lib.hid h
  clear h
  have hB0 := Lib.hid (below_al (below_al (Below.refl w.heap.size w) (.cells #[.int .i64 x, .int .i64 y, .int .i64 wh, .slice va vn vc] 24)) (.cells #[] 3))
  have hK0 := Lib.hid ((Blk.new w 24 #[.int .i64 x, .int .i64 y, .int .i64 wh, .slice va vn vc]).alloc (.cells #[] 3))
  have hO0 : Hid (((w.alloc (.cells #[.int .i64 x, .int .i64 y, .int .i64 wh, .slice va vn vc] 24)).alloc (.cells #[] 3)).ownsRow (w.heap.size + 1) 3 1 (.slice (some ⟨w.heap.size + 1, 0, none⟩) 0 0) 0 (i64s [])) :=
    Lib.hid (by
      have := World.ownsRow_made (base := w.heap.size + 1) (e := 3) (size := 1) (w.alloc (.cells #[.int .i64 x, .int .i64 y, .int .i64 wh, .slice va vn vc] 24)) #[] 0 (by simp) (Nat.zero_le _) rfl
      simpa [i64s] using this)
  have hr := val.spec_any x y wh _ xss _ (H.out.below hB0.out) hn
  by_cases hok : okBox x y wh xss
  · obtain ⟨X, rfl⟩ : ∃ X : Nat, x = X := ⟨x.toNat, by have := hok.1.1.1; omega⟩
    obtain ⟨Y, rfl⟩ : ∃ Y : Nat, y = Y := ⟨y.toNat, by have := hok.1.2.1; omega⟩
    rw [boxB_yes hok] at hr
    obtain ⟨⟨hX1, hX2⟩, hY1, hY2⟩ := hok.1
    have HR := Lib.hid hr
    have hqq := fun W hW => loud.l2quiet X Y wh (.slice va vn vc) xss W hW hok
    have HOK := Lib.hid hok
    by_cases hq : Quiet xss X Y
    · rw [quietB_yes hok hq] at hqq ⊢
      rw [data_yes hok hq]
      have HQ := Lib.hid hqq
      clear hok hr hqq hq
      go_enter Try.func89, Try.ntmps89
      go_wp2_with fail
      refine HR.out.mono ?_
      rintro e w1 ⟨rfl, hb⟩
      have B1 := Lib.hid (below_tr hB0.out hb)
      have K1 := Lib.hid (hK0.out.below hb)
      have O1 := Lib.hid (app.owns_below hO0.out hb)
      obtain ⟨c0, c1, c2, c3, c4⟩ := four_cells K1.out
      clear hb HR hB0 hK0 hO0
      go_wp2_with fail
      refine (HQ.out _ (H.out.below B1.out)).mono ?_
      rintro e w2 ⟨rfl, hb⟩
      have B2 := Lib.hid (below_tr B1.out hb)
      have K2 := Lib.hid (K1.out.below hb)
      have O2 := Lib.hid (app.owns_below O1.out hb)
      clear hb HQ B1 K1 O1 c0 c1 c2 c3 c4
      go_wp2_with fail
      go_loopw [4, 5] (fun out i wr => ∃ k : Nat, k ≤ X ∧ i = .int .i64 k ∧ Hid (wr.ownsRow (w.heap.size + 1) 3 1 out k (i64s (up0 xss Y k))) ∧ Hid (Below w.heap.size w wr) ∧ Hid (Blk wr w.heap.size 24 #[.int .i64 (X : Int), .int .i64 (Y : Int), .int .i64 wh, .slice va vn vc])) (fun _ i _ => X - (intOf i).toNat)
      case atStart => exact ⟨0, Nat.zero_le _, rfl, O2, B2, K2⟩
      case round =>
        obtain ⟨k, hk, rfl, hO, hB, hK⟩ := hrel
        clear O2 B2 K2
        obtain ⟨c0, c1, c2, c3, c4⟩ := four_cells hK.out
        by_cases hlt : k < X
        · have hkz : (k : Int) < (X : Int) := by omega
          have hv := row.at_lt HOK.out (i := (k : Int)) (j := 0) (by omega) (by omega) (by omega) (by omega)
          rw [at_zero] at hv
          have HV := Lib.hid hv
          have hrw := row.l2row X Y wh (k : Int) 0 _ xss _ (H.out.below hB.out) HOK.out (by omega) (by omega) (by omega) (by omega)
          rw [at_zero] at hrw
          have HRW := Lib.hid hrw
          clear hv hrw
          go_wp2_with fail
          refine HRW.out.mono ?_
          rintro e w1 ⟨u, rfl, hu, hb⟩
          have O1 := Lib.hid (app.owns_below hO.out hb)
          have B1 := Lib.hid (below_tr hB.out hb)
          have K1 := Lib.hid (hK.out.below hb)
          have HU := Lib.hid hu
          clear hb hO hB hK hu HRW c0 c1 c2 c3 c4
          go_wp2_with fail
          refine (row.l2one _ X Y wh 0 xss (k * Y) _ HOK.out HV.out HU.out).mono ?_
          rintro e w2 ⟨rfl, hb⟩
          have O2 := Lib.hid (app.owns_below O1.out hb)
          have B2 := Lib.hid (below_tr B1.out hb)
          have K2 := Lib.hid (K1.out.below hb)
          have hsz := K2.out.lt
          clear hb O1 B1 K1 HU HV
          go_wp2_with (at_builtin; go_must (refine wpList_append_own _ rfl (.tmp 23) (.tmp 28) 36 rfl (w.heap.size + 1) 3 i0 (.int .i64 0) 1 8 Try.underlying36 hi hz0 hz1 hz2 rfl (by decide) _ _ _ rfl (O2.out.alloc _) ⟨w2.heap.size, 0, none⟩ 1 1 [.int .i64 (one xss (k * Y) 0)] rfl rfl ?c1 ?c2 ?c3 ?c4 ?c5 ?_))
          case c1 => exact app.one_at _ _ _
          case c2 => intro u hu; simp at hu; subst hu; rfl
          case c3 => unfold maxLen; omega
          case c4 => omega
          case c5 => simp; omega
          intro v' w9 hown' hgrow _
          have B9 := Lib.hid ((below_al B2.out _).grown hgrow (by simp; omega) (fun j hj => Nat.le_of_succ_le (O2.out.lt j hj).1))
          have K9 : Hid (Blk w9 w.heap.size 24 #[.int .i64 (X : Int), .int .i64 (Y : Int), .int .i64 wh, .slice va vn vc]) := Lib.hid ((hgrow.block _ (K2.out.alloc _).lt (by
            intro e
            have := (O2.out.lt _ e.symm).1
            omega)).trans (K2.out.alloc _))
          have O9 := Lib.hid hown'
          rw [app.i64s_snoc] at O9
          clear hown' hgrow O2 B2 K2
          go_wp2_with fail
          go_roundw
          case rel => exact ⟨k + 1, by omega, by go_num, by rw [up0_succ]; exact O9, B9, K9⟩
          case measure => simp [intOf]; omega
        · have hkz : ¬ (k : Int) < (X : Int) := by omega
          have hkx : k = X := by omega
          have HKX := Lib.hid hkx
          clear hkx
          go_wp2_with fail
          have O2 : Hid (wr.ownsRow (w.heap.size + 1) 3 1 _ (X + 0) (i64s (up1 xss X Y 0))) := Lib.hid (by have := hO.out; rw [HKX.out] at this; rw [up1_zero]; exact this)
          clear c0 c1 c2 c3 c4
          go_loopw [4, 6] (fun out i wr => ∃ c : Nat, c ≤ Y ∧ i = .int .i64 c ∧ Hid (wr.ownsRow (w.heap.size + 1) 3 1 out (X + c) (i64s (up1 xss X Y c))) ∧ Hid (Below w.heap.size w wr) ∧ Hid (Blk wr w.heap.size 24 #[.int .i64 (X : Int), .int .i64 (Y : Int), .int .i64 wh, .slice va vn vc])) (fun _ i _ => Y - (intOf i).toNat)
          case atStart => exact ⟨0, Nat.zero_le _, rfl, O2, hB, hK⟩
          case round =>
            obtain ⟨c, hc, rfl, hO, hB, hK⟩ := hrel
            clear O2
            obtain ⟨c0, c1, c2, c3, c4⟩ := four_cells hK.out
            by_cases hlc : c < Y
            · have hkc : (c : Int) < (Y : Int) := by omega
              have hv := row.at_lt HOK.out (i := 0) (j := (c : Int)) (by omega) (by omega) (by omega) (by omega)
              rw [at_top] at hv
              have HV := Lib.hid hv
              have hrw := row.l2row X Y wh 0 (c : Int) _ xss _ (H.out.below hB.out) HOK.out (by omega) (by omega) (by omega) (by omega)
              rw [at_top] at hrw
              have HRW := Lib.hid hrw
              clear hv hrw
              go_wp2_with fail
              refine HRW.out.mono ?_
              rintro e w1 ⟨u, rfl, hu, hb⟩
              have O1 := Lib.hid (app.owns_below hO.out hb)
              have B1 := Lib.hid (below_tr hB.out hb)
              have K1 := Lib.hid (hK.out.below hb)
              have HU := Lib.hid hu
              clear hb hO hB hK hu HRW c0 c1 c2 c3 c4
              go_wp2_with fail
              refine (row.l2one _ X Y wh 1 xss c _ HOK.out HV.out HU.out).mono ?_
              rintro e w2 ⟨rfl, hb⟩
              have O2 := Lib.hid (app.owns_below O1.out hb)
              have B2 := Lib.hid (below_tr B1.out hb)
              have K2 := Lib.hid (K1.out.below hb)
              have hsz := K2.out.lt
              clear hb O1 B1 K1 HU HV
              go_wp2_with (at_builtin; go_must (refine wpList_append_own _ rfl (.tmp 36) (.tmp 41) 36 rfl (w.heap.size + 1) 3 i0 (.int .i64 0) 1 8 Try.underlying36 hi hz0 hz1 hz2 rfl (by decide) _ _ _ rfl (O2.out.alloc _) ⟨w2.heap.size, 0, none⟩ 1 1 [.int .i64 (one xss c 1)] rfl rfl ?c1 ?c2 ?c3 ?c4 ?c5 ?_))
              case c1 => exact app.one_at _ _ _
              case c2 => intro u hu; simp at hu; subst hu; rfl
              case c3 => unfold maxLen; omega
              case c4 => omega
              case c5 => simp; omega
              intro v' w9 hown' hgrow _
              have B9 := Lib.hid ((below_al B2.out _).grown hgrow (by simp; omega) (fun j hj => Nat.le_of_succ_le (O2.out.lt j hj).1))
              have K9 : Hid (Blk w9 w.heap.size 24 #[.int .i64 (X : Int), .int .i64 (Y : Int), .int .i64 wh, .slice va vn vc]) := Lib.hid ((hgrow.block _ (K2.out.alloc _).lt (by
                intro e
                have := (O2.out.lt _ e.symm).1
                omega)).trans (K2.out.alloc _))
              have O9 := Lib.hid hown'
              rw [app.i64s_snoc] at O9
              clear hown' hgrow O2 B2 K2
              go_wp2_with fail
              go_roundw
              case rel => exact ⟨c + 1, by omega, by go_num, by rw [up1_succ]; exact O9, B9, K9⟩
              case measure => simp [intOf]; omega
            · have hkc : ¬ (c : Int) < (Y : Int) := by omega
              have hcy : c = Y := by omega
              have HCY := Lib.hid hcy
              clear hcy
              go_wp2_with fail
              go_ret2
              refine ⟨_, rfl, ?_, hB.out⟩
              have := (app.ints_of_owns hO.out).ints
              rw [HCY.out] at this
              exact this
    · rw [show quietB X Y wh xss = false from if_neg (fun h => hq h.2)] at hqq ⊢
      rw [data_no (show quietB X Y wh xss = false from if_neg (fun h => hq h.2))]
      have HQ := Lib.hid hqq
      clear hok hr hqq hq
      go_enter Try.func89, Try.ntmps89
      go_wp2_with fail
      refine HR.out.mono ?_
      rintro e w1 ⟨rfl, hb⟩
      have B1 := Lib.hid (below_tr hB0.out hb)
      have K1 := Lib.hid (hK0.out.below hb)
      obtain ⟨c0, c1, c2, c3, c4⟩ := four_cells K1.out
      clear hb HR hB0 hK0 hO0
      go_wp2_with fail
      refine (HQ.out _ (H.out.below B1.out)).mono ?_
      rintro e w2 ⟨rfl, hb⟩
      have B2 := Lib.hid (below_tr B1.out hb)
      clear hb HQ B1 K1 c0 c1 c2 c3 c4
      go_wp2_with fail
      go_ret2
      exact ⟨_, rfl, app.empty _ _ _ (Nat.zero_le _), B2.out⟩
  · rw [boxB_no hok] at hr
    rw [quietB_no hok, data_no (quietB_no hok)]
    have HR := Lib.hid hr
    clear hok hr hK0 hO0
    go_enter Try.func89, Try.ntmps89
    go_wp2_with fail
    refine HR.out.mono ?_
    rintro e w1 ⟨rfl, hb⟩
    have B1 := Lib.hid (below_tr hB0.out hb)
    clear hb HR
    go_wp2_with fail
    go_ret2
    exact ⟨_, rfl, app.empty _ _ _ (Nat.zero_le _), B1.out⟩


set_option maxRecDepth 100000 in
set_option maxHeartbeats 4000000 in
theorem first (X Y : Nat) (wh : Int) (v : Value) (xss : List (List Int)) (w : World) (h : IRows w v xss) (hok : okBox X Y wh xss) :
    Calls Try.prog 130 #[.agg #[.int .i64 (X : Int), .int .i64 (Y : Int), .int .i64 wh, v]] w fun e w' => ∃ u, e = .returned u ∧ OwnInts w' w.heap.size w'.heap.size u (up1 xss X Y Y) ∧ Below w.heap.size w w' := by
  obtain ⟨i0, hi, hz0, hz1, hz2⟩ := info_parts infoInt
  obtain ⟨va, vn, vc, rfl⟩ := h.shape
  have H := Lib.hid h
  have HOK := Lib.hid hok
  obtain ⟨⟨hX1, hX2⟩, hY1, hY2⟩ := hok.1
  have hm : (X : Int) + (Y : Int) = ((X + Y : Nat) : Int) := by simp
  have hmk := app.mk0 (X + Y) (by omega)
  rw [← hm] at hmk
  have B0 := Lib.hid (below_al (below_al (Below.refl w.heap.size w) (.cells #[.int .i64 (X : Int), .int .i64 (Y : Int), .int .i64 wh, .slice va vn vc] 24)) (.cells (madeCells #[.int .i64 0] (X + Y)) 3))
  have K0 := Lib.hid ((Blk.new w 24 #[.int .i64 (X : Int), .int .i64 (Y : Int), .int .i64 wh, .slice va vn vc]).alloc (.cells (madeCells #[.int .i64 0] (X + Y)) 3))
  have O0 : Hid (((w.alloc (.cells #[.int .i64 (X : Int), .int .i64 (Y : Int), .int .i64 wh, .slice va vn vc] 24)).alloc (.cells (madeCells #[.int .i64 0] (X + Y)) 3)).ownsRow (w.heap.size + 1) 3 1 (.slice (some ⟨w.heap.size + 1, 0, none⟩) 0 (X + Y)) 0 (i64s [])) :=
    Lib.hid (by
      have := World.ownsRow_made (base := w.heap.size + 1) (e := 3) (size := 1) (w.alloc (.cells #[.int .i64 (X : Int), .int .i64 (Y : Int), .int .i64 wh, .slice va vn vc] 24)) (madeCells #[.int .i64 0] (X + Y)) (X + Y) (by simp) (by unfold maxLen; omega) (by simp [madeCells])
      simpa [i64s] using this)
  clear h hok hm
  go_enter Try.func130, Try.ntmps130
  go_wp2_with fail
  clear hmk
  go_loopw [3, 12] (fun out i wr => ∃ k : Nat, k ≤ 2 ∧ i = .int .i64 k ∧ Hid ((k = 0 → wr.ownsRow (w.heap.size + 1) 3 1 out 0 (i64s [])) ∧ (k = 1 → wr.ownsRow (w.heap.size + 1) 3 1 out X (i64s (up0 xss Y X))) ∧ (k = 2 → wr.ownsRow (w.heap.size + 1) 3 1 out (X + Y) (i64s (up1 xss X Y Y)))) ∧ Hid (Below w.heap.size w wr) ∧ Hid (Blk wr w.heap.size 24 #[.int .i64 (X : Int), .int .i64 (Y : Int), .int .i64 wh, .slice va vn vc])) (fun _ i _ => 2 - (intOf i).toNat)
  case atStart => exact ⟨0, by omega, rfl, Lib.hid ⟨fun _ => O0.out, fun h => by omega, fun h => by omega⟩, B0, K0⟩
  case round =>
      obtain ⟨k, hk, rfl, hO, hB, hK⟩ := hrel
      clear B0 K0 O0
      obtain ⟨wo, rfl⟩ : ∃ wo : World, wo = wr := ⟨_, rfl⟩
      obtain ⟨c0, c1, c2, c3, c4⟩ := four_cells hK.out
      have hk3 : k = 0 ∨ k = 1 ∨ k = 2 := by omega
      rcases hk3 with rfl | rfl | rfl
      · have OS := Lib.hid (hO.out.1 rfl)
        clear hO
        go_wp2_with fail
        refine (loud.q0 X Y wh _ xss _ (H.out.below hB.out)).mono ?_
        rintro e w1 ⟨rfl, hb⟩
        have O1 : Hid (w1.ownsRow (w.heap.size + 1) 3 1 _ (0) (i64s (up0 xss Y 0))) := Lib.hid (app.owns_below OS.out hb)
        have B1 := Lib.hid (below_tr hB.out hb)
        have K1 := Lib.hid (hK.out.below hb)
        clear hb OS hB hK c0 c1 c2 c3 c4
        go_wp2_with fail
        go_loopw [3, 18] (fun out j wi => ∃ c : Nat, c ≤ X ∧ j = .int .i64 c ∧ Hid (wi.ownsRow (w.heap.size + 1) 3 1 out (c) (i64s (up0 xss Y c))) ∧ Hid (Below w.heap.size w wi) ∧ Hid (Blk wi w.heap.size 24 #[.int .i64 (X : Int), .int .i64 (Y : Int), .int .i64 wh, .slice va vn vc])) (fun _ j _ => X - (intOf j).toNat)
        case atStart => exact ⟨0, Nat.zero_le _, rfl, O1, B1, K1⟩
        case round =>
          obtain ⟨c, hc, rfl, hO, hB, hK⟩ := hrel
          clear O1 B1 K1
          obtain ⟨c0, c1, c2, c3, c4⟩ := four_cells hK.out
          by_cases hlc : c < X
          · have hkc : (c : Int) < (X : Int) := by omega
            have hcall := loud.ac0 X Y wh c 0 _ xss _ (H.out.below hB.out) HOK.out hlc (by omega)
            rw [Nat.add_zero] at hcall
            have HC := Lib.hid hcall
            clear hcall
            have hd : True := trivial
            · go_wp2_with fail
              refine HC.out.mono ?_
              rintro e w2 ⟨rfl, hb⟩
              have O2 := Lib.hid (app.owns_below hO.out hb)
              have B2 := Lib.hid (below_tr hB.out hb)
              have K2 := Lib.hid (hK.out.below hb)
              have hsz := K2.out.lt
              clear hb hO hB hK HC c0 c1 c2 c3 c4
              go_wp2_with (at_builtin; go_must (refine wpList_append_own _ rfl (.tmp 21) (.tmp 26) 36 rfl (w.heap.size + 1) 3 i0 (.int .i64 0) 1 8 Try.underlying36 hi hz0 hz1 hz2 rfl (by decide) _ _ _ rfl (O2.out.alloc _) ⟨w2.heap.size, 0, none⟩ 1 1 [.int .i64 (one xss (c * Y) 0)] rfl rfl ?c1 ?c2 ?c3 ?c4 ?c5 ?_))
              case c1 => exact app.one_at _ _ _
              case c2 => intro u hu; simp at hu; subst hu; rfl
              case c3 => unfold maxLen; omega
              case c4 => omega
              case c5 => simp; omega
              intro v' w9 hown' hgrow _
              have B9 := Lib.hid ((below_al B2.out _).grown hgrow (by simp; omega) (fun j hj => Nat.le_of_succ_le (O2.out.lt j hj).1))
              have K9 : Hid (Blk w9 w.heap.size 24 #[.int .i64 (X : Int), .int .i64 (Y : Int), .int .i64 wh, .slice va vn vc]) := Lib.hid ((hgrow.block _ (K2.out.alloc _).lt (by
                intro e
                have := (O2.out.lt _ e.symm).1
                omega)).trans (K2.out.alloc _))
              have O9 := Lib.hid hown'
              rw [app.i64s_snoc] at O9
              clear hown' hgrow O2 B2 K2
              go_wp2_with fail
              go_roundw
              case rel => exact ⟨c + 1, by omega, by go_num, by rw [up0_succ]; exact O9, B9, K9⟩
              case measure => simp [intOf]; omega
          · have hkc : ¬ (c : Int) < (X : Int) := by omega
            have hcy : c = X := by omega
            have HCY := Lib.hid hcy
            clear hcy
            have HD := Lib.hid (show wr.ownsRow (w.heap.size + 1) 3 1 _ (X) (i64s (up0 xss Y X)) from by have := hO.out; rw [HCY.out] at this; exact this)
            go_wp2_with fail
            go_roundw
            case rel => exact ⟨1, by omega, rfl, Lib.hid ⟨fun h => by omega, fun h => HD.out, fun h => by omega⟩, hB, hK⟩
            case measure => simp [intOf]
      · have OS : Hid (wo.ownsRow (w.heap.size + 1) 3 1 _ (X + 0) (i64s (up1 xss X Y 0))) := Lib.hid (by rw [up1_zero]; exact hO.out.2.1 rfl)
        clear hO
        go_wp2_with fail
        refine (loud.q1 X Y wh _ xss _ (H.out.below hB.out)).mono ?_
        rintro e w1 ⟨rfl, hb⟩
        have O1 : Hid (w1.ownsRow (w.heap.size + 1) 3 1 _ (X + 0) (i64s (up1 xss X Y 0))) := Lib.hid (app.owns_below OS.out hb)
        have B1 := Lib.hid (below_tr hB.out hb)
        have K1 := Lib.hid (hK.out.below hb)
        clear hb OS hB hK c0 c1 c2 c3 c4
        go_wp2_with fail
        go_loopw [3, 18] (fun out j wi => ∃ c : Nat, c ≤ Y ∧ j = .int .i64 c ∧ Hid (wi.ownsRow (w.heap.size + 1) 3 1 out (X + c) (i64s (up1 xss X Y c))) ∧ Hid (Below w.heap.size w wi) ∧ Hid (Blk wi w.heap.size 24 #[.int .i64 (X : Int), .int .i64 (Y : Int), .int .i64 wh, .slice va vn vc])) (fun _ j _ => Y - (intOf j).toNat)
        case atStart => exact ⟨0, Nat.zero_le _, rfl, O1, B1, K1⟩
        case round =>
          obtain ⟨c, hc, rfl, hO, hB, hK⟩ := hrel
          clear O1 B1 K1
          obtain ⟨c0, c1, c2, c3, c4⟩ := four_cells hK.out
          by_cases hlc : c < Y
          · have hkc : (c : Int) < (Y : Int) := by omega
            have hcall := loud.ac1 X Y wh c 0 _ xss _ (H.out.below hB.out) HOK.out hlc (by omega)
            rw [Nat.zero_mul, Nat.zero_add] at hcall
            have HC := Lib.hid hcall
            clear hcall
            have hd : True := trivial
            · go_wp2_with fail
              refine HC.out.mono ?_
              rintro e w2 ⟨rfl, hb⟩
              have O2 := Lib.hid (app.owns_below hO.out hb)
              have B2 := Lib.hid (below_tr hB.out hb)
              have K2 := Lib.hid (hK.out.below hb)
              have hsz := K2.out.lt
              clear hb hO hB hK HC c0 c1 c2 c3 c4
              go_wp2_with (at_builtin; go_must (refine wpList_append_own _ rfl (.tmp 21) (.tmp 26) 36 rfl (w.heap.size + 1) 3 i0 (.int .i64 0) 1 8 Try.underlying36 hi hz0 hz1 hz2 rfl (by decide) _ _ _ rfl (O2.out.alloc _) ⟨w2.heap.size, 0, none⟩ 1 1 [.int .i64 (one xss c 1)] rfl rfl ?c1 ?c2 ?c3 ?c4 ?c5 ?_))
              case c1 => exact app.one_at _ _ _
              case c2 => intro u hu; simp at hu; subst hu; rfl
              case c3 => unfold maxLen; omega
              case c4 => omega
              case c5 => simp; omega
              intro v' w9 hown' hgrow _
              have B9 := Lib.hid ((below_al B2.out _).grown hgrow (by simp; omega) (fun j hj => Nat.le_of_succ_le (O2.out.lt j hj).1))
              have K9 : Hid (Blk w9 w.heap.size 24 #[.int .i64 (X : Int), .int .i64 (Y : Int), .int .i64 wh, .slice va vn vc]) := Lib.hid ((hgrow.block _ (K2.out.alloc _).lt (by
                intro e
                have := (O2.out.lt _ e.symm).1
                omega)).trans (K2.out.alloc _))
              have O9 := Lib.hid hown'
              rw [app.i64s_snoc] at O9
              clear hown' hgrow O2 B2 K2
              go_wp2_with fail
              go_roundw
              case rel => exact ⟨c + 1, by omega, by go_num, by rw [up1_succ]; exact O9, B9, K9⟩
              case measure => simp [intOf]; omega
          · have hkc : ¬ (c : Int) < (Y : Int) := by omega
            have hcy : c = Y := by omega
            have HCY := Lib.hid hcy
            clear hcy
            have HD := Lib.hid (show wr.ownsRow (w.heap.size + 1) 3 1 _ (X + Y) (i64s (up1 xss X Y Y)) from by have := hO.out; rw [HCY.out] at this; exact this)
            go_wp2_with fail
            go_roundw
            case rel => exact ⟨2, by omega, rfl, Lib.hid ⟨fun h => by omega, fun h => by omega, fun h => HD.out⟩, hB, hK⟩
            case measure => simp [intOf]
      · have OF := Lib.hid (hO.out.2.2 rfl)
        go_wp2_with fail
        go_ret
        exact ⟨_, rfl, (app.ints_of_owns OF.out).mono (by omega) (Nat.le_refl _), hB.out⟩


set_option maxHeartbeats 1000000 in
theorem impl_any (x y wh : Int) (v : Value) (xss : List (List Int)) (w : World) (h : IRows w v xss) (hn : total xss ≤ 1048576) :
    Calls Try.prog 90 #[.agg #[.int .i64 x, .int .i64 y, .int .i64 wh, v]] w fun e w' => ∃ u, e = .returned (.tuple #[u, .bool (quietB x y wh xss)]) ∧ OwnInts w' w.heap.size w'.heap.size u (data x y wh xss) ∧ Below w.heap.size w w' := by
  obtain ⟨va, vn, vc, rfl⟩ := h.shape
  have H := Lib.hid h
  have K0 := Lib.hid (Blk.new w 24 #[.int .i64 x, .int .i64 y, .int .i64 wh, .slice va vn vc])
  have hr := loud.impl_quiet x y wh _ xss _ (h.below (below_al (Below.refl _ _) (.cells #[.int .i64 x, .int .i64 y, .int .i64 wh, .slice va vn vc] 24))) hn
  clear h
  by_cases hok : okBox x y wh xss
  · obtain ⟨X, rfl⟩ : ∃ X : Nat, x = X := ⟨x.toNat, by have := hok.1.1.1; omega⟩
    obtain ⟨Y, rfl⟩ : ∃ Y : Nat, y = Y := ⟨y.toNat, by have := hok.1.2.1; omega⟩
    rw [boxB_yes hok] at hr
    have HOK := Lib.hid hok
    by_cases hq : Quiet xss X Y
    · rw [quietB_yes hok hq] at hr ⊢
      rw [data_yes hok hq]
      have HR := Lib.hid hr
      clear hok hr hq
      go_enter Try.func90, Try.ntmps90
      go_wp2_with fail
      refine HR.out.mono ?_
      rintro e w1 ⟨rfl, hb⟩
      have B1 := Lib.hid (below_tr (below_al (Below.refl _ _) _) hb)
      have K1 := Lib.hid (K0.out.below hb)
      obtain ⟨c0, c1, c2, c3, c4⟩ := four_cells K1.out
      clear hb HR K0
      go_wp2_with fail
      refine (first X Y wh _ xss _ (H.out.below B1.out) HOK.out).mono ?_
      rintro e w2 ⟨u, rfl, hu, hb⟩
      have B2 := Lib.hid (below_tr B1.out hb)
      have U2 := Lib.hid (hu.mono (B' := w.heap.size) (by omega) (Nat.le_refl _))
      clear hb hu
      go_wp2_with fail
      go_ret2
      exact ⟨_, rfl, U2.out, B2.out⟩
    · rw [show quietB X Y wh xss = false from if_neg (fun h => hq h.2)] at hr ⊢
      rw [data_no (show quietB X Y wh xss = false from if_neg (fun h => hq h.2))]
      have HR := Lib.hid hr
      clear hok hr hq
      go_enter Try.func90, Try.ntmps90
      go_wp2_with fail
      refine HR.out.mono ?_
      rintro e w1 ⟨rfl, hb⟩
      have B1 := Lib.hid (below_tr (below_al (Below.refl _ _) _) hb)
      clear hb HR K0
      go_wp2_with fail
      go_ret2
      exact ⟨_, rfl, OwnInts.nil _ _ _, B1.out⟩
  · rw [boxB_no hok, quietB_no hok] at hr
    rw [quietB_no hok, data_no (quietB_no hok)]
    have HR := Lib.hid hr
    clear hok hr K0
    go_enter Try.func90, Try.ntmps90
    go_wp2_with fail
    refine HR.out.mono ?_
    rintro e w1 ⟨rfl, hb⟩
    have B1 := Lib.hid (below_tr (below_al (Below.refl _ _) _) hb)
    clear hb HR
    go_wp2_with fail
    go_ret2
    exact ⟨_, rfl, OwnInts.nil _ _ _, B1.out⟩


end Go.Proofs.Ytlaaiahkdkhehaa.counts
