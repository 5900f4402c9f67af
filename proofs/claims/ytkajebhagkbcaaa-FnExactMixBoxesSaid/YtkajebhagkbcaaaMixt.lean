/- MixBoxes of the model: the plain words, the whole. -/
import Derived.Test.YtkajebhagkbcaaaMixs
import Derived.Test.YtkajebhagkbcaaaAlike
namespace Go.Proofs.Ytkajebhagkbcaaa.mix
open Go.RowKit Go.Deep Go.Proofs.Ytkajebhagkbcaaa.base
open Go.Proofs.Ytkajebhagkbcaaa.rws (total)
open Go.Proofs.Ytkajebhagkbcaaa.val (okSizes okBox boxB boxB_yes boxB_no)
open Go.Proofs.Ytkajebhagkbcaaa.row (nn nn_bd at_ at_lt)
open Go.Proofs.Ytkajebhagkbcaaa.alike (same sameB sameB_yes sameB_no)

def all (x y wh : Int) (xss : List (List Int)) (x' y' wh' : Int) (yss : List (List Int)) : Prop := same x y wh xss x' y' wh' yss ∧ wh + wh' ≤ 1000
open Classical in
noncomputable def res (x y wh : Int) (xss : List (List Int)) (x' y' wh' : Int) (yss : List (List Int)) : make.Res := if all x y wh xss x' y' wh' yss then ⟨x, y, wh + wh', make.rowsOf (N xss yss) (x * y).toNat, true⟩ else make.Res.zero
theorem res_yes {x y wh : Int} {xss : List (List Int)} {x' y' wh' : Int} {yss : List (List Int)} (h : all x y wh xss x' y' wh' yss) : res x y wh xss x' y' wh' yss = ⟨x, y, wh + wh', make.rowsOf (N xss yss) (x * y).toNat, true⟩ := if_pos h
theorem res_no {x y wh : Int} {xss : List (List Int)} {x' y' wh' : Int} {yss : List (List Int)} (h : ¬ all x y wh xss x' y' wh' yss) : res x y wh xss x' y' wh' yss = make.Res.zero := if_neg h
theorem tot (x y wh : Int) (xss : List (List Int)) (x' y' wh' : Int) (yss : List (List Int)) : total (res x y wh xss x' y' wh' yss).rows ≤ 1048576 := by
  by_cases h : all x y wh xss x' y' wh' yss
  · rw [res_yes h]; exact make.total_rowsOf _ _ (by have := val.mul_small h.1.1.1; omega)
  · rw [res_no h]; exact Nat.zero_le _
theorem sum4 {wh : Int} {row : List Int} (h : val.okRow wh row) : row.getD 0 0 + row.getD 1 0 + row.getD 2 0 + row.getD 3 0 = wh ∧ ∀ k, k < 4 → 0 ≤ row.getD k 0 ∧ row.getD k 0 ≤ wh := by
  obtain ⟨h1, h2, h3⟩ := h
  match row, h1 with
  | [a, b, c, d], _ =>
    have e0 := h2 0 (by simp)
    have e1 := h2 1 (by simp)
    have e2 := h2 2 (by simp)
    have e3 := h2 3 (by simp)
    simp at h3 e0 e1 e2 e3
    refine ⟨by simp; omega, fun k hk => ?_⟩
    match k, hk with
    | 0, _ => simp; omega
    | 1, _ => simp; omega
    | 2, _ => simp; omega
    | 3, _ => simp; omega

theorem box_ok {X Y : Nat} {wh wh' : Int} {xss yss : List (List Int)} (h : okBox X Y wh xss) (h' : okBox X Y wh' yss) (h3 : wh + wh' ≤ 1000) : okBox X Y (wh + wh') (make.rowsOf (N xss yss) (X * Y)) := by
  refine make.ok_rowsOf h.1 ⟨by have := h.2.1; have := h'.2.1; omega, h3⟩ (fun r hr => ?_)
  have hl := h.2.2.1
  have hl' := h'.2.2.1
  have hr1 : r < xss.length := by rw [← Int.natCast_mul] at hl; omega
  have hr2 : r < yss.length := by rw [← Int.natCast_mul] at hl'; omega
  obtain ⟨hs, h4⟩ := sum4 (row.row_ok h hr1)
  obtain ⟨hs', h4'⟩ := sum4 (row.row_ok h' hr2)
  refine make.okRow_quad (fun k hk => ?_) ?_
  · have := h4 k hk
    have := h4' k hk
    unfold N nn; omega
  · show ((xss.getD r []).getD 0 0 + (yss.getD r []).getD 0 0) + ((xss.getD r []).getD 1 0 + (yss.getD r []).getD 1 0) + ((xss.getD r []).getD 2 0 + (yss.getD r []).getD 2 0) + ((xss.getD r []).getD 3 0 + (yss.getD r []).getD 3 0) = wh + wh'
    omega
theorem box_bad {X Y : Nat} {wh wh' : Int} {xss yss : List (List Int)} (h : ¬ wh + wh' ≤ 1000) : ¬ okBox X Y (wh + wh') (make.rowsOf (N xss yss) (X * Y)) := fun h' => h h'.2.1.2

/-- rows in memory of their own from B on, or none at all -/
def Low (w : World) (B : Nat) (r : Value) (xss : List (List Int)) : Prop := (∃ k D, built.Apart w B r k D ∧ (List.range k).map D = xss) ∨ (r = .slice none 0 0 ∧ xss = [])
theorem Low.rows {w : World} {B : Nat} {r : Value} {xss : List (List Int)} (h : Low w B r xss) : IRows w r xss := by
  rcases h with ⟨k, D, h, rfl⟩ | ⟨rfl, rfl⟩
  · exact h.rows
  · exact IRows.nil _
theorem Low.low {w w' : World} {B : Nat} {r : Value} {xss : List (List Int)} (h : Low w B r xss) (hw : Wrote (fun p => p.block < B) w w') : Low w' B r xss := by
  rcases h with ⟨k, D, h, rfl⟩ | ⟨rfl, rfl⟩
  · exact .inl ⟨k, D, h.low hw, rfl⟩
  · exact .inr ⟨rfl, rfl⟩

set_option maxHeartbeats 4000000 in
theorem spec_low (x y wh : Int) (v : Value) (xss : List (List Int)) (x' y' wh' : Int) (v' : Value) (yss : List (List Int)) (w : World) (h : IRows w v xss) (h' : IRows w v' yss) (hn : total xss ≤ 1048576) (hn' : total yss ≤ 1048576) :
    Calls Try.prog 28 #[.agg #[.int .i64 x, .int .i64 y, .int .i64 wh, v], .agg #[.int .i64 x', .int .i64 y', .int .i64 wh', v']] w fun e w' => ∃ r, e = .returned (.tuple #[.agg #[.int .i64 (res x y wh xss x' y' wh' yss).x, .int .i64 (res x y wh xss x' y' wh' yss).y, .int .i64 (res x y wh xss x' y' wh' yss).wh, r], .bool (res x y wh xss x' y' wh' yss).ok]) ∧ Low w' w.heap.size r (res x y wh xss x' y' wh' yss).rows ∧ Below w.heap.size w w' := by
  have HV := Lib.hid h
  have HV' := Lib.hid h'
  obtain ⟨va, vn, vc, rfl⟩ := h.shape
  obtain ⟨ua, un, uc, rfl⟩ := h'.shape
  clear h h'
  have B0 := Lib.hid (below_al (below_al (below_al (Below.refl w.heap.size w) (.cells #[.int .i64 x, .int .i64 y, .int .i64 wh, .slice va vn vc] 24)) (.cells #[.int .i64 x', .int .i64 y', .int .i64 wh', .slice ua un uc] 24)) (.cells #[.int .i64 0, .int .i64 0, .int .i64 0, .slice none 0 0] 24))
  have P0 : Hid (Blk (((w.alloc (.cells #[.int .i64 x, .int .i64 y, .int .i64 wh, .slice va vn vc] 24)).alloc (.cells #[.int .i64 x', .int .i64 y', .int .i64 wh', .slice ua un uc] 24)).alloc (.cells #[.int .i64 0, .int .i64 0, .int .i64 0, .slice none 0 0] 24)) w.heap.size 24 #[.int .i64 x, .int .i64 y, .int .i64 wh, .slice va vn vc]) := Lib.hid (((Blk.new w 24 #[.int .i64 x, .int .i64 y, .int .i64 wh, .slice va vn vc]).alloc _).alloc _)
  have Q0 : Hid (Blk (((w.alloc (.cells #[.int .i64 x, .int .i64 y, .int .i64 wh, .slice va vn vc] 24)).alloc (.cells #[.int .i64 x', .int .i64 y', .int .i64 wh', .slice ua un uc] 24)).alloc (.cells #[.int .i64 0, .int .i64 0, .int .i64 0, .slice none 0 0] 24)) (w.heap.size + 1) 24 #[.int .i64 x', .int .i64 y', .int .i64 wh', .slice ua un uc]) := Lib.hid (by
    have := (Blk.new (w.alloc (.cells #[.int .i64 x, .int .i64 y, .int .i64 wh, .slice va vn vc] 24)) 24 #[.int .i64 x', .int .i64 y', .int .i64 wh', .slice ua un uc]).alloc (.cells #[.int .i64 0, .int .i64 0, .int .i64 0, .slice none 0 0] 24)
    simpa using this)
  have R0 : Hid (Blk (((w.alloc (.cells #[.int .i64 x, .int .i64 y, .int .i64 wh, .slice va vn vc] 24)).alloc (.cells #[.int .i64 x', .int .i64 y', .int .i64 wh', .slice ua un uc] 24)).alloc (.cells #[.int .i64 0, .int .i64 0, .int .i64 0, .slice none 0 0] 24)) (w.heap.size + 1 + 1) 24 #[.int .i64 0, .int .i64 0, .int .i64 0, .slice none 0 0]) := Lib.hid (by
    have := Blk.new ((w.alloc (.cells #[.int .i64 x, .int .i64 y, .int .i64 wh, .slice va vn vc] 24)).alloc (.cells #[.int .i64 x', .int .i64 y', .int .i64 wh', .slice ua un uc] 24)) 24 #[.int .i64 0, .int .i64 0, .int .i64 0, .slice none 0 0]
    simpa using this)
  have CP := Lib.hid (alike.spec_same x y wh _ xss x' y' wh' _ yss _ (HV.out.below B0.out) (HV'.out.below B0.out) hn hn')
  by_cases hs : same x y wh xss x' y' wh' yss
  · have EB := Lib.hid (sameB_yes hs)
    obtain ⟨ho, ho', rfl, rfl⟩ := hs
    obtain ⟨X, rfl⟩ : ∃ X : Nat, x = X := ⟨x.toNat, by have := ho.1.1; omega⟩
    obtain ⟨Y, rfl⟩ : ∃ Y : Nat, y = Y := ⟨y.toNat, by have := ho.1.2; omega⟩
    have hlen : xss.length = X * Y := by have hl := ho.2.2.1; rw [← Int.natCast_mul] at hl; omega
    have h9 : X * Y ≤ 9 := Nat.mul_le_mul (by have := ho.1.1; omega : X ≤ 3) (by have := ho.1.2; omega : Y ≤ 3)
    have HT := Lib.hid (make.total_rowsOf (N xss yss) (X * Y) h9)
    have HO := Lib.hid ho
    have HO' := Lib.hid ho'
    have HL := Lib.hid (fun (W : World) (hb : Below w.heap.size w W) => l2mix X Y wh wh' _ _ xss yss W (HV.out.below hb) (HV'.out.below hb) HO.out HO'.out)
    rw [hlen] at HL
    clear ho ho' hlen h9
    go_enter Try.func28, Try.ntmps28
    go_wp2_with fail
    refine CP.out.mono ?_
    rintro e w0 ⟨rfl, hb0⟩
    have B1 := Lib.hid (below_tr B0.out hb0)
    have P1 := Lib.hid (P0.out.below hb0)
    have Q1 := Lib.hid (Q0.out.below hb0)
    have R1 := Lib.hid (R0.out.below hb0)
    obtain ⟨c0, c1, c2, c3, c4⟩ := four_cells P1.out
    obtain ⟨d0, d1, d2, d3, d4⟩ := four_cells Q1.out
    rw [EB.out]
    clear hb0
    go_wp2_with fail
    refine (HL.out _ B1.out).mono ?_
    rintro e w1 ⟨u, rfl, hu, hb⟩
    have B2 := Lib.hid (below_tr B1.out hb)
    have R2 := Lib.hid (R1.out.below hb)
    have hz0 := R1.out.lt
    have U2 := Lib.hid (hu.mono (B' := w.heap.size + 1 + 1 + 1) (by omega))
    have U2R : Hid (IRows w1 u (make.rowsOf (N xss yss) (X * Y))) := Lib.hid hu.rows
    obtain ⟨xa, xl, xc, rfl⟩ := hu.rows.shape
    clear hu hb HL R0 P0 Q0 B0 c0 c1 c2 c3 c4 d0 d1 d2 d3 d4
    go_wp2_with fail
    by_cases h3 : wh + wh' ≤ 1000
    · have HVK := Lib.hid (make.kept_yes X Y (wh + wh') _ _ w1 U2R.out HT.out (box_ok HO.out HO'.out h3))
      have HE := Lib.hid (res_yes (x := X) (y := Y) (wh := wh) (xss := xss) (x' := X) (y' := Y) (wh' := wh') (yss := yss) ⟨⟨HO.out, HO'.out, rfl, rfl⟩, h3⟩)
      refine HVK.out.mono ?_
      rintro e w2 ⟨rfl, hb⟩
      have B3 := Lib.hid (below_tr B2.out hb)
      have R3 := Lib.hid (R2.out.below hb)
      obtain ⟨r0, r1, r2, r3, r4⟩ := four_cells R3.out
      have rf : ∀ k, w2.frozen? ⟨w.heap.size + 1 + 1, k, none⟩ = false := fun k => Joins.unfrozen_of_block R3.out k
      have U3 := Lib.hid (U2.out.below hb)
      clear hb HVK
      go_wp2_with fail
      refine bodyPost_ret (v := .tuple #[.agg #[.int .i64 (X : Int), .int .i64 (Y : Int), .int .i64 (wh + wh'), .slice xa xl xc], .bool true]) (by simp [results, Try.results28, go_sem, r0, r1, r2, r3]) rfl ?_
      rw [HE.out]
      refine ⟨_, rfl, ?_, ?_⟩
      · rw [show ((X : Int) * (Y : Int)).toNat = X * Y from by rw [← Int.natCast_mul, Int.toNat_natCast]]
        refine .inl ⟨_, _, (U3.out.low ?_).mono (by omega), rfl⟩
        repeat (first | exact Wrote.refl _ _ | refine Wrote.setCell ?_ (by simp) _)
      · repeat (refine Below.setCell ?_ (by simp <;> omega) _)
        exact B3.out
    · have HVK := Lib.hid (make.kept_no X Y (wh + wh') _ _ w1 U2R.out HT.out (box_bad h3))
      have HE := Lib.hid (res_no (x := X) (y := Y) (wh := wh) (xss := xss) (x' := X) (y' := Y) (wh' := wh') (yss := yss) (fun h => h3 h.2))
      refine HVK.out.mono ?_
      rintro e w2 ⟨rfl, hb⟩
      have B3 := Lib.hid (below_tr B2.out hb)
      have R3 := Lib.hid (R2.out.below hb)
      obtain ⟨r0, r1, r2, r3, r4⟩ := four_cells R3.out
      have rf : ∀ k, w2.frozen? ⟨w.heap.size + 1 + 1, k, none⟩ = false := fun k => Joins.unfrozen_of_block R3.out k
      clear hb HVK
      go_wp2_with fail
      refine bodyPost_ret (v := .tuple #[.agg #[.int .i64 0, .int .i64 0, .int .i64 0, .slice none 0 0], .bool false]) (by simp [results, Try.results28, go_sem, r0, r1, r2, r3]) rfl ?_
      rw [HE.out]
      refine ⟨_, rfl, .inr ⟨rfl, rfl⟩, ?_⟩
      repeat (refine Below.setCell ?_ (by simp <;> omega) _)
      exact B3.out
  · have EB := Lib.hid (sameB_no hs)
    have HE := Lib.hid (res_no (fun h => hs h.1))
    clear hs
    go_enter Try.func28, Try.ntmps28
    go_wp2_with fail
    refine CP.out.mono ?_
    rintro e w0 ⟨rfl, hb0⟩
    have B1 := Lib.hid (below_tr B0.out hb0)
    have P1 := Lib.hid (P0.out.below hb0)
    have Q1 := Lib.hid (Q0.out.below hb0)
    have R1 := Lib.hid (R0.out.below hb0)
    obtain ⟨c0, c1, c2, c3, c4⟩ := four_cells P1.out
    obtain ⟨d0, d1, d2, d3, d4⟩ := four_cells Q1.out
    rw [EB.out]
    clear hb0
    obtain ⟨r0, r1, r2, r3, r4⟩ := four_cells R1.out
    have rf : ∀ k, w0.frozen? ⟨w.heap.size + 1 + 1, k, none⟩ = false := fun k => Joins.unfrozen_of_block R1.out k
    go_wp2_with fail
    refine bodyPost_ret (v := .tuple #[.agg #[.int .i64 0, .int .i64 0, .int .i64 0, .slice none 0 0], .bool false]) (by simp [results, Try.results28, go_sem, r0, r1, r2, r3]) rfl ?_
    rw [HE.out]
    refine ⟨_, rfl, .inr ⟨rfl, rfl⟩, ?_⟩
    repeat (first | (with_reducible exact B1.out) | refine Below.setCell ?_ (by simp <;> omega) _)

theorem spec_any (x y wh : Int) (v : Value) (xss : List (List Int)) (x' y' wh' : Int) (v' : Value) (yss : List (List Int)) (w : World) (h : IRows w v xss) (h' : IRows w v' yss) (hn : total xss ≤ 1048576) (hn' : total yss ≤ 1048576) :
    Calls Try.prog 28 #[.agg #[.int .i64 x, .int .i64 y, .int .i64 wh, v], .agg #[.int .i64 x', .int .i64 y', .int .i64 wh', v']] w fun e w' => ∃ r, e = .returned (.tuple #[.agg #[.int .i64 (res x y wh xss x' y' wh' yss).x, .int .i64 (res x y wh xss x' y' wh' yss).y, .int .i64 (res x y wh xss x' y' wh' yss).wh, r], .bool (res x y wh xss x' y' wh' yss).ok]) ∧ IRows w' r (res x y wh xss x' y' wh' yss).rows ∧ Below w.heap.size w w' := by
  refine (spec_low x y wh v xss x' y' wh' v' yss w h h' hn hn').mono ?_
  rintro e w1 ⟨r, rfl, hr, hb⟩
  exact ⟨r, rfl, hr.rows, hb⟩

end Go.Proofs.Ytkajebhagkbcaaa.mix
