/- SwapPlayers of the model. -/
import Derived.Test.YtkajebhagkbcaaaSwap
import Derived.Test.YtkajebhagkbcaaaStep
import Derived.Deep.RegionHeld3
import Derived.Test.YtkajebhagkbcaaaLast
namespace Go.Proofs.Ytkajebhagkbcaaa.swap
open Go.RowKit Go.Deep Go.Proofs.Ytkajebhagkbcaaa.base
open Go.Proofs.Ytkajebhagkbcaaa.ints (ret_int infoInt infoInts)
open Go.Proofs.Ytkajebhagkbcaaa.rws (total)
open Go.Proofs.Ytkajebhagkbcaaa.val (okSizes okBox boxB boxB_yes boxB_no)
open Go.Proofs.Ytkajebhagkbcaaa.row (nn nn_bd at_ at_lt)

theorem quad_at (xss : List (List Int)) (X Y a c : Nat) (hc : c < X) : make.quad (N xss X Y) (a * X + c) = [nn xss (c * Y + a) 0, nn xss (c * Y + a) 2, nn xss (c * Y + a) 1, nn xss (c * Y + a) 3] := by
  unfold make.quad
  rw [N_at xss X Y a c 0 hc, N_at xss X Y a c 1 hc, N_at xss X Y a c 2 hc, N_at xss X Y a c 3 hc]
  rfl
/-- a row just laid -/
theorem row_new (W : World) (m0 m1 m2 m3 : Int) : (W.alloc (.cells #[.int .i64 m0, .int .i64 m1, .int .i64 m2, .int .i64 m3] 3)).rowIs W.heap.size 3 4 (fun j => .int .i64 ([m0, m1, m2, m3].getD j 0)) := by
  refine ⟨#[.int .i64 m0, .int .i64 m1, .int .i64 m2, .int .i64 m3], heap_alloc_new W _, rfl, fun i hi => ?_⟩
  match i, hi with
  | 0, _ => rfl
  | 1, _ => rfl
  | 2, _ => rfl
  | 3, _ => rfl

set_option maxHeartbeats 1000000 in
theorem l2row_at (x y wh i j : Int) (b o cap n : Nat) (u : Value) (w : World) (hs : okSizes x y) (hn : (n : Int) = x * y) (g0 : w.cell? ⟨b, o + at_ y i j, none⟩ = some u) (i0 : 0 ≤ i) (i1 : i < x) (j0 : 0 ≤ j) (j1 : j < y) :
    Calls Try.prog 79 #[.agg #[.int .i64 x, .int .i64 y, .int .i64 wh, .slice (some ⟨b, o, none⟩) n cap], .int .i64 i, .int .i64 j] w fun e w' => e = .returned u ∧ Below w.heap.size w w' := by
  obtain ⟨d1, d2, d3, d4⟩ := row.idx_lt hs i0 i1 j0 j1
  have gl : b < w.heap.size := World.block_lt_of_cell? _ _ g0
  have e0 : i * y + j < (n : Int) := by omega
  have g0' : w.cell? ⟨b, o + (i * y + j).toNat, none⟩ = some u := g0
  have m9 := row.mul9 hs
  obtain ⟨k1, k2⟩ := row.wrap2 d1 d2 d4 (by omega)
  have HL := Lib.hid hn
  clear hs hn g0 m9
  go_enter Try.func79, Try.ntmps79
  go_wp2_with fail
  go_ret
  exact ⟨rfl, below_al (Below.refl _ _) _⟩

set_option maxHeartbeats 4000000 in
theorem spec_any (x y wh : Int) (v : Value) (xss : List (List Int)) (w : World) (h : IRows w v xss) (hn : total xss ≤ 1048576) :
    Calls Try.prog 35 #[.agg #[.int .i64 x, .int .i64 y, .int .i64 wh, v]] w fun e w' => ∃ r, e = .returned (.tuple #[.agg #[.int .i64 (res x y wh xss).x, .int .i64 (res x y wh xss).y, .int .i64 (res x y wh xss).wh, r], .bool (res x y wh xss).ok]) ∧ IRows w' r (res x y wh xss).rows ∧ Below w.heap.size w w' := by
  obtain ⟨i0, hi, hz0, hz1, hz2⟩ := info_parts infoInts
  have HV0 := Lib.hid h
  obtain ⟨A, b0, o0, vc, R0r, rfl, hcap0, hmax0, hA0, hcc0⟩ := h.form
  clear h hmax0
  have B0 := Lib.hid (below_al (below_al (Below.refl w.heap.size w) (.cells #[.int .i64 x, .int .i64 y, .int .i64 wh, .slice A xss.length vc] 24)) (.cells #[.int .i64 0, .int .i64 0, .int .i64 0, .slice none 0 0] 24))
  have R0 : Hid (Blk ((w.alloc (.cells #[.int .i64 x, .int .i64 y, .int .i64 wh, .slice A xss.length vc] 24)).alloc (.cells #[.int .i64 0, .int .i64 0, .int .i64 0, .slice none 0 0] 24)) (w.heap.size + 1) 24 #[.int .i64 0, .int .i64 0, .int .i64 0, .slice none 0 0]) := Lib.hid (by
    have := Blk.new (w.alloc (.cells #[.int .i64 x, .int .i64 y, .int .i64 wh, .slice A xss.length vc] 24)) 24 #[.int .i64 0, .int .i64 0, .int .i64 0, .slice none 0 0]
    simpa using this)
  have P0 : Hid (Blk ((w.alloc (.cells #[.int .i64 x, .int .i64 y, .int .i64 wh, .slice A xss.length vc] 24)).alloc (.cells #[.int .i64 0, .int .i64 0, .int .i64 0, .slice none 0 0] 24)) w.heap.size 24 #[.int .i64 x, .int .i64 y, .int .i64 wh, .slice A xss.length vc]) := Lib.hid ((Blk.new w 24 #[.int .i64 x, .int .i64 y, .int .i64 wh, .slice A xss.length vc]).alloc _)
  have CP := Lib.hid (val.spec_any x y wh _ xss _ (HV0.out.below B0.out) hn)
  by_cases hs : okBox x y wh xss
  · have EB := Lib.hid (boxB_yes hs)
    obtain ⟨X, rfl⟩ : ∃ X : Nat, x = X := ⟨x.toNat, by have := hs.1.1; omega⟩
    obtain ⟨Y, rfl⟩ : ∃ Y : Nat, y = Y := ⟨y.toNat, by have := hs.1.2; omega⟩
    have hX := hs.1.1.2
    have hY := hs.1.2.2
    have h9 : Y * X ≤ 9 := Nat.mul_le_mul (by omega : Y ≤ 3) (by omega : X ≤ 3)
    have H9 := Lib.hid h9
    have HS := Lib.hid hs
    have HE := Lib.hid (res_nat hs)
    have hlen := hs.2.2.1
    obtain rfl := hA0 (by have := val.mul_small hs.1; omega)
    have HCC := Lib.hid hcc0
    have HLN := Lib.hid hlen
    clear hs h9 hcc0 hlen
    go_enter Try.func35, Try.ntmps35
    go_wp2_with fail
    refine CP.out.mono ?_
    rintro e w1 ⟨rfl, hb0⟩
    have B1 := Lib.hid (below_tr B0.out hb0)
    have R1 := Lib.hid (R0.out.below hb0)
    have P1 := Lib.hid (P0.out.below hb0)
    have P00 := Lib.hid (Blk.new w 24 #[.int .i64 (X : Int), .int .i64 (Y : Int), .int .i64 wh, .slice (some ⟨b0, o0, none⟩) xss.length vc])
    have B1' : Hid (Below (w.alloc (.cells #[.int .i64 (X : Int), .int .i64 (Y : Int), .int .i64 wh, .slice (some ⟨b0, o0, none⟩) xss.length vc] 24)).heap.size (w.alloc (.cells #[.int .i64 (X : Int), .int .i64 (Y : Int), .int .i64 wh, .slice (some ⟨b0, o0, none⟩) xss.length vc] 24)) w1) := Lib.hid (below_tr (below_al (Below.refl _ _) _) hb0)
    obtain ⟨c0, c1, c2, c3, c4⟩ := four_cells P1.out
    rw [EB.out]
    clear hb0
    go_wp2_with fail
    have hz1b := R1.out.lt
    have HW0 : Hid (make.Way (w.alloc (.cells #[.int .i64 (X : Int), .int .i64 (Y : Int), .int .i64 wh, .slice (some ⟨b0, o0, none⟩) xss.length vc] 24)) ((w1.alloc (.cells #[] 30)).alloc (.cells #[.int .i64 (Y : Int), .int .i64 (X : Int), .int .i64 wh, .slice (some ⟨w1.heap.size, 0, none⟩) 0 0] 24)) (w1.heap.size + 1) Y X wh (0 * X) (.slice (some ⟨w1.heap.size, 0, none⟩) 0 0) [] (N xss X Y)) := Lib.hid (by
      refine ⟨below_al (below_al B1'.out _) _, by simp; omega, ?_, ?_, ?_, fun r u hu => by simp at hu, fun r s g g' _ hu => by simp at hu⟩
      · have := Blk.new (w1.alloc (.cells #[] 30)) 24 #[.int .i64 (Y : Int), .int .i64 (X : Int), .int .i64 wh, .slice (some ⟨w1.heap.size, 0, none⟩) 0 0]
        simpa using this
      · have := (R1.out.alloc (.cells #[] 30)).alloc (.cells #[.int .i64 (Y : Int), .int .i64 (X : Int), .int .i64 wh, .slice (some ⟨w1.heap.size, 0, none⟩) 0 0] 24)
        simpa using this
      · have := World.ownsRow_made (base := (w.alloc (.cells #[.int .i64 (X : Int), .int .i64 (Y : Int), .int .i64 wh, .slice (some ⟨b0, o0, none⟩) xss.length vc] 24)).heap.size + 1) (e := 30) (size := 1) w1 #[] 0 (by simp; omega) (Nat.zero_le _) rfl
        have := this.alloc (.cells #[.int .i64 (Y : Int), .int .i64 (X : Int), .int .i64 wh, .slice (some ⟨w1.heap.size, 0, none⟩) 0 0] 24)
        simpa using this)
    clear c0 c1 c2 c3 c4 hz1b
    go_loopw [5, 6, 7] (fun i p7 p8 wr => ∃ a : Nat, a ≤ Y ∧ i = .int .i64 a ∧ (∃ z, p7 = z) ∧ (∃ z, p8 = z) ∧ ∃ v vals, Hid (make.Way (w.alloc (.cells #[.int .i64 (X : Int), .int .i64 (Y : Int), .int .i64 wh, .slice (some ⟨b0, o0, none⟩) xss.length vc] 24)) wr (w1.heap.size + 1) Y X wh (a * X) v vals (N xss X Y))) (fun i _ _ _ => Y - (intOf i).toNat)
    case atStart => exact ⟨0, Nat.zero_le _, rfl, ⟨_, rfl⟩, ⟨_, rfl⟩, _, _, HW0⟩
    case round =>
      obtain ⟨a, ha, rfl, ⟨z7, rfl⟩, ⟨z8, rfl⟩, v, vals, hW⟩ := hrel
      clear HW0
      obtain ⟨wo, rfl⟩ : ∃ wo : World, wo = wr := ⟨_, rfl⟩
      have PO := Lib.hid (P00.out.below hW.out.below)
      by_cases hlt : a < Y
      · have hkz : (a : Int) < (Y : Int) := by omega
        obtain ⟨c0, c1, c2, c3, c4⟩ := four_cells PO.out
        go_wp2_with fail
        clear c0 c1 c2 c3 c4 PO
        go_loopw [6, 7] (fun j p8 wi => ∃ c : Nat, c ≤ X ∧ j = .int .i64 c ∧ (∃ z, p8 = z) ∧ ∃ v vals, Hid (make.Way (w.alloc (.cells #[.int .i64 (X : Int), .int .i64 (Y : Int), .int .i64 wh, .slice (some ⟨b0, o0, none⟩) xss.length vc] 24)) wi (w1.heap.size + 1) Y X wh (a * X + c) v vals (N xss X Y))) (fun j _ _ => X - (intOf j).toNat)
        case atStart => exact ⟨0, Nat.zero_le _, rfl, ⟨_, rfl⟩, _, _, hW⟩
        case round =>
          clear hW
          obtain ⟨c, hcl, rfl, ⟨z8, rfl⟩, v, vals, hW⟩ := hrel
          obtain ⟨wi, rfl⟩ : ∃ wi : World, wi = wr := ⟨_, rfl⟩
          have PI := Lib.hid (P00.out.below hW.out.below)
          have BI := Lib.hid (below_tr (below_al (Below.refl w.heap.size w) (.cells #[.int .i64 (X : Int), .int .i64 (Y : Int), .int .i64 wh, .slice (some ⟨b0, o0, none⟩) xss.length vc] 24)) hW.out.below)
          obtain ⟨c0, c1, c2, c3, c4⟩ := four_cells PI.out
          by_cases hlc : c < X
          · have hkc : (c : Int) < (X : Int) := by omega
            have hrr := at_lt (i := c) (j := a) HS.out (by omega) (by omega) (by omega) (by omega)
            have hcell := below_cell BI.out _ _ (HCC.out _ hrr).1
            obtain ⟨b2, o2, cap2, hR2, hcap2, hmax2, k0, k1, k2, k3⟩ := row.cells4 HS.out hrr (by rw [row.getD_lt hrr]; exact (HCC.out _ hrr).2)
            rw [hR2] at hcell
            have hb2 := World.block_lt_of_cell? _ _ k0
            have hcall := l2row_at X Y wh c a b0 o0 vc _ _ wi HS.out.1 HLN.out hcell (by omega) (by omega) (by omega) (by omega)
            rw [at_nat] at k0 k1 k2 k3
            have hk9 : a * X + c < 9 := by
              have h1 : a * X + c < (a + 1) * X := by rw [Nat.add_mul]; omega
              have h2 : (a + 1) * X ≤ Y * X := Nat.mul_le_mul_right _ (by omega)
              have := H9.out
              omega
            have HK9 := Lib.hid hk9
            have HCA := Lib.hid hcall
            have HQ := Lib.hid (quad_at xss X Y a c hlc)
            generalize nn xss (c * Y + a) 0 = n0 at *
            generalize nn xss (c * Y + a) 1 = n1 at *
            generalize nn xss (c * Y + a) 2 = n2 at *
            generalize nn xss (c * Y + a) 3 = n3 at *
            clear hcall hk9 hrr hcell hR2 hmax2
            go_wp2_with fail
            refine HCA.out.mono ?_
            rintro e w2 ⟨rfl, hb⟩
            have W2 := Lib.hid (hW.out.keep hb)
            obtain ⟨f0, f1, f2, f3, f4⟩ := four_cells W2.out.blk
            have f3a := fun (o1 o2 : Obj) => below_cell (below_al (below_al (Below.refl _ _) o1) o2) _ _ f3
            have f5 : w1.heap.size + 1 < w2.heap.size + 1 := by omega
            have f3a1 := fun (o1 : Obj) => below_cell (below_al (Below.refl _ _) o1) _ _ f3
            have hpk : step.peek w2.drew ⟨w1.heap.size + 1, 3, none⟩ = v := step.peek_is f3
            have ff := Lib.hid (fun k => Joins.unfrozen_of_block W2.out.blk k)
            have hsz := W2.out.below.size
            have HG := Lib.hid (W2.out.keep (below_dr (below_al (below_al (Below.refl _ _) (.cells #[.int .i64 n0, .int .i64 n2, .int .i64 n1, .int .i64 n3] 3)) (.cells #[.slice (some ⟨w2.heap.size, 0, none⟩) 4 4] 30))))
            have HRI : Hid ((((w2.alloc (.cells #[.int .i64 n0, .int .i64 n2, .int .i64 n1, .int .i64 n3] 3)).alloc (.cells #[.slice (some ⟨w2.heap.size, 0, none⟩) 4 4] 30)).drew).rowIs w2.heap.size 3 4 (fun j => .int .i64 ((make.quad (N xss X Y) (a * X + c)).getD j 0))) := Lib.hid (by
              rw [HQ.out]
              exact World.rowIs.of_block ((row_new w2 n0 n2 n1 n3).alloc _) rfl)
            have HFR : Hid (∀ (r g' : Nat), vals[r]? = some (Value.slice (some ⟨g', 0, none⟩) 4 4) → g' ≠ w2.heap.size) := Lib.hid (fun r g' hu => by
              obtain ⟨g, e, _, hr⟩ := W2.out.row r _ hu
              injection e with e; injection e with e; injection e with e
              have := hr.lt; omega)
            have hlow2 := step.Low.below (below_tr BI.out hb)
            have hsw : w.heap.size ≤ w2.heap.size := (below_tr BI.out hb).size
            have hsw1 : w.heap.size ≤ w1.heap.size := B1.out.size
            have L2 := Lib.hid hlow2
            clear hlow2 hb hW HCA c0 c1 c2 c3 c4
            go_wp2_with fail
            refine last.start (S := (fun w' => w'.cell? ⟨b2, o2, none⟩ = some (.int .i64 n0) ∧ w'.cell? ⟨b2, o2 + 1, none⟩ = some (.int .i64 n1) ∧ w'.cell? ⟨b2, o2 + 2, none⟩ = some (.int .i64 n2) ∧ w'.cell? ⟨b2, o2 + 3, none⟩ = some (.int .i64 n3) ∧ w'.cell? ⟨w1.heap.size + 1, 3, none⟩ = some v)) (L := 18) (by kernel_rfl) ?_
            have hHeld : (fun w' => w'.cell? ⟨b2, o2, none⟩ = some (.int .i64 n0) ∧ w'.cell? ⟨b2, o2 + 1, none⟩ = some (.int .i64 n1) ∧ w'.cell? ⟨b2, o2 + 2, none⟩ = some (.int .i64 n2) ∧ w'.cell? ⟨b2, o2 + 3, none⟩ = some (.int .i64 n3) ∧ w'.cell? ⟨w1.heap.size + 1, 3, none⟩ = some v) w2.drew := by
              refine last.lows4v k0 k1 k2 k3 hb2 ?_ f3
              exact L2.out.drew
            refine last.take (i := 0) (oi := { dst := some 36, op := Op.fieldAddr 24 (Operand.tmp 4) 3, type := 0, pos := "l2_boxes.go:316", after := #[], guard := none }) (v := ?v0) rfl (by kernel_rfl) (by kernel_rfl) (by kernel_rfl) (by kernel_rfl) (by decide) (fun _ _ _ h => h) (Or.inl ⟨by rfl, ?y0⟩) hHeld ?r0
            case y0 => (intro w hSw; (try dsimp only at hSw); go_simp; try with_reducible rfl)
            try simp only [Act.put, List.setIfInBounds_toArray, List.set_cons_zero, List.set_cons_succ]
            refine last.take (i := 1) (oi := { dst := some 37, op := Op.load 22 (Operand.tmp 36), type := 22, pos := "l2_boxes.go:316", after := #[{ on := 0, ground := Ground.data }], guard := none }) (v := ?v1) rfl (by kernel_rfl) (by kernel_rfl) (by kernel_rfl) (by kernel_rfl) (by decide) (fun _ _ _ h => h) (Or.inl ⟨by rfl, ?y1⟩) hHeld ?r1
            case y1 => (intro w hSw; (try dsimp only at hSw); go_simp; try with_reducible rfl)
            try simp only [Act.put, List.setIfInBounds_toArray, List.set_cons_zero, List.set_cons_succ]
            refine last.take (i := 2) (oi := { dst := some 38, op := Op.move (Operand.tmp 7), type := 30, pos := "l2_boxes.go:316", after := #[], guard := none }) (v := ?v2) rfl (by kernel_rfl) (by kernel_rfl) (by kernel_rfl) (by kernel_rfl) (by decide) (fun _ _ _ h => h) (Or.inl ⟨by rfl, ?y2⟩) hHeld ?r2
            case y2 => (intro w hSw; (try dsimp only at hSw); go_simp; try with_reducible rfl)
            try simp only [Act.put, List.setIfInBounds_toArray, List.set_cons_zero, List.set_cons_succ]
            refine last.take (i := 3) (oi := { dst := some 39, op := Op.indexAddr 30 (Operand.tmp 38) (Operand.const (Value.int IntKind.i64 0)), type := 0, pos := "l2_boxes.go:316", after := #[{ on := 2, ground := Ground.data }], guard := none }) (v := ?v3) rfl (by kernel_rfl) (by kernel_rfl) (by kernel_rfl) (by kernel_rfl) (by decide) (fun _ _ _ h => h) (Or.inl ⟨by rfl, ?y3⟩) hHeld ?r3
            case y3 => (intro w hSw; (try dsimp only at hSw); go_simp; try with_reducible rfl)
            try simp only [Act.put, List.setIfInBounds_toArray, List.set_cons_zero, List.set_cons_succ]
            refine last.take (i := 4) (oi := { dst := some 40, op := Op.load 3 (Operand.tmp 39), type := 3, pos := "l2_boxes.go:316", after := #[{ on := 3, ground := Ground.data }], guard := none }) (v := ?v4) rfl (by kernel_rfl) (by kernel_rfl) (by kernel_rfl) (by kernel_rfl) (by decide) (fun _ _ _ h => h) (Or.inl ⟨by rfl, ?y4⟩) hHeld ?r4
            case y4 => (intro w hSw; (try dsimp only at hSw); go_simp; try with_reducible rfl)
            try simp only [Act.put, List.setIfInBounds_toArray, List.set_cons_zero, List.set_cons_succ]
            refine last.take (i := 5) (oi := { dst := some 41, op := Op.move (Operand.tmp 7), type := 30, pos := "l2_boxes.go:316", after := #[], guard := none }) (v := ?v5) rfl (by kernel_rfl) (by kernel_rfl) (by kernel_rfl) (by kernel_rfl) (by decide) (fun _ _ _ h => h) (Or.inl ⟨by rfl, ?y5⟩) hHeld ?r5
            case y5 => (intro w hSw; (try dsimp only at hSw); go_simp; try with_reducible rfl)
            try simp only [Act.put, List.setIfInBounds_toArray, List.set_cons_zero, List.set_cons_succ]
            refine last.take (i := 6) (oi := { dst := some 42, op := Op.indexAddr 30 (Operand.tmp 41) (Operand.const (Value.int IntKind.i64 2)), type := 0, pos := "l2_boxes.go:316", after := #[{ on := 5, ground := Ground.data }], guard := none }) (v := ?v6) rfl (by kernel_rfl) (by kernel_rfl) (by kernel_rfl) (by kernel_rfl) (by decide) (fun _ _ _ h => h) (Or.inl ⟨by rfl, ?y6⟩) hHeld ?r6
            case y6 => (intro w hSw; (try dsimp only at hSw); go_simp; try with_reducible rfl)
            try simp only [Act.put, List.setIfInBounds_toArray, List.set_cons_zero, List.set_cons_succ]
            refine last.take (i := 7) (oi := { dst := some 43, op := Op.load 3 (Operand.tmp 42), type := 3, pos := "l2_boxes.go:316", after := #[{ on := 6, ground := Ground.data }], guard := none }) (v := ?v7) rfl (by kernel_rfl) (by kernel_rfl) (by kernel_rfl) (by kernel_rfl) (by decide) (fun _ _ _ h => h) (Or.inl ⟨by rfl, ?y7⟩) hHeld ?r7
            case y7 => (intro w hSw; (try dsimp only at hSw); go_simp; try with_reducible rfl)
            try simp only [Act.put, List.setIfInBounds_toArray, List.set_cons_zero, List.set_cons_succ]
            refine last.take (i := 8) (oi := { dst := some 44, op := Op.move (Operand.tmp 7), type := 30, pos := "l2_boxes.go:316", after := #[], guard := none }) (v := ?v8) rfl (by kernel_rfl) (by kernel_rfl) (by kernel_rfl) (by kernel_rfl) (by decide) (fun _ _ _ h => h) (Or.inl ⟨by rfl, ?y8⟩) hHeld ?r8
            case y8 => (intro w hSw; (try dsimp only at hSw); go_simp; try with_reducible rfl)
            try simp only [Act.put, List.setIfInBounds_toArray, List.set_cons_zero, List.set_cons_succ]
            refine last.take (i := 9) (oi := { dst := some 45, op := Op.indexAddr 30 (Operand.tmp 44) (Operand.const (Value.int IntKind.i64 1)), type := 0, pos := "l2_boxes.go:316", after := #[{ on := 8, ground := Ground.data }], guard := none }) (v := ?v9) rfl (by kernel_rfl) (by kernel_rfl) (by kernel_rfl) (by kernel_rfl) (by decide) (fun _ _ _ h => h) (Or.inl ⟨by rfl, ?y9⟩) hHeld ?r9
            case y9 => (intro w hSw; (try dsimp only at hSw); go_simp; try with_reducible rfl)
            try simp only [Act.put, List.setIfInBounds_toArray, List.set_cons_zero, List.set_cons_succ]
            refine last.take (i := 10) (oi := { dst := some 46, op := Op.load 3 (Operand.tmp 45), type := 3, pos := "l2_boxes.go:316", after := #[{ on := 9, ground := Ground.data }], guard := none }) (v := ?v10) rfl (by kernel_rfl) (by kernel_rfl) (by kernel_rfl) (by kernel_rfl) (by decide) (fun _ _ _ h => h) (Or.inl ⟨by rfl, ?y10⟩) hHeld ?r10
            case y10 => (intro w hSw; (try dsimp only at hSw); go_simp; try with_reducible rfl)
            try simp only [Act.put, List.setIfInBounds_toArray, List.set_cons_zero, List.set_cons_succ]
            refine last.take (i := 11) (oi := { dst := some 47, op := Op.move (Operand.tmp 7), type := 30, pos := "l2_boxes.go:316", after := #[], guard := none }) (v := ?v11) rfl (by kernel_rfl) (by kernel_rfl) (by kernel_rfl) (by kernel_rfl) (by decide) (fun _ _ _ h => h) (Or.inl ⟨by rfl, ?y11⟩) hHeld ?r11
            case y11 => (intro w hSw; (try dsimp only at hSw); go_simp; try with_reducible rfl)
            try simp only [Act.put, List.setIfInBounds_toArray, List.set_cons_zero, List.set_cons_succ]
            refine last.take (i := 12) (oi := { dst := some 48, op := Op.indexAddr 30 (Operand.tmp 47) (Operand.const (Value.int IntKind.i64 3)), type := 0, pos := "l2_boxes.go:316", after := #[{ on := 11, ground := Ground.data }], guard := none }) (v := ?v12) rfl (by kernel_rfl) (by kernel_rfl) (by kernel_rfl) (by kernel_rfl) (by decide) (fun _ _ _ h => h) (Or.inl ⟨by rfl, ?y12⟩) hHeld ?r12
            case y12 => (intro w hSw; (try dsimp only at hSw); go_simp; try with_reducible rfl)
            try simp only [Act.put, List.setIfInBounds_toArray, List.set_cons_zero, List.set_cons_succ]
            refine last.take (i := 13) (oi := { dst := some 49, op := Op.load 3 (Operand.tmp 48), type := 3, pos := "l2_boxes.go:316", after := #[{ on := 12, ground := Ground.data }], guard := none }) (v := ?v13) rfl (by kernel_rfl) (by kernel_rfl) (by kernel_rfl) (by kernel_rfl) (by decide) (fun _ _ _ h => h) (Or.inl ⟨by rfl, ?y13⟩) hHeld ?r13
            case y13 => (intro w hSw; (try dsimp only at hSw); go_simp; try with_reducible rfl)
            try simp only [Act.put, List.setIfInBounds_toArray, List.set_cons_zero, List.set_cons_succ]
            refine last.one (i := 14) (o := { dst := some 50, op := Op.buildSlice 30 4 #[(0, Operand.tmp 40), (1, Operand.tmp 43), (2, Operand.tmp 46), (3, Operand.tmp 49)], type := 30, pos := "l2_boxes.go:316", after := #[{ on := 4, ground := Ground.data }, { on := 7, ground := Ground.data }, { on := 10, ground := Ground.data }, { on := 13, ground := Ground.data }], guard := none }) (by kernel_rfl) rfl (fun K hK => ?_)
            go_simp
            refine hK.out _ _ ?s14 (fun hHeld => ?_)
            case s14 => (try dsimp only); (refine last.lows4v k0 k1 k2 k3 hb2 ?_ (f3a1 _); (repeat (first | exact L2.out | exact L3.out | refine step.Low.drew ?_ | refine step.Low.alloc ?_ (by first | omega | (simp; omega)) _)))
            clear hK K
            try simp only [Act.put, List.setIfInBounds_toArray, List.set_cons_zero, List.set_cons_succ]
            refine last.one (i := 15) (o := { dst := some 51, op := Op.buildSlice 22 1 #[(0, Operand.tmp 50)], type := 22, pos := "l2_boxes.go:316", after := #[{ on := 14, ground := Ground.data }], guard := none }) (by kernel_rfl) rfl (fun K hK => ?_)
            go_simp
            refine hK.out _ _ ?s15 (fun hHeld => ?_)
            case s15 => (try dsimp only); (refine last.lows4v k0 k1 k2 k3 hb2 ?_ (f3a _ _); (repeat (first | exact L2.out | exact L3.out | refine step.Low.drew ?_ | refine step.Low.alloc ?_ (by first | omega | (simp; omega)) _)))
            clear hK K
            try simp only [Act.put, List.setIfInBounds_toArray, List.set_cons_zero, List.set_cons_succ]
            refine last.one (i := 16) (o := { dst := some 52, op := Op.call { callee := Callee.builtin Builtin.append, args := #[Operand.tmp 37, Operand.tmp 51], argTypes := #[22, 22] }, type := 22, pos := "l2_boxes.go:316", after := #[{ on := 1, ground := Ground.data }, { on := 15, ground := Ground.data }], guard := none }) (by kernel_rfl) rfl (fun K hK => ?_)
            refine step.own rfl (.tmp 37) (.tmp 51) 22 rfl 30 i0 (.slice none 0 0) 1 24 Try.underlying22 hi hz0 hz1 hz2 rfl (by decide) ((w.alloc (.cells #[.int .i64 (X : Int), .int .i64 (Y : Int), .int .i64 wh, .slice (some ⟨b0, o0, none⟩) xss.length vc] 24)).heap.size + 1) _ (a * X + c) vals HG.out.owns (by simp [Act.eval]) ⟨w2.heap.size + 1, 0, none⟩ 1 1 [.slice (some ⟨w2.heap.size, 0, none⟩) 4 4] (by simp [Act.eval]) rfl (by intro j u hj; match j, hj with | 0, hj => (simp at hj; subst hj; simp [Addr.add])) (by intro u hu; simp at hu; subst hu; rfl) (by have := HK9.out; unfold maxLen; omega) (by have := HK9.out; omega) (by simp at hsz ⊢; omega) ?_
            intro v' w3 hown' hgrow
            obtain ⟨q1, q2⟩ := HG.out.field hgrow
            obtain ⟨va, vl, vcc, hvv⟩ := make.shape hown'
            subst hvv
            have L3 := Lib.hid (step.Low.grown (w := w) (n := w.heap.size) (step.Low.drew (step.Low.alloc (step.Low.alloc L2.out (by omega) _) (by first | omega | (simp; omega)) _)) hgrow (by first | omega | (simp; omega)) (fun q hq => by have := (HG.out.owns.lt q hq).1; first | omega | (simp at this; omega)))
            refine hK.out _ _ ?s16 (fun hHeld => ?_)
            case s16 => (try dsimp only); (refine last.lows4v k0 k1 k2 k3 hb2 ?_ q1; (repeat (first | exact L2.out | exact L3.out | refine step.Low.drew ?_ | refine step.Low.alloc ?_ (by first | omega | (simp; omega)) _)))
            clear hK K
            try simp only [Act.put, List.setIfInBounds_toArray, List.set_cons_zero, List.set_cons_succ]
            refine last.take (i := 17) (oi := { dst := some 53, op := Op.fieldAddr 24 (Operand.tmp 4) 3, type := 0, pos := "l2_boxes.go:316", after := #[{ on := 0, ground := Ground.phase }, { on := 1, ground := Ground.phase }, { on := 2, ground := Ground.phase }, { on := 3, ground := Ground.phase }, { on := 4, ground := Ground.phase }, { on := 5, ground := Ground.phase }, { on := 6, ground := Ground.phase }, { on := 7, ground := Ground.phase }, { on := 8, ground := Ground.phase }, { on := 9, ground := Ground.phase }, { on := 10, ground := Ground.phase }, { on := 11, ground := Ground.phase }, { on := 12, ground := Ground.phase }, { on := 13, ground := Ground.phase }, { on := 14, ground := Ground.phase }, { on := 15, ground := Ground.phase }, { on := 16, ground := Ground.phase }], guard := none }) (v := ?v17) rfl (by kernel_rfl) (by kernel_rfl) (by kernel_rfl) (by kernel_rfl) (by decide) (fun _ _ _ h => h) (Or.inl ⟨by rfl, ?y17⟩) hHeld ?r17
            case y17 => (intro w hSw; (try dsimp only at hSw); go_simp; try with_reducible rfl)
            try simp only [Act.put, List.setIfInBounds_toArray, List.set_cons_zero, List.set_cons_succ]
            refine last.final (o := { dst := none, op := Op.store 22 (Operand.tmp 53) (Operand.tmp 52), type := 0, pos := "l2_boxes.go:316", after := #[{ on := 17, ground := Ground.data }, { on := 16, ground := Ground.data }, { on := 16, ground := Ground.chain }, { on := 0, ground := Ground.phase }, { on := 1, ground := Ground.phase }, { on := 2, ground := Ground.phase }, { on := 3, ground := Ground.phase }, { on := 4, ground := Ground.phase }, { on := 5, ground := Ground.phase }, { on := 6, ground := Ground.phase }, { on := 7, ground := Ground.phase }, { on := 8, ground := Ground.phase }, { on := 9, ground := Ground.phase }, { on := 10, ground := Ground.phase }, { on := 11, ground := Ground.phase }, { on := 12, ground := Ground.phase }, { on := 13, ground := Ground.phase }, { on := 14, ground := Ground.phase }, { on := 15, ground := Ground.phase }, { on := 16, ground := Ground.phase }], guard := none }) (by kernel_rfl) rfl (fun K hK => ?_)
            go_simp
            refine hK.out _ _ ?_
            clear hK K
            try simp only [Act.put, List.setIfInBounds_toArray, List.set_cons_zero, List.set_cons_succ]
            refine last.done (by kernel_rfl) ?_ _
            have W4 := Lib.hid (HG.out.grow HRI.out (by simp; omega) HFR.out hown' hgrow)
            clear hown' hgrow W2 HG HRI HFR f0 f1 f2 f3 f4 f3a f5 f3a1 hpk ff q1 q2 L3
            go_wp2_with fail
            go_roundw
            case rel => exact ⟨c + 1, by omega, by go_num, ⟨_, rfl⟩, _, _, W4⟩
            case measure => simp [intOf]; omega
          · have hkc : ¬ (c : Int) < (X : Int) := by omega
            obtain rfl : c = X := by omega
            go_wp2_with fail
            go_roundw
            case rel => exact ⟨a + 1, by omega, by go_num, ⟨_, rfl⟩, ⟨_, rfl⟩, _, _, by rw [Nat.add_mul, Nat.one_mul]; exact hW⟩
            case measure => simp [intOf]; omega
      · have hkz : ¬ (a : Int) < (Y : Int) := by omega
        have hae : a = Y := by omega
        obtain ⟨xa, xl, xc, rfl⟩ := make.shape hW.out.owns
        obtain ⟨c0, c1, c2, c3, c4⟩ := four_cells PO.out
        obtain ⟨f0, f1, f2, f3, f4⟩ := four_cells hW.out.blk
        have hres := hW.out.res
        obtain ⟨r0, r1, r2, r3, r4⟩ := four_cells hres
        have rf : ∀ k, wo.frozen? ⟨w.heap.size + 1, k, none⟩ = false := fun k => by
          have := Joins.unfrozen_of_block hres k
          simpa using this
        have HD := Lib.hid hW.out.done
        have BW := Lib.hid (below_tr (below_al (Below.refl w.heap.size w) (.cells #[.int .i64 (X : Int), .int .i64 (Y : Int), .int .i64 wh, .slice (some ⟨b0, o0, none⟩) xss.length vc] 24)) hW.out.below)
        simp only [World.size_alloc] at r0 r1 r2 r3
        clear hW hres
        go_wp2_with fail
        refine bodyPost_ret (v := .tuple #[.agg #[.int .i64 (Y : Int), .int .i64 (X : Int), .int .i64 wh, .slice xa xl xc], .bool true]) (by simp [results, Try.results35, go_sem, r0, r1, r2, r3]) rfl ?_
        rw [HE.out]
        refine ⟨_, rfl, ?_, ?_⟩
        · rw [show Y * X = a * X from by rw [hae]]
          refine (HD.out.wrote (S := fun p => p.block < w.heap.size + 1 + 1) ?_ (fun p hp => .inl (by simpa using hp))).rows
          repeat (first | exact Wrote.refl _ _ | refine Wrote.setCell ?_ (by simp) _)
        · repeat (refine Below.setCell ?_ (by simp <;> omega) _)
          exact BW.out
  · have EB := Lib.hid (boxB_no hs)
    have HE := Lib.hid (res_no hs)
    clear hs
    go_enter Try.func35, Try.ntmps35
    go_wp2_with fail
    refine CP.out.mono ?_
    rintro e w0 ⟨rfl, hb0⟩
    have B1 := Lib.hid (below_tr B0.out hb0)
    have R1 := Lib.hid (R0.out.below hb0)
    obtain ⟨r0, r1, r2, r3, r4⟩ := four_cells R1.out
    have rf : ∀ k, w0.frozen? ⟨w.heap.size + 1, k, none⟩ = false := fun k => Joins.unfrozen_of_block R1.out k
    rw [EB.out]
    clear hb0
    go_wp2_with fail
    refine bodyPost_ret (v := .tuple #[.agg #[.int .i64 0, .int .i64 0, .int .i64 0, .slice none 0 0], .bool false]) (by simp [results, Try.results35, go_sem, r0, r1, r2, r3]) rfl ?_
    rw [HE.out]
    refine ⟨_, rfl, IRows.nil _, ?_⟩
    repeat (first | (with_reducible exact B1.out) | refine Below.setCell ?_ (by simp <;> omega) _)

end Go.Proofs.Ytkajebhagkbcaaa.swap
