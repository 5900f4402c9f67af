/- l10Wire of the model: a wiring. -/
import Derived.Test.YtiigfhigmdjooaaWir
import Derived.Test.YtiigfhigmdjooaaBuilt
import Derived.BigQuiet
import Derived.BigRegion
namespace Go.Proofs.Ytiigfhigmdjooaa.wis
open Go.RowKit Go.Deep Go.Proofs.Ytiigfhigmdjooaa.base
open Go.Proofs.Ytiigfhigmdjooaa.ints (ret_int infoInt infoInts)
open Go.Proofs.Ytiigfhigmdjooaa.rws (total)
open Go.Proofs.Ytiigfhigmdjooaa.val (okBox okSizes boxB boxB_yes boxB_no)
open Go.Proofs.Ytiigfhigmdjooaa.row (nn nn_bd at_)
open Go.Proofs.Ytiigfhigmdjooaa.two (two twoB twoB_yes twoB_no)
open Go.Proofs.Ytiigfhigmdjooaa.wrm (rule ruleB bit term spot acc qa qb sy N)
open Go.Proofs.Ytiigfhigmdjooaa.scene (three_cells)
open Go.Proofs.Ytiigfhigmdjooaa.rule (RV)
open Go.Proofs.Ytiigfhigmdjooaa.rcl (Bits BRows)
open Go.Proofs.Ytiigfhigmdjooaa.wir (heldA heldB nums1 nums2 sum_z set_acc cel_acc)


set_option maxHeartbeats 1000000 in
theorem l2row_at (x y wh i j : Int) (b o cap n : Nat) (u : Value) (w : World) (hs : okSizes x y) (hn : (n : Int) = x * y) (g0 : w.cell? ⟨b, o + at_ y i j, none⟩ = some u) (i0 : 0 ≤ i) (i1 : i < x) (j0 : 0 ≤ j) (j1 : j < y) :
    Calls Try.prog 190 #[.agg #[.int .i64 x, .int .i64 y, .int .i64 wh, .slice (some ⟨b, o, none⟩) n cap], .int .i64 i, .int .i64 j] w fun e w' => e = .returned u ∧ Below w.heap.size w w' := by
  obtain ⟨d1, d2, d3, d4⟩ := row.idx_lt hs i0 i1 j0 j1
  have gl : b < w.heap.size := World.block_lt_of_cell? _ _ g0
  have e0 : i * y + j < (n : Int) := by omega
  have g0' : w.cell? ⟨b, o + (i * y + j).toNat, none⟩ = some u := g0
  have m9 := row.mul9 hs
  obtain ⟨k1, k2⟩ := row.wrap2 d1 d2 d4 (by omega)
  have HL := Lib.hid hn
  clear hs hn g0 m9
  go_enter Try.func190, Try.ntmps190
  go_wp2_with fail
  go_ret
  exact ⟨rfl, below_al (Below.refl _ _) _⟩

/-- the numbers of a round in the model's words -/
theorem numsS {k : Nat} (hk : k < 4) : (k : Int) / 2 ^ 1 = ((k / 2 : Nat) : Int) ∧ (k : Int) / 2 = ((k / 2 : Nat) : Int) ∧ bits .and .i64 (k : Int) 1 = ((k % 2 : Nat) : Int) := by
  obtain rfl | rfl | rfl | rfl : k = 0 ∨ k = 1 ∨ k = 2 ∨ k = 3 := by omega
  all_goals exact ⟨by decide, by decide, by decide⟩
/-- a row of a valid Box with two questions each -/
theorem rows4 {w : World} {v : Value} {xss : List (List Int)} {wh : Int} (h : IRows w v xss) (ht : two 2 2 wh xss) : ∃ b o c, v = .slice (some ⟨b, o, none⟩) 4 c ∧ ∀ r, r < 4 → ∃ b' o' c', w.cell? ⟨b, o + r, none⟩ = some (.slice (some ⟨b', o', none⟩) 4 c') ∧ ∀ k, k < 4 → w.cell? ⟨b', o' + k, none⟩ = some (.int .i64 (nn xss r k)) := by
  obtain ⟨b, o, c, hv, _, _, hc⟩ := cll.rows (Y := 4) h (wrm.len_two ht) (by omega) (by omega) (fun r hr => (row.row_ok ht.1 (by rw [wrm.len_two ht]; exact hr)).1)
  exact ⟨b, o, c, hv, hc⟩


set_option maxRecDepth 100000 in
set_option maxHeartbeats 8000000 in
theorem l10Wire (wh wh' : Int) (v : Value) (xss : List (List Int)) (v' : Value) (yss : List (List Int)) (sv1 : Value) (f1 : List Int) (u1 : Value) (k1 : List (List Int)) (nv1 : Value) (s1 : List (List Int)) (sv2 : Value) (f2 : List Int) (u2 : Value) (k2 : List (List Int)) (nv2 : Value) (s2 : List (List Int)) (w : World)
    (h : IRows w v xss) (h' : IRows w v' yss) (ht : two 2 2 wh xss) (ht' : two 2 2 wh' yss) (hr1 : RV w sv1 f1 u1 k1 nv1 s1) (hr2 : RV w sv2 f2 u2 k2 nv2 s2) (hg1 : rule f1 k1 s1) (hg2 : rule f2 k2 s2) :
    Calls Try.prog 136 #[.agg #[.int .i64 2, .int .i64 2, .int .i64 wh, v], .agg #[.int .i64 2, .int .i64 2, .int .i64 wh', v'], .agg #[sv1, u1, nv1], .agg #[sv2, u2, nv2]] w fun e w' => ∃ u, e = .returned (.agg #[.int .i64 2, .int .i64 2, .int .i64 (wh * wh'), u]) ∧ built.Apart w' (w.heap.size + 1) u 4 (make.quad (N xss yss f1 k1 s1 f2 k2 s2)) ∧ Below w.heap.size w w' := by
  obtain ⟨i0, hi, hz0, hz1, hz2⟩ := info_parts infoInt
  obtain ⟨s0, si, sz0, sz1, sz2⟩ := info_parts infoInts
  obtain ⟨b0, o0, c0, b1, o1, c1, b2, o2, c2, rfl, rfl, rfl, k0, k1', k2'⟩ := rcl.parts hr1 hg1
  obtain ⟨d0, q0, e0, d1, q1, e1, d2, q2, e2, rfl, rfl, rfl, l0, l1, l2⟩ := rcl.parts hr2 hg2
  obtain ⟨xb, xo, xc, rfl, hx⟩ := rows4 h ht
  obtain ⟨yb, yo, yc, rfl, hy⟩ := rows4 h' ht'
  have hwb := wrm.wh_bd ht ht'
  have kw : IntKind.i64.wrap (wh * wh') = wh * wh' := IntWalk.i64_in _ (by omega)
  have HWB := Lib.hid hwb
  have HB := Lib.hid (fun (p t g : Nat) (hp : p < 4) (ht2 : t ≤ 16) => (wrm.acc_bd (s1 := s1) (s2 := s2) ht ht' hg1 hg2 hp ht2 g))
  have HN1 := Lib.hid (fun (r k : Nat) (hr : r < 4) (hk : k < 4) => wrm.nn_two ht hr hk)
  have HN2 := Lib.hid (fun (r k : Nat) (hr : r < 4) (hk : k < 4) => wrm.nn_two ht' hr hk)
  have HX := Lib.hid hx
  have HY := Lib.hid hy
  have HK0 := Lib.hid k0
  have HK1 := Lib.hid k1'
  have HK2 := Lib.hid k2'
  have HL0 := Lib.hid l0
  have HL1 := Lib.hid l1
  have HL2 := Lib.hid l2
  have HLR := Lib.hid (fun (W : World) (wh : Int) (b o cap : Nat) (u : Value) (a c : Nat) (ha : a ≤ 1) (hc : c ≤ 1) (g0 : W.cell? ⟨b, o + (a * 2 + c), none⟩ = some u) => l2row_at 2 2 wh (a : Int) (c : Int) b o cap 4 u W ⟨by omega, by omega⟩ rfl (by rw [show at_ 2 (a : Int) (c : Int) = a * 2 + c from by unfold at_; omega]; exact g0) (by omega) (by omega) (by omega) (by omega))
  have B4 := Lib.hid (show Below w.heap.size w ((((w.alloc (.cells #[.int .i64 2, .int .i64 2, .int .i64 wh, .slice (some ⟨xb, xo, none⟩) 4 xc] 28)).alloc (.cells #[.int .i64 2, .int .i64 2, .int .i64 wh', .slice (some ⟨yb, yo, none⟩) 4 yc] 28)).alloc (.cells #[.slice (some ⟨b0, o0, none⟩) 2 c0, .slice (some ⟨b1, o1, none⟩) 2 c1, .slice (some ⟨b2, o2, none⟩) 2 c2] 88)).alloc (.cells #[.slice (some ⟨d0, q0, none⟩) 2 e0, .slice (some ⟨d1, q1, none⟩) 2 e1, .slice (some ⟨d2, q2, none⟩) 2 e2] 88)) from by repeat (first | exact Below.refl _ _ | refine below_al ?_ _))
  have SZ : Hid (((((w.alloc (.cells #[.int .i64 2, .int .i64 2, .int .i64 wh, .slice (some ⟨xb, xo, none⟩) 4 xc] 28)).alloc (.cells #[.int .i64 2, .int .i64 2, .int .i64 wh', .slice (some ⟨yb, yo, none⟩) 4 yc] 28)).alloc (.cells #[.slice (some ⟨b0, o0, none⟩) 2 c0, .slice (some ⟨b1, o1, none⟩) 2 c1, .slice (some ⟨b2, o2, none⟩) 2 c2] 88)).alloc (.cells #[.slice (some ⟨d0, q0, none⟩) 2 e0, .slice (some ⟨d1, q1, none⟩) 2 e1, .slice (some ⟨d2, q2, none⟩) 2 e2] 88)).heap.size = w.heap.size + 1 + 1 + 1 + 1) := Lib.hid (by simp)
  obtain ⟨w4, hw4⟩ : ∃ w4, ((((w.alloc (.cells #[.int .i64 2, .int .i64 2, .int .i64 wh, .slice (some ⟨xb, xo, none⟩) 4 xc] 28)).alloc (.cells #[.int .i64 2, .int .i64 2, .int .i64 wh', .slice (some ⟨yb, yo, none⟩) 4 yc] 28)).alloc (.cells #[.slice (some ⟨b0, o0, none⟩) 2 c0, .slice (some ⟨b1, o1, none⟩) 2 c1, .slice (some ⟨b2, o2, none⟩) 2 c2] 88)).alloc (.cells #[.slice (some ⟨d0, q0, none⟩) 2 e0, .slice (some ⟨d1, q1, none⟩) 2 e1, .slice (some ⟨d2, q2, none⟩) 2 e2] 88)) = w4 := ⟨_, rfl⟩
  have P1 : Hid (Blk w4 w.heap.size 28 #[.int .i64 2, .int .i64 2, .int .i64 wh, .slice (some ⟨xb, xo, none⟩) 4 xc]) := Lib.hid (by rw [← hw4]; exact (((Blk.new w 28 #[.int .i64 2, .int .i64 2, .int .i64 wh, .slice (some ⟨xb, xo, none⟩) 4 xc]).alloc _).alloc _).alloc _)
  have P2 : Hid (Blk w4 (w.heap.size + 1) 28 #[.int .i64 2, .int .i64 2, .int .i64 wh', .slice (some ⟨yb, yo, none⟩) 4 yc]) := Lib.hid (by rw [← hw4]; have := ((Blk.new (w.alloc (.cells #[.int .i64 2, .int .i64 2, .int .i64 wh, .slice (some ⟨xb, xo, none⟩) 4 xc] 28)) 28 #[.int .i64 2, .int .i64 2, .int .i64 wh', .slice (some ⟨yb, yo, none⟩) 4 yc]).alloc (.cells #[.slice (some ⟨b0, o0, none⟩) 2 c0, .slice (some ⟨b1, o1, none⟩) 2 c1, .slice (some ⟨b2, o2, none⟩) 2 c2] 88)).alloc (.cells #[.slice (some ⟨d0, q0, none⟩) 2 e0, .slice (some ⟨d1, q1, none⟩) 2 e1, .slice (some ⟨d2, q2, none⟩) 2 e2] 88); simpa using this)
  have P3 : Hid (Blk w4 (w.heap.size + 1 + 1) 88 #[.slice (some ⟨b0, o0, none⟩) 2 c0, .slice (some ⟨b1, o1, none⟩) 2 c1, .slice (some ⟨b2, o2, none⟩) 2 c2]) := Lib.hid (by rw [← hw4]; have := (Blk.new ((w.alloc (.cells #[.int .i64 2, .int .i64 2, .int .i64 wh, .slice (some ⟨xb, xo, none⟩) 4 xc] 28)).alloc (.cells #[.int .i64 2, .int .i64 2, .int .i64 wh', .slice (some ⟨yb, yo, none⟩) 4 yc] 28)) 88 #[.slice (some ⟨b0, o0, none⟩) 2 c0, .slice (some ⟨b1, o1, none⟩) 2 c1, .slice (some ⟨b2, o2, none⟩) 2 c2]).alloc (.cells #[.slice (some ⟨d0, q0, none⟩) 2 e0, .slice (some ⟨d1, q1, none⟩) 2 e1, .slice (some ⟨d2, q2, none⟩) 2 e2] 88); simpa using this)
  have P4 : Hid (Blk w4 (w.heap.size + 1 + 1 + 1) 88 #[.slice (some ⟨d0, q0, none⟩) 2 e0, .slice (some ⟨d1, q1, none⟩) 2 e1, .slice (some ⟨d2, q2, none⟩) 2 e2]) := Lib.hid (by rw [← hw4]; have := Blk.new (((w.alloc (.cells #[.int .i64 2, .int .i64 2, .int .i64 wh, .slice (some ⟨xb, xo, none⟩) 4 xc] 28)).alloc (.cells #[.int .i64 2, .int .i64 2, .int .i64 wh', .slice (some ⟨yb, yo, none⟩) 4 yc] 28)).alloc (.cells #[.slice (some ⟨b0, o0, none⟩) 2 c0, .slice (some ⟨b1, o1, none⟩) 2 c1, .slice (some ⟨b2, o2, none⟩) 2 c2] 88)) 88 #[.slice (some ⟨d0, q0, none⟩) 2 e0, .slice (some ⟨d1, q1, none⟩) 2 e1, .slice (some ⟨d2, q2, none⟩) 2 e2]; simpa using this)
  rw [hw4] at B4 SZ
  obtain ⟨c0', c1', c2', c3', c4'⟩ := four_cells (P1.out.alloc (.cells #[.int .i64 0, .int .i64 0, .int .i64 0, .slice none 0 0] 28))
  obtain ⟨d0', d1', d2', d3', d4'⟩ := four_cells (P2.out.alloc (.cells #[.int .i64 0, .int .i64 0, .int .i64 0, .slice none 0 0] 28))
  have HW0 : Hid (built.Built w4 (((w4.alloc (.cells #[.int .i64 0, .int .i64 0, .int .i64 0, .slice none 0 0] 28)).alloc (.cells #[] 39)).alloc (.cells #[.int .i64 2, .int .i64 2, .int .i64 (wh * wh'), .slice (some ⟨w4.heap.size + 1, 0, none⟩) 0 0] 28)) w4.heap.size (w4.heap.size + 1 + 1) w4.heap.size 2 2 (wh * wh') (0 * 2) (((w4.alloc (.cells #[.int .i64 0, .int .i64 0, .int .i64 0, .slice none 0 0] 28)).alloc (.cells #[] 39)).alloc (.cells #[.int .i64 2, .int .i64 2, .int .i64 (wh * wh'), .slice (some ⟨w4.heap.size + 1, 0, none⟩) 0 0] 28)).heap.size (.slice (some ⟨w4.heap.size + 1, 0, none⟩) 0 0) [] (make.quad (N xss yss f1 k1 s1 f2 k2 s2))) := Lib.hid (by
    refine ⟨below_al (below_al (below_al (Below.refl _ _) _) _) _, Nat.le_refl _, ⟨Nat.le_refl _, by omega⟩, ?_, ?_, ?_, fun r u hu => by simp at hu, by simp <;> omega, Nat.le_refl _⟩
    · have := Blk.new ((w4.alloc (.cells #[.int .i64 0, .int .i64 0, .int .i64 0, .slice none 0 0] 28)).alloc (.cells #[] 39)) 28 #[.int .i64 2, .int .i64 2, .int .i64 (wh * wh'), .slice (some ⟨w4.heap.size + 1, 0, none⟩) 0 0]
      simpa using this
    · exact ((Blk.new w4 28 #[.int .i64 0, .int .i64 0, .int .i64 0, .slice none 0 0]).alloc _).alloc _
    · have := World.ownsRow_made (base := w4.heap.size) (e := 39) (size := 1) (w4.alloc (.cells #[.int .i64 0, .int .i64 0, .int .i64 0, .slice none 0 0] 28)) #[] 0 (by simp) (Nat.zero_le _) rfl
      have := this.alloc (.cells #[.int .i64 2, .int .i64 2, .int .i64 (wh * wh'), .slice (some ⟨w4.heap.size + 1, 0, none⟩) 0 0] 28)
      simpa using this)
  clear h h' ht ht' hr1 hr2 hg1 hg2 k0 k1' k2' l0 l1 l2 hx hy hwb
  go_enter Try.func136, Try.ntmps136
  go_wp2_with fail
  clear hw4 c0' c1' c2' c3' c4' d0' d1' d2' d3' d4' kw
  go_loopw [10, 11, 12, 13, 14, 15, 16, 17] (fun q z1 z2 z3 z4 z5 z6 z7 wr => ∃ x : Nat, x ≤ 2 ∧ q = .int .i64 x ∧ (∃ z', z1 = z') ∧ (∃ z', z2 = z') ∧ (∃ z', z3 = z') ∧ (∃ z', z4 = z') ∧ (∃ z', z5 = z') ∧ (∃ z', z6 = z') ∧ (∃ z', z7 = z') ∧ ∃ v vals m, Hid (built.Built w4 wr w4.heap.size (w4.heap.size + 1 + 1) w4.heap.size 2 2 (wh * wh') (x * 2) m v vals (make.quad (N xss yss f1 k1 s1 f2 k2 s2)))) (fun q _ _ _ _ _ _ _ _ => 2 - (intOf q).toNat)
  case atStart => exact ⟨0, by omega, rfl, ⟨_, rfl⟩, ⟨_, rfl⟩, ⟨_, rfl⟩, ⟨_, rfl⟩, ⟨_, rfl⟩, ⟨_, rfl⟩, ⟨_, rfl⟩, _, _, _, HW0⟩
  case round =>
    obtain ⟨x, hx, rfl, ⟨z1, rfl⟩, ⟨z2, rfl⟩, ⟨z3, rfl⟩, ⟨z4, rfl⟩, ⟨z5, rfl⟩, ⟨z6, rfl⟩, ⟨z7, rfl⟩, v, vals, m, hW⟩ := hrel
    clear HW0
    obtain ⟨wx, rfl⟩ : ∃ wx : World, wx = wr := ⟨_, rfl⟩
    by_cases hlx : x < 2
    · have hkx : (x : Int) < 2 := by omega
      go_wp2_with fail
      go_loopw [11, 12, 13, 14, 15, 16, 17] (fun q z2 z3 z4 z5 z6 z7 wr => ∃ y : Nat, y ≤ 2 ∧ q = .int .i64 y ∧ (∃ z', z2 = z') ∧ (∃ z', z3 = z') ∧ (∃ z', z4 = z') ∧ (∃ z', z5 = z') ∧ (∃ z', z6 = z') ∧ (∃ z', z7 = z') ∧ ∃ v vals m, Hid (built.Built w4 wr w4.heap.size (w4.heap.size + 1 + 1) w4.heap.size 2 2 (wh * wh') (x * 2 + y) m v vals (make.quad (N xss yss f1 k1 s1 f2 k2 s2)))) (fun q _ _ _ _ _ _ _ => 2 - (intOf q).toNat)
      case atStart => exact ⟨0, by omega, rfl, ⟨_, rfl⟩, ⟨_, rfl⟩, ⟨_, rfl⟩, ⟨_, rfl⟩, ⟨_, rfl⟩, ⟨_, rfl⟩, _, _, _, hW⟩
      case round =>
        clear hW
        obtain ⟨y, hy, rfl, ⟨z2, rfl⟩, ⟨z3, rfl⟩, ⟨z4, rfl⟩, ⟨z5, rfl⟩, ⟨z6, rfl⟩, ⟨z7, rfl⟩, v, vals, m, hW⟩ := hrel
        obtain ⟨wo, rfl⟩ : ∃ wo : World, wo = wr := ⟨_, rfl⟩
        by_cases hly : y < 2
        · have hky : (y : Int) < 2 := by omega
          have hp4 : x * 2 + y < 4 := by omega
          have HP4 := Lib.hid hp4
          have hp1 : (x * 2 + y) / 2 = x := by omega
          have hp2 : (x * 2 + y) % 2 = y := by omega
          obtain ⟨F, hF⟩ : ∃ F, term xss yss f1 k1 f2 k2 (x * 2 + y) = F := ⟨_, rfl⟩
          obtain ⟨G, hG⟩ : ∃ G, spot s1 s2 (x * 2 + y) = G := ⟨_, rfl⟩
          have HQ : Hid (make.quad (N xss yss f1 k1 s1 f2 k2 s2) (x * 2 + y) = [acc F G 16 0, acc F G 16 1, acc F G 16 2, acc F G 16 3]) := Lib.hid (by unfold make.quad N; rw [hF, hG])
          have HBT := HB.out (x * 2 + y)
          rw [hF, hG] at HBT
          have HBp := Lib.hid (fun (t g : Nat) (ht : t ≤ 16) => HBT t g hp4 ht)
          have HFt := Lib.hid (fun (k n : Nat) (hn : n < 4) => show F (4 * k + n) = nn xss (bit f1 x * 2 + bit f2 y) k * nn yss (bit (k1.getD x []) (k / 2) * 2 + bit (k2.getD y []) (k % 2)) n from by
            rw [← hF]; unfold term qa qb; rw [hp1, hp2, show (4 * k + n) / 4 = k by omega, show (4 * k + n) % 4 = n by omega])
          have HGt := Lib.hid (fun (k n : Nat) (hn : n < 4) => show G (4 * k + n) = 2 * bit (s1.getD x []) (2 * (k / 2) + n / 2) + bit (s2.getD y []) (2 * (k % 2) + n % 2) from by
            rw [← hG]; unfold spot sy; rw [hp1, hp2, show (4 * k + n) / 4 = k by omega, show (4 * k + n) % 4 = n by omega])
          obtain ⟨ga, la⟩ := HK0.out x hlx
          obtain ⟨gb, lb⟩ := HL0.out y hly
          obtain ⟨kb, jb, cb, gk, lk⟩ := HK1.out x hlx
          obtain ⟨kd, jd, cd, gd, ld⟩ := HL1.out y hly
          obtain ⟨sb, so, sc, gs, ls⟩ := HK2.out x hlx
          obtain ⟨tb, to, tc, gt, lt⟩ := HL2.out y hly
          have LK := Lib.hid lk
          have LD := Lib.hid ld
          have LS := Lib.hid ls
          have LT := Lib.hid lt
          have GK := Lib.hid gk
          have GD := Lib.hid gd
          have GS := Lib.hid gs
          have GT := Lib.hid gt
          generalize bit f1 x = x1 at *
          generalize bit f2 y = x2 at *
          have hr1 : x1 * 2 + x2 < 4 := by omega
          obtain ⟨rb, ro, rc, gr, hrow⟩ := HX.out (x1 * 2 + x2) hr1
          have HROW := Lib.hid hrow
          have HNR := Lib.hid (fun (k : Nat) (hk : k < 4) => HN1.out (x1 * 2 + x2) k hr1 hk)
          have BO := Lib.hid (below_tr B4.out hW.out.below)
          have z1' : (x1 : Int) < 2 := by omega
          have z2' : (x2 : Int) < 2 := by omega
          obtain ⟨c0', c1', c2', c3', c4'⟩ := four_cells (P1.out.below hW.out.below)
          obtain ⟨r0, r1, r2, r3⟩ := three_cells (P3.out.below hW.out.below)
          obtain ⟨t0, t1, t2, t3⟩ := three_cells (P4.out.below hW.out.below)
          have ga' := below_cell BO.out _ _ ga
          have gb' := below_cell BO.out _ _ gb
          have GR := Lib.hid (below_cell BO.out _ _ gr)
          have LA := Lib.hid la
          have LB := Lib.hid lb
          clear hp4 hp1 hp2 hF hG HBT ga gb lk ld ls lt gk gd gs gt hr1 gr hrow la lb
          have hmk := make.mk4
          go_wp2_with fail
          go_region_held3 (fun w' => w'.cell? ⟨w.heap.size, 0, none⟩ = some (.int .i64 2) ∧ w'.cell? ⟨w.heap.size, 1, none⟩ = some (.int .i64 2) ∧ w'.cell? ⟨w.heap.size, 2, none⟩ = some (.int .i64 wh) ∧ w'.cell? ⟨w.heap.size, 3, none⟩ = some (.slice (some ⟨xb, xo, none⟩) 4 xc) ∧ w'.cell? ⟨w.heap.size + 1 + 1, 0, none⟩ = some (.slice (some ⟨b0, o0, none⟩) 2 c0) ∧ w'.cell? ⟨w.heap.size + 1 + 1 + 1, 0, none⟩ = some (.slice (some ⟨d0, q0, none⟩) 2 e0) ∧ w'.cell? ⟨b0, o0 + x, none⟩ = some (.int .i64 (x1 : Int)) ∧ w'.cell? ⟨d0, q0 + y, none⟩ = some (.int .i64 (x2 : Int)) ∧ Below wo.heap.size wo w')
            ((refine heldA c0' c1' c2' c3' r0 t0 ga' gb' ?_; repeat (first | (with_reducible exact Below.refl _ _) | (with_reducible refine below_dr ?_) | (with_reducible refine below_al ?_ _) | (with_reducible refine below_tr ?_ (by assumption)))))
            (first | (go_at_call 190; (with_reducible refine (HLR.out _ wh xb xo xc _ x1 x2 LA.out LB.out (below_cell ?_ _ _ GR.out)).mono ?_); (repeat (first | (with_reducible exact Below.refl _ _) | (with_reducible refine below_dr ?_) | (with_reducible refine below_al ?_ _))); rintro e w7 ⟨rfl, hb7⟩))
          · have B7 := below_tr (below_dr (below_al (Below.refl wo.heap.size wo) (.cells #[.int .i64 0, .int .i64 0, .int .i64 0, .int .i64 0] 3))) hb7
            have GB : Hid (Blk w7 wo.heap.size 3 #[.int .i64 (wrm.acc F G (4 * 0) 0), .int .i64 (wrm.acc F G (4 * 0) 1), .int .i64 (wrm.acc F G (4 * 0) 2), .int .i64 (wrm.acc F G (4 * 0) 3)]) := Lib.hid ((Blk.new wo 3 #[.int .i64 0, .int .i64 0, .int .i64 0, .int .i64 0]).below (below_tr (below_dr (Below.refl _ _)) hb7))
            have WW : Hid (Below wo.heap.size wo w7) := Lib.hid B7
            have GE : Hid (wo.heap.size ≤ wo.heap.size) := Lib.hid (Nat.le_refl _)
            clear B7 hb7 c0' c1' c2' c3' c4' r0 r1 r2 r3 t0 t1 t2 t3 ga' gb' hmk
            go_wp2_with fail
            go_loopw [14, 15, 16, 17] (fun q z5 z6 z7 wr => ∃ k : Nat, k ≤ 4 ∧ q = .int .i64 k ∧ (∃ z', z5 = z') ∧ (∃ z', z6 = z') ∧ (∃ z', z7 = z') ∧ Hid (Blk wr wo.heap.size 3 #[.int .i64 (wrm.acc F G (4 * k) 0), .int .i64 (wrm.acc F G (4 * k) 1), .int .i64 (wrm.acc F G (4 * k) 2), .int .i64 (wrm.acc F G (4 * k) 3)]) ∧ Hid (Below wo.heap.size wo wr)) (fun q _ _ _ _ => 4 - (intOf q).toNat)
            case atStart => exact ⟨0, by omega, rfl, ⟨_, rfl⟩, ⟨_, rfl⟩, ⟨_, rfl⟩, GB, WW⟩
            case round =>
              clear GB WW
              obtain ⟨k, hk, rfl, ⟨z5, rfl⟩, ⟨z6, rfl⟩, ⟨z7, rfl⟩, hA, hB⟩ := hrel
              obtain ⟨wk, rfl⟩ : ∃ wk : World, wk = wr := ⟨_, rfl⟩
              by_cases hlt : k < 4
              · have hkz : (k : Int) < 4 := by omega
                obtain ⟨ha1, ha2, _, _, _, _⟩ := nums1 hlt
                obtain ⟨m1, m2, m3⟩ := numsS hlt
                have HF1 := HFt.out k
                have HG1 := HGt.out k
                have bd1 := HNR.out k hlt
                have gn := HROW.out k hlt
                obtain ⟨n1, hn1⟩ : ∃ n1, nn xss (x1 * 2 + x2) k = n1 := ⟨_, rfl⟩
                rw [hn1] at HF1 bd1 gn
                obtain ⟨a1, hka⟩ : ∃ a1, k / 2 = a1 := ⟨_, rfl⟩
                obtain ⟨a2, hkb⟩ : ∃ a2, k % 2 = a2 := ⟨_, rfl⟩
                rw [hka] at ha1 m1 m2
                rw [hkb] at ha2 m3
                rw [hka, hkb] at HF1 HG1
                have KA := Lib.hid hka
                have KB := Lib.hid hkb
                clear hka hkb
                obtain ⟨gy, ly⟩ := LK.out a1 ha1
                obtain ⟨gz, lz⟩ := LD.out a2 ha2
                generalize bit (k1.getD x []) a1 = y1 at gy ly HF1
                generalize bit (k2.getD y []) a2 = y2 at gz lz HF1
                have hr2 : y1 * 2 + y2 < 4 := by omega
                obtain ⟨nb, no, nc, gr2, hrow2⟩ := HY.out (y1 * 2 + y2) hr2
                have HB2 := Lib.hid (fun n (hn : n < 4) => HN2.out (y1 * 2 + y2) n hr2 hn)
                have BK := Lib.hid (below_tr BO.out hB.out)
                have HWK := Lib.hid (below_tr hW.out.below hB.out)
                obtain ⟨c0', c1', c2', c3', c4'⟩ := four_cells (P2.out.below HWK.out)
                obtain ⟨r0, r1, r2, r3⟩ := three_cells (P3.out.below HWK.out)
                obtain ⟨t0, t1, t2, t3⟩ := three_cells (P4.out.below HWK.out)
                have g1 := below_cell BK.out _ _ GK.out
                have g2 := below_cell BK.out _ _ gy
                have g3 := below_cell BK.out _ _ GD.out
                have g4 := below_cell BK.out _ _ gz
                have GR2 := Lib.hid (below_cell BK.out _ _ gr2)
                have za1 : (a1 : Int) < 2 := by omega
                have za2 : (a2 : Int) < 2 := by omega
                have HF2 := Lib.hid HF1
                have HG2 := Lib.hid HG1
                have BD1 := Lib.hid bd1
                have LY := Lib.hid ly
                have LZ := Lib.hid lz
                have GN := Lib.hid gn
                have HROW2 := Lib.hid hrow2
                clear HF1 HG1 bd1 hn1 gy gz ly lz gn hr2 gr2 hrow2
                go_wp2_with fail
                go_region_held3 (fun w' => w'.cell? ⟨w.heap.size + 1, 0, none⟩ = some (.int .i64 2) ∧ w'.cell? ⟨w.heap.size + 1, 1, none⟩ = some (.int .i64 2) ∧ w'.cell? ⟨w.heap.size + 1, 2, none⟩ = some (.int .i64 wh') ∧ w'.cell? ⟨w.heap.size + 1, 3, none⟩ = some (.slice (some ⟨yb, yo, none⟩) 4 yc) ∧ w'.cell? ⟨w.heap.size + 1 + 1, 1, none⟩ = some (.slice (some ⟨b1, o1, none⟩) 2 c1) ∧ w'.cell? ⟨w.heap.size + 1 + 1 + 1, 1, none⟩ = some (.slice (some ⟨d1, q1, none⟩) 2 e1) ∧ w'.cell? ⟨b1, o1 + x, none⟩ = some (.slice (some ⟨kb, jb, none⟩) 2 cb) ∧ w'.cell? ⟨kb, jb + a1, none⟩ = some (.int .i64 (y1 : Int)) ∧ w'.cell? ⟨d1, q1 + y, none⟩ = some (.slice (some ⟨kd, jd, none⟩) 2 cd) ∧ w'.cell? ⟨kd, jd + a2, none⟩ = some (.int .i64 (y2 : Int)) ∧ Below wk.heap.size wk w')
                  ((refine heldB c0' c1' c2' c3' r1 t1 g1 g2 g3 g4 ?_; repeat (first | (with_reducible exact Below.refl _ _) | (with_reducible refine below_dr ?_) | (with_reducible refine below_tr ?_ (by assumption)))))
                  (first | (go_at_call 190; (with_reducible refine (HLR.out _ wh' yb yo yc _ y1 y2 LY.out LZ.out (below_cell ?_ _ _ GR2.out)).mono ?_); (repeat (first | (with_reducible exact Below.refl _ _) | (with_reducible refine below_dr ?_))); rintro e w8 ⟨rfl, hb8⟩))
                have B8 := below_tr (below_dr (Below.refl wk.heap.size wk)) hb8
                have A0 : Hid (Blk w8 wo.heap.size 3 #[.int .i64 (wrm.acc F G (4 * k + 0) 0), .int .i64 (wrm.acc F G (4 * k + 0) 1), .int .i64 (wrm.acc F G (4 * k + 0) 2), .int .i64 (wrm.acc F G (4 * k + 0) 3)]) := Lib.hid (hA.out.below B8)
                have W0 : Hid (Below wo.heap.size wo w8) := Lib.hid (below_tr hB.out B8)
                generalize y1 * 2 + y2 = yy at HF2 HB2 HROW2
                clear c0' c1' c2' c3' c4' r0 r1 r2 r3 t0 t1 t2 t3 g1 g2 g3 g4 hb8 B8 hA hB BK HWK m1 m2 m3 GR2
                go_wp2_with fail
                go_loopw [16, 17] (fun q z7 wr => ∃ n : Nat, n ≤ 4 ∧ q = .int .i64 n ∧ (∃ z', z7 = z') ∧ Hid (Blk wr wo.heap.size 3 #[.int .i64 (wrm.acc F G (4 * k + n) 0), .int .i64 (wrm.acc F G (4 * k + n) 1), .int .i64 (wrm.acc F G (4 * k + n) 2), .int .i64 (wrm.acc F G (4 * k + n) 3)]) ∧ Hid (Below wo.heap.size wo wr)) (fun q _ _ => 4 - (intOf q).toNat)
                case atStart => exact ⟨0, by omega, rfl, ⟨_, rfl⟩, A0, W0⟩
                case round =>
                  clear A0 W0
                  obtain ⟨n, hn, rfl, ⟨z7, rfl⟩, hA, hB⟩ := hrel
                  obtain ⟨wi, rfl⟩ : ∃ wi : World, wi = wr := ⟨_, rfl⟩
                  by_cases hln : n < 4
                  · have hnz : (n : Int) < 4 := by omega
                    obtain ⟨hb1, hb2, _, _, _, _⟩ := nums1 hln
                    obtain ⟨m1, m2, m3⟩ := numsS hln
                    obtain ⟨l1, l2, l3⟩ := numsS hlt
                    have bd2 := HB2.out n hln
                    have hf := HF2.out n hln
                    have hg := HG2.out n hln
                    have gn2 := HROW2.out n hln
                    obtain ⟨n2, hn2⟩ : ∃ n2, nn yss yy n = n2 := ⟨_, rfl⟩
                    rw [hn2] at bd2 hf gn2
                    rw [KA.out] at l1 l2
                    rw [KB.out] at l3
                    generalize n / 2 = v1 at hb1 m1 m2 hg
                    generalize n % 2 = v2 at hb2 m3 hg
                    obtain ⟨i1, i2, i3, i4, i5, i6, i7⟩ := nums2 ha1 hb1
                    obtain ⟨j1, j2, j3, j4, j5, j6, j7⟩ := nums2 ha2 hb2
                    rw [i3, i4, j3, j4] at hg
                    obtain ⟨gp, lp⟩ := LS.out i2 i5
                    obtain ⟨gq, lq⟩ := LT.out j2 j5
                    generalize bit (s1.getD x []) i2 = p1 at gp lp hg
                    generalize bit (s2.getD y []) j2 = p2 at gq lq hg
                    obtain ⟨k1', gg, k3, k4, k5, k6, k7⟩ := nums2 (a := p1) (b := p2) (by omega) (by omega)
                    rw [k3, k4] at hg
                    have hacc := HBp.out (4 * k + n) gg (by omega)
                    have hw := HWB.out
                    have hce := cel_acc F G (4 * k + n) gg k5 hA.out
                    have hse : ∀ q, Blk ((wi.drewN q).setCell ⟨wo.heap.size, gg, none⟩ (.int .i64 (acc F G (4 * k + n) gg + n1 * n2))) wo.heap.size 3 #[.int .i64 (wrm.acc F G (4 * k + n + 1) 0), .int .i64 (wrm.acc F G (4 * k + n + 1) 1), .int .i64 (wrm.acc F G (4 * k + n + 1) 2), .int .i64 (wrm.acc F G (4 * k + n + 1) 3)] := fun q => by
                      have := set_acc F G (4 * k + n) gg hg k5 (hA.out.below (below_drewN (Below.refl _ _) q))
                      rw [hf] at this
                      exact this
                    generalize acc F G (4 * k + n) gg = cc at hacc hce hse
                    obtain ⟨s1', s2'⟩ := sum_z (a := cc) (b := n1) (c := n2) (by omega) (by omega) BD1.out.1 BD1.out.2 bd2.1 bd2.2
                    have BI := Lib.hid (below_tr BO.out hB.out)
                    have HWI := Lib.hid (below_tr hW.out.below hB.out)
                    obtain ⟨r0, r1, r2, r3⟩ := three_cells (P3.out.below HWI.out)
                    obtain ⟨t0, t1, t2, t3⟩ := three_cells (P4.out.below HWI.out)
                    have g1 := below_cell BI.out _ _ GS.out
                    have g2 := below_cell BI.out _ _ gp
                    have g3 := below_cell BI.out _ _ GT.out
                    have g4 := below_cell BI.out _ _ gq
                    have g5 := below_cell BI.out _ _ GN.out
                    have g6 := below_cell BI.out _ _ gn2
                    have rf : ∀ q, wi.frozen? ⟨wo.heap.size, q, none⟩ = false := fun q => Joins.unfrozen_of_block hA.out q
                    have y1z : (i2 : Int) < 4 := by omega
                    have y2z : (j2 : Int) < 4 := by omega
                    have y3z : (gg : Int) < 4 := by omega
                    have A3 := Lib.hid hse
                    have W3 : Hid (∀ q, Below wo.heap.size wo ((wi.drewN q).setCell ⟨wo.heap.size, gg, none⟩ (.int .i64 (cc + n1 * n2)))) := Lib.hid (fun q => (below_drewN hB.out q).setCell GE.out _)
                    clear hse hacc hw hf hg hn2 bd2 i3 i4 j3 j4 k3 k4 gp gq hA hB BI HWI r0 r1 r3 t0 t1 t3 lp lq gn2
                    go_wp2_with fail
                    go_quiet (fail)
                    go_wp2_with fail
                    go_region
                    all_goals
                      go_wp2_with fail
                      go_roundw
                      case rel => exact ⟨n + 1, by omega, by go_num, ⟨_, rfl⟩, Lib.hid (A3.out _), Lib.hid (W3.out _)⟩
                      case measure => simp [intOf]; omega
                  · have hnz : ¬ (n : Int) < 4 := by omega
                    obtain rfl : n = 4 := by omega
                    go_wp2_with fail
                    go_roundw
                    case rel => exact ⟨k + 1, by omega, by go_num, ⟨_, rfl⟩, ⟨_, rfl⟩, ⟨_, rfl⟩, hA, hB⟩
                    case measure => simp [intOf]; omega
              · have hkz : ¬ (k : Int) < 4 := by omega
                obtain rfl : k = 4 := by omega
                have hlq : (make.quad (N xss yss f1 k1 s1 f2 k2 s2) (x * 2 + y)).length = 4 := by rw [HQ.out]; rfl
                have Q4 : Hid (wk.ownsRow wo.heap.size 3 1 (.slice (some ⟨wo.heap.size, 0, none⟩) 4 4) (make.quad (N xss yss f1 k1 s1 f2 k2 s2) (x * 2 + y)).length (i64s (make.quad (N xss yss f1 k1 s1 f2 k2 s2) (x * 2 + y)))) := Lib.hid (by
                  rw [hlq, HQ.out]
                  exact ⟨rfl, .inr ⟨wo.heap.size, 4, #[.int .i64 (wrm.acc F G (16) 0), .int .i64 (wrm.acc F G (16) 1), .int .i64 (wrm.acc F G (16) 2), .int .i64 (wrm.acc F G (16) 3)], rfl, GE.out, hA.out, Nat.le_refl _, by unfold maxLen; omega, rfl, rfl⟩⟩)
                have HK := Lib.hid (hW.out.fresh.keep hB.out)
                have hsz := HK.out.below.size
                have hszm := HK.out.le
                have hge := HK.out.ge
                have hbz := HK.out.blk.lt
                have hp4 := HP4.out
                obtain ⟨f0, f1', f2', f3, f4⟩ := four_cells HK.out.blk
                have f3' := fun (o1 : Obj) => below_cell (below_al (Below.refl _ _) o1) _ _ f3
                clear hlq hA hB
                go_wp2_with (at_builtin; go_must (refine wpList_append_own _ rfl (.tmp 120) (.tmp 122) 22 rfl (w4.heap.size) 39 s0 (.slice none 0 0) 1 24 Try.underlying22 si sz0 sz1 sz2 rfl (by decide) _ _ _ rfl ((HK.out.owns).alloc _) ⟨wk.heap.size, 0, none⟩ 1 1 [.slice (some ⟨wo.heap.size, 0, none⟩) 4 4] rfl rfl ?d1xa ?d2xa ?d3xa ?d4xa ?d5xa ?_))
                try (case d1xa => first | exact app.one_at _ _ _ | (have := app.one_at wk (.slice (some ⟨wo.heap.size, 0, none⟩) 4 4) 39; simpa using this))
                case d2xa => first | rfl | (intro u hu; simp at hu; subst hu; rfl) | simp
                case d3xa => unfold maxLen; omega
                case d4xa => omega
                case d5xa => first | omega | (simp; omega)
                intro v' w3 hown' hgrow _
                have HG := Lib.hid (HK.out.keep (below_al (Below.refl _ _) (.cells #[.slice (some ⟨wo.heap.size, 0, none⟩) 4 4] 39)))
                obtain ⟨e1', e2'⟩ := HG.out.field hgrow
                have W4' := Lib.hid (HG.out.grow (Q4.out.alloc (.cells #[.slice (some ⟨wo.heap.size, 0, none⟩) 4 4] 39)) hW.out.below.size hown' hgrow)
                obtain ⟨xa, xl, xc', rfl⟩ := make.shape hown'
                clear hown' hgrow HK HG Q4 f0 f1' f2' f3 f4 f3'
                go_wp2_with fail
                go_roundw
                case rel => exact ⟨y + 1, by omega, by go_num, ⟨_, rfl⟩, ⟨_, rfl⟩, ⟨_, rfl⟩, ⟨_, rfl⟩, ⟨_, rfl⟩, ⟨_, rfl⟩, _, _, _, W4'⟩
                case measure => simp [intOf]; omega
          · have B7 := below_tr (below_dr (Below.refl wo.heap.size wo)) hb7
            have GB : Hid (Blk (w7.alloc (.cells #[.int .i64 0, .int .i64 0, .int .i64 0, .int .i64 0] 3)) w7.heap.size 3 #[.int .i64 (wrm.acc F G (4 * 0) 0), .int .i64 (wrm.acc F G (4 * 0) 1), .int .i64 (wrm.acc F G (4 * 0) 2), .int .i64 (wrm.acc F G (4 * 0) 3)]) := Lib.hid (Blk.new w7 3 #[.int .i64 0, .int .i64 0, .int .i64 0, .int .i64 0])
            have WW : Hid (Below wo.heap.size wo (w7.alloc (.cells #[.int .i64 0, .int .i64 0, .int .i64 0, .int .i64 0] 3))) := Lib.hid (below_al B7 _)
            have GE : Hid (wo.heap.size ≤ w7.heap.size) := Lib.hid B7.size
            clear B7 hb7 c0' c1' c2' c3' c4' r0 r1 r2 r3 t0 t1 t2 t3 ga' gb' hmk
            go_wp2_with fail
            go_loopw [14, 15, 16, 17] (fun q z5 z6 z7 wr => ∃ k : Nat, k ≤ 4 ∧ q = .int .i64 k ∧ (∃ z', z5 = z') ∧ (∃ z', z6 = z') ∧ (∃ z', z7 = z') ∧ Hid (Blk wr w7.heap.size 3 #[.int .i64 (wrm.acc F G (4 * k) 0), .int .i64 (wrm.acc F G (4 * k) 1), .int .i64 (wrm.acc F G (4 * k) 2), .int .i64 (wrm.acc F G (4 * k) 3)]) ∧ Hid (Below wo.heap.size wo wr)) (fun q _ _ _ _ => 4 - (intOf q).toNat)
            case atStart => exact ⟨0, by omega, rfl, ⟨_, rfl⟩, ⟨_, rfl⟩, ⟨_, rfl⟩, GB, WW⟩
            case round =>
              clear GB WW
              obtain ⟨k, hk, rfl, ⟨z5, rfl⟩, ⟨z6, rfl⟩, ⟨z7, rfl⟩, hA, hB⟩ := hrel
              obtain ⟨wk, rfl⟩ : ∃ wk : World, wk = wr := ⟨_, rfl⟩
              by_cases hlt : k < 4
              · have hkz : (k : Int) < 4 := by omega
                obtain ⟨ha1, ha2, _, _, _, _⟩ := nums1 hlt
                obtain ⟨m1, m2, m3⟩ := numsS hlt
                have HF1 := HFt.out k
                have HG1 := HGt.out k
                have bd1 := HNR.out k hlt
                have gn := HROW.out k hlt
                obtain ⟨n1, hn1⟩ : ∃ n1, nn xss (x1 * 2 + x2) k = n1 := ⟨_, rfl⟩
                rw [hn1] at HF1 bd1 gn
                obtain ⟨a1, hka⟩ : ∃ a1, k / 2 = a1 := ⟨_, rfl⟩
                obtain ⟨a2, hkb⟩ : ∃ a2, k % 2 = a2 := ⟨_, rfl⟩
                rw [hka] at ha1 m1 m2
                rw [hkb] at ha2 m3
                rw [hka, hkb] at HF1 HG1
                have KA := Lib.hid hka
                have KB := Lib.hid hkb
                clear hka hkb
                obtain ⟨gy, ly⟩ := LK.out a1 ha1
                obtain ⟨gz, lz⟩ := LD.out a2 ha2
                generalize bit (k1.getD x []) a1 = y1 at gy ly HF1
                generalize bit (k2.getD y []) a2 = y2 at gz lz HF1
                have hr2 : y1 * 2 + y2 < 4 := by omega
                obtain ⟨nb, no, nc, gr2, hrow2⟩ := HY.out (y1 * 2 + y2) hr2
                have HB2 := Lib.hid (fun n (hn : n < 4) => HN2.out (y1 * 2 + y2) n hr2 hn)
                have BK := Lib.hid (below_tr BO.out hB.out)
                have HWK := Lib.hid (below_tr hW.out.below hB.out)
                obtain ⟨c0', c1', c2', c3', c4'⟩ := four_cells (P2.out.below HWK.out)
                obtain ⟨r0, r1, r2, r3⟩ := three_cells (P3.out.below HWK.out)
                obtain ⟨t0, t1, t2, t3⟩ := three_cells (P4.out.below HWK.out)
                have g1 := below_cell BK.out _ _ GK.out
                have g2 := below_cell BK.out _ _ gy
                have g3 := below_cell BK.out _ _ GD.out
                have g4 := below_cell BK.out _ _ gz
                have GR2 := Lib.hid (below_cell BK.out _ _ gr2)
                have za1 : (a1 : Int) < 2 := by omega
                have za2 : (a2 : Int) < 2 := by omega
                have HF2 := Lib.hid HF1
                have HG2 := Lib.hid HG1
                have BD1 := Lib.hid bd1
                have LY := Lib.hid ly
                have LZ := Lib.hid lz
                have GN := Lib.hid gn
                have HROW2 := Lib.hid hrow2
                clear HF1 HG1 bd1 hn1 gy gz ly lz gn hr2 gr2 hrow2
                go_wp2_with fail
                go_region_held3 (fun w' => w'.cell? ⟨w.heap.size + 1, 0, none⟩ = some (.int .i64 2) ∧ w'.cell? ⟨w.heap.size + 1, 1, none⟩ = some (.int .i64 2) ∧ w'.cell? ⟨w.heap.size + 1, 2, none⟩ = some (.int .i64 wh') ∧ w'.cell? ⟨w.heap.size + 1, 3, none⟩ = some (.slice (some ⟨yb, yo, none⟩) 4 yc) ∧ w'.cell? ⟨w.heap.size + 1 + 1, 1, none⟩ = some (.slice (some ⟨b1, o1, none⟩) 2 c1) ∧ w'.cell? ⟨w.heap.size + 1 + 1 + 1, 1, none⟩ = some (.slice (some ⟨d1, q1, none⟩) 2 e1) ∧ w'.cell? ⟨b1, o1 + x, none⟩ = some (.slice (some ⟨kb, jb, none⟩) 2 cb) ∧ w'.cell? ⟨kb, jb + a1, none⟩ = some (.int .i64 (y1 : Int)) ∧ w'.cell? ⟨d1, q1 + y, none⟩ = some (.slice (some ⟨kd, jd, none⟩) 2 cd) ∧ w'.cell? ⟨kd, jd + a2, none⟩ = some (.int .i64 (y2 : Int)) ∧ Below wk.heap.size wk w')
                  ((refine heldB c0' c1' c2' c3' r1 t1 g1 g2 g3 g4 ?_; repeat (first | (with_reducible exact Below.refl _ _) | (with_reducible refine below_dr ?_) | (with_reducible refine below_tr ?_ (by assumption)))))
                  (first | (go_at_call 190; (with_reducible refine (HLR.out _ wh' yb yo yc _ y1 y2 LY.out LZ.out (below_cell ?_ _ _ GR2.out)).mono ?_); (repeat (first | (with_reducible exact Below.refl _ _) | (with_reducible refine below_dr ?_))); rintro e w8 ⟨rfl, hb8⟩))
                have B8 := below_tr (below_dr (Below.refl wk.heap.size wk)) hb8
                have A0 : Hid (Blk w8 w7.heap.size 3 #[.int .i64 (wrm.acc F G (4 * k + 0) 0), .int .i64 (wrm.acc F G (4 * k + 0) 1), .int .i64 (wrm.acc F G (4 * k + 0) 2), .int .i64 (wrm.acc F G (4 * k + 0) 3)]) := Lib.hid (hA.out.below B8)
                have W0 : Hid (Below wo.heap.size wo w8) := Lib.hid (below_tr hB.out B8)
                generalize y1 * 2 + y2 = yy at HF2 HB2 HROW2
                clear c0' c1' c2' c3' c4' r0 r1 r2 r3 t0 t1 t2 t3 g1 g2 g3 g4 hb8 B8 hA hB BK HWK m1 m2 m3 GR2
                go_wp2_with fail
                go_loopw [16, 17] (fun q z7 wr => ∃ n : Nat, n ≤ 4 ∧ q = .int .i64 n ∧ (∃ z', z7 = z') ∧ Hid (Blk wr w7.heap.size 3 #[.int .i64 (wrm.acc F G (4 * k + n) 0), .int .i64 (wrm.acc F G (4 * k + n) 1), .int .i64 (wrm.acc F G (4 * k + n) 2), .int .i64 (wrm.acc F G (4 * k + n) 3)]) ∧ Hid (Below wo.heap.size wo wr)) (fun q _ _ => 4 - (intOf q).toNat)
                case atStart => exact ⟨0, by omega, rfl, ⟨_, rfl⟩, A0, W0⟩
                case round =>
                  clear A0 W0
                  obtain ⟨n, hn, rfl, ⟨z7, rfl⟩, hA, hB⟩ := hrel
                  obtain ⟨wi, rfl⟩ : ∃ wi : World, wi = wr := ⟨_, rfl⟩
                  by_cases hln : n < 4
                  · have hnz : (n : Int) < 4 := by omega
                    obtain ⟨hb1, hb2, _, _, _, _⟩ := nums1 hln
                    obtain ⟨m1, m2, m3⟩ := numsS hln
                    obtain ⟨l1, l2, l3⟩ := numsS hlt
                    have bd2 := HB2.out n hln
                    have hf := HF2.out n hln
                    have hg := HG2.out n hln
                    have gn2 := HROW2.out n hln
                    obtain ⟨n2, hn2⟩ : ∃ n2, nn yss yy n = n2 := ⟨_, rfl⟩
                    rw [hn2] at bd2 hf gn2
                    rw [KA.out] at l1 l2
                    rw [KB.out] at l3
                    generalize n / 2 = v1 at hb1 m1 m2 hg
                    generalize n % 2 = v2 at hb2 m3 hg
                    obtain ⟨i1, i2, i3, i4, i5, i6, i7⟩ := nums2 ha1 hb1
                    obtain ⟨j1, j2, j3, j4, j5, j6, j7⟩ := nums2 ha2 hb2
                    rw [i3, i4, j3, j4] at hg
                    obtain ⟨gp, lp⟩ := LS.out i2 i5
                    obtain ⟨gq, lq⟩ := LT.out j2 j5
                    generalize bit (s1.getD x []) i2 = p1 at gp lp hg
                    generalize bit (s2.getD y []) j2 = p2 at gq lq hg
                    obtain ⟨k1', gg, k3, k4, k5, k6, k7⟩ := nums2 (a := p1) (b := p2) (by omega) (by omega)
                    rw [k3, k4] at hg
                    have hacc := HBp.out (4 * k + n) gg (by omega)
                    have hw := HWB.out
                    have hce := cel_acc F G (4 * k + n) gg k5 hA.out
                    have hse : ∀ q, Blk ((wi.drewN q).setCell ⟨w7.heap.size, gg, none⟩ (.int .i64 (acc F G (4 * k + n) gg + n1 * n2))) w7.heap.size 3 #[.int .i64 (wrm.acc F G (4 * k + n + 1) 0), .int .i64 (wrm.acc F G (4 * k + n + 1) 1), .int .i64 (wrm.acc F G (4 * k + n + 1) 2), .int .i64 (wrm.acc F G (4 * k + n + 1) 3)] := fun q => by
                      have := set_acc F G (4 * k + n) gg hg k5 (hA.out.below (below_drewN (Below.refl _ _) q))
                      rw [hf] at this
                      exact this
                    generalize acc F G (4 * k + n) gg = cc at hacc hce hse
                    obtain ⟨s1', s2'⟩ := sum_z (a := cc) (b := n1) (c := n2) (by omega) (by omega) BD1.out.1 BD1.out.2 bd2.1 bd2.2
                    have BI := Lib.hid (below_tr BO.out hB.out)
                    have HWI := Lib.hid (below_tr hW.out.below hB.out)
                    obtain ⟨r0, r1, r2, r3⟩ := three_cells (P3.out.below HWI.out)
                    obtain ⟨t0, t1, t2, t3⟩ := three_cells (P4.out.below HWI.out)
                    have g1 := below_cell BI.out _ _ GS.out
                    have g2 := below_cell BI.out _ _ gp
                    have g3 := below_cell BI.out _ _ GT.out
                    have g4 := below_cell BI.out _ _ gq
                    have g5 := below_cell BI.out _ _ GN.out
                    have g6 := below_cell BI.out _ _ gn2
                    have rf : ∀ q, wi.frozen? ⟨w7.heap.size, q, none⟩ = false := fun q => Joins.unfrozen_of_block hA.out q
                    have y1z : (i2 : Int) < 4 := by omega
                    have y2z : (j2 : Int) < 4 := by omega
                    have y3z : (gg : Int) < 4 := by omega
                    have A3 := Lib.hid hse
                    have W3 : Hid (∀ q, Below wo.heap.size wo ((wi.drewN q).setCell ⟨w7.heap.size, gg, none⟩ (.int .i64 (cc + n1 * n2)))) := Lib.hid (fun q => (below_drewN hB.out q).setCell GE.out _)
                    clear hse hacc hw hf hg hn2 bd2 i3 i4 j3 j4 k3 k4 gp gq hA hB BI HWI r0 r1 r3 t0 t1 t3 lp lq gn2
                    go_wp2_with fail
                    go_quiet (fail)
                    go_wp2_with fail
                    go_region
                    all_goals
                      go_wp2_with fail
                      go_roundw
                      case rel => exact ⟨n + 1, by omega, by go_num, ⟨_, rfl⟩, Lib.hid (A3.out _), Lib.hid (W3.out _)⟩
                      case measure => simp [intOf]; omega
                  · have hnz : ¬ (n : Int) < 4 := by omega
                    obtain rfl : n = 4 := by omega
                    go_wp2_with fail
                    go_roundw
                    case rel => exact ⟨k + 1, by omega, by go_num, ⟨_, rfl⟩, ⟨_, rfl⟩, ⟨_, rfl⟩, hA, hB⟩
                    case measure => simp [intOf]; omega
              · have hkz : ¬ (k : Int) < 4 := by omega
                obtain rfl : k = 4 := by omega
                have hlq : (make.quad (N xss yss f1 k1 s1 f2 k2 s2) (x * 2 + y)).length = 4 := by rw [HQ.out]; rfl
                have Q4 : Hid (wk.ownsRow wo.heap.size 3 1 (.slice (some ⟨w7.heap.size, 0, none⟩) 4 4) (make.quad (N xss yss f1 k1 s1 f2 k2 s2) (x * 2 + y)).length (i64s (make.quad (N xss yss f1 k1 s1 f2 k2 s2) (x * 2 + y)))) := Lib.hid (by
                  rw [hlq, HQ.out]
                  exact ⟨rfl, .inr ⟨w7.heap.size, 4, #[.int .i64 (wrm.acc F G (16) 0), .int .i64 (wrm.acc F G (16) 1), .int .i64 (wrm.acc F G (16) 2), .int .i64 (wrm.acc F G (16) 3)], rfl, GE.out, hA.out, Nat.le_refl _, by unfold maxLen; omega, rfl, rfl⟩⟩)
                have HK := Lib.hid (hW.out.fresh.keep hB.out)
                have hsz := HK.out.below.size
                have hszm := HK.out.le
                have hge := HK.out.ge
                have hbz := HK.out.blk.lt
                have hp4 := HP4.out
                obtain ⟨f0, f1', f2', f3, f4⟩ := four_cells HK.out.blk
                have f3' := fun (o1 : Obj) => below_cell (below_al (Below.refl _ _) o1) _ _ f3
                clear hlq hA hB
                go_wp2_with (at_builtin; go_must (refine wpList_append_own _ rfl (.tmp 120) (.tmp 122) 22 rfl (w4.heap.size) 39 s0 (.slice none 0 0) 1 24 Try.underlying22 si sz0 sz1 sz2 rfl (by decide) _ _ _ rfl ((HK.out.owns).alloc _) ⟨wk.heap.size, 0, none⟩ 1 1 [.slice (some ⟨w7.heap.size, 0, none⟩) 4 4] rfl rfl ?d1xb ?d2xb ?d3xb ?d4xb ?d5xb ?_))
                try (case d1xb => first | exact app.one_at _ _ _ | (have := app.one_at wk (.slice (some ⟨w7.heap.size, 0, none⟩) 4 4) 39; simpa using this))
                case d2xb => first | rfl | (intro u hu; simp at hu; subst hu; rfl) | simp
                case d3xb => unfold maxLen; omega
                case d4xb => omega
                case d5xb => first | omega | (simp; omega)
                intro v' w3 hown' hgrow _
                have HG := Lib.hid (HK.out.keep (below_al (Below.refl _ _) (.cells #[.slice (some ⟨w7.heap.size, 0, none⟩) 4 4] 39)))
                obtain ⟨e1', e2'⟩ := HG.out.field hgrow
                have W4' := Lib.hid (HG.out.grow (Q4.out.alloc (.cells #[.slice (some ⟨w7.heap.size, 0, none⟩) 4 4] 39)) hW.out.below.size hown' hgrow)
                obtain ⟨xa, xl, xc', rfl⟩ := make.shape hown'
                clear hown' hgrow HK HG Q4 f0 f1' f2' f3 f4 f3'
                go_wp2_with fail
                go_roundw
                case rel => exact ⟨y + 1, by omega, by go_num, ⟨_, rfl⟩, ⟨_, rfl⟩, ⟨_, rfl⟩, ⟨_, rfl⟩, ⟨_, rfl⟩, ⟨_, rfl⟩, _, _, _, W4'⟩
                case measure => simp [intOf]; omega
        · have hky : ¬ (y : Int) < 2 := by omega
          obtain rfl : y = 2 := by omega
          go_wp2_with fail
          go_roundw
          case rel => exact ⟨x + 1, by omega, by go_num, ⟨_, rfl⟩, ⟨_, rfl⟩, ⟨_, rfl⟩, ⟨_, rfl⟩, ⟨_, rfl⟩, ⟨_, rfl⟩, ⟨_, rfl⟩, v, vals, m, by rw [Nat.add_mul, Nat.one_mul]; exact hW⟩
          case measure => simp [intOf]; omega
    · have hkx : ¬ (x : Int) < 2 := by omega
      obtain rfl : x = 2 := by omega
      obtain ⟨xa, xl, xc', rfl⟩ := make.shape hW.out.owns
      obtain ⟨f0, f1', f2', f3, f4⟩ := four_cells hW.out.blk
      obtain ⟨r0, r1, r2, r3, r4⟩ := four_cells hW.out.res
      have rf : ∀ k, wx.frozen? ⟨w4.heap.size, k, none⟩ = false := fun k => Joins.unfrozen_of_block hW.out.res k
      have HW := hW
      clear hW
      go_wp2_with fail
      refine bodyPost_ret (v := .agg #[.int .i64 2, .int .i64 2, .int .i64 (wh * wh'), .slice xa xl xc']) (by simp [results, Try.results136, go_sem, r0, r1, r2, r3]) rfl ⟨_, rfl, ?_, ?_⟩
      · refine (HW.out.apart ?_).mono (by have := SZ.out; omega)
        repeat (first | exact Wrote.refl _ _ | refine Wrote.setCell ?_ (by simp) _)
      · have hsw := B4.out.size
        repeat (refine Below.setCell ?_ (by simp <;> omega) _)
        exact below_tr B4.out HW.out.below


end Go.Proofs.Ytiigfhigmdjooaa.wis
