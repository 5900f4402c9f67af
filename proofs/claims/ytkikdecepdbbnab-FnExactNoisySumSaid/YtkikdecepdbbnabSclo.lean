/- ScaleBox: the closure of the program. -/
import Derived.Test.YtkikdecepdbbnabScale
namespace Go.Proofs.Ytkikdecepdbbnab.scale
open Go.RowKit Go.Deep Go.Proofs.Ytkikdecepdbbnab.base
open Go.Proofs.Ytkikdecepdbbnab.val (okSizes okBox)
open Go.Proofs.Ytkikdecepdbbnab.row (nn nn_bd at_ at_lt)

set_option maxHeartbeats 2000000 in
theorem clo (p0 p1 : Nat) (X Y : Nat) (wh kk : Int) (v : Value) (xss : List (List Int)) (a c : Nat) (w : World) (h0 : Blk w p0 41 #[.int .i64 (X : Int), .int .i64 (Y : Int), .int .i64 wh, v]) (h1 : w.cell? ⟨p1, 0, none⟩ = some (.int .i64 kk))
    (hv : IRows w v xss) (hok : okBox X Y wh xss) (k0 : 1 ≤ kk) (k1 : kk ≤ 1000) (ha : a < X) (hc : c < Y) :
    Calls Try.prog 117 #[.int .i64 (a : Int), .int .i64 (c : Int), .pointer (some ⟨p0, 0, none⟩), .pointer (some ⟨p1, 0, none⟩)] w fun e w' =>
      e = .returned (.agg #[.int .i64 (N xss kk (a * Y + c) 0), .int .i64 (N xss kk (a * Y + c) 1), .int .i64 (N xss kk (a * Y + c) 2), .int .i64 (N xss kk (a * Y + c) 3)]) ∧ Below w.heap.size w w' := by
  unfold N
  have HRW := Lib.hid (fun (W : World) (hb : Below w.heap.size w W) => row.rowof X Y wh a c v xss W (hv.below hb) hok (by omega) (by omega) (by omega) (by omega))
  have hr := at_lt (i := a) (j := c) hok (by omega) (by omega) (by omega) (by omega)
  have b0 := nn_bd hok hr (k := 0) (by omega)
  have b1 := nn_bd hok hr (k := 1) (by omega)
  have b2 := nn_bd hok hr (k := 2) (by omega)
  have b3 := nn_bd hok hr (k := 3) (by omega)
  rw [at_nat] at *
  obtain ⟨va, vl, vc, rfl⟩ := hv.shape
  have HRW' := HRW.out
  generalize nn xss (a * Y + c) 0 = n0 at *
  generalize nn xss (a * Y + c) 1 = n1 at *
  generalize nn xss (a * Y + c) 2 = n2 at *
  generalize nn xss (a * Y + c) 3 = n3 at *
  have w0 := wrapm b0.1 b0.2 k0 k1
  have w1' := wrapm b1.1 b1.2 k0 k1
  have w2' := wrapm b2.1 b2.2 k0 k1
  have w3' := wrapm b3.1 b3.2 k0 k1
  have H1 := Lib.hid HRW'
  have B0 := Lib.hid (below_al (Below.refl w.heap.size w) (.cells #[.int .i64 0, .int .i64 0, .int .i64 0, .int .i64 0] 87))
  have R0 := Lib.hid (Blk.new w 87 #[.int .i64 0, .int .i64 0, .int .i64 0, .int .i64 0])
  have h0' := h0.below B0.out
  obtain ⟨c0, c1, c2, c3, c4⟩ := four_cells h0'
  clear HRW HRW' hr hok hv b0 b1 b2 b3 h0 h0'
  go_enter Try.func117, Try.ntmps117
  go_wp2_with fail
  refine (H1.out _ B0.out).mono ?_
  rintro e w1 ⟨rfl, hb⟩
  have B1 := Lib.hid (below_tr B0.out hb)
  have R1 := Lib.hid (R0.out.below hb)
  obtain ⟨g, hg⟩ : ∃ g, w1.heap.size = g := ⟨_, rfl⟩
  have hgz : w.heap.size < g := by have := hb.size; simp at this; omega
  clear hb c0 c1 c2 c3 c4 H1 B0 R0
  go_wp2_with fail
  have HS0 : Hid (Blk (w1.alloc (.cells #[.int .i64 n0, .int .i64 n1, .int .i64 n2, .int .i64 n3] 87)) g 87 (st n0 n1 n2 n3 kk 0) ∧ Blk (w1.alloc (.cells #[.int .i64 n0, .int .i64 n1, .int .i64 n2, .int .i64 n3] 87)) w.heap.size 87 #[.int .i64 0, .int .i64 0, .int .i64 0, .int .i64 0] ∧ Below w.heap.size w (w1.alloc (.cells #[.int .i64 n0, .int .i64 n1, .int .i64 n2, .int .i64 n3] 87))) := Lib.hid ⟨by rw [← hg]; exact Blk.new _ _ _, R1.out.alloc _, below_al B1.out _⟩
  clear hg
  go_loopw [13] (fun i wr => ∃ j : Nat, j ≤ 4 ∧ i = .int .i64 j ∧ Hid (Blk wr g 87 (st n0 n1 n2 n3 kk j) ∧ Blk wr w.heap.size 87 #[.int .i64 0, .int .i64 0, .int .i64 0, .int .i64 0] ∧ Below w.heap.size w wr)) (fun i _ => 4 - (intOf i).toNat)
  case atStart => exact ⟨0, Nat.zero_le _, rfl, HS0⟩
  case round =>
    obtain ⟨j, hj, rfl, hS⟩ := hrel
    clear HS0
    obtain rfl | rfl | rfl | rfl | rfl : j = 0 ∨ j = 1 ∨ j = 2 ∨ j = 3 ∨ j = 4 := by omega
    · have hB : Blk wr g 87 #[.int .i64 n0, .int .i64 n1, .int .i64 n2, .int .i64 n3] := by simpa [st] using hS.out.1
      obtain ⟨c0, c1, c2, c3, c4⟩ := four_cells hB
      have rf : ∀ k, wr.frozen? ⟨g, k, none⟩ = false := fun k => Joins.unfrozen_of_block hB k
      have hkc := below_cell hS.out.2.2 _ _ h1
      go_wp2_with fail
      go_region
      go_wp2_with fail
      go_roundw
      case rel =>
        refine ⟨1, by omega, by go_num, Lib.hid ⟨?_, ?_, ?_⟩⟩
        · have hB2 : Blk (wr.setCell ⟨g, 0, none⟩ (.int .i64 (n0 * kk))) g 87 (st n0 n1 n2 n3 kk 1) := by
            have := Joins.block_setCell (i := 0) hB (.int .i64 (n0 * kk))
            unfold Blk
            simpa [st] using this
          exact hB2.below (below_dr (Below.refl _ _))
        · exact hS.out.2.1.wrote (Wrote.drew (Wrote.setCell (S := fun p => p.block = g) (Wrote.refl _ _) rfl _)) (fun p hp => by rw [hp]; omega)
        · exact below_dr (Below.setCell hS.out.2.2 (by show w.heap.size ≤ g; omega) _)
      case measure => simp [intOf]
    · have hB : Blk wr g 87 #[.int .i64 (n0 * kk), .int .i64 n1, .int .i64 n2, .int .i64 n3] := by simpa [st] using hS.out.1
      obtain ⟨c0, c1, c2, c3, c4⟩ := four_cells hB
      have rf : ∀ k, wr.frozen? ⟨g, k, none⟩ = false := fun k => Joins.unfrozen_of_block hB k
      have hkc := below_cell hS.out.2.2 _ _ h1
      go_wp2_with fail
      go_region
      go_wp2_with fail
      go_roundw
      case rel =>
        refine ⟨2, by omega, by go_num, Lib.hid ⟨?_, ?_, ?_⟩⟩
        · have hB2 : Blk (wr.setCell ⟨g, 1, none⟩ (.int .i64 (n1 * kk))) g 87 (st n0 n1 n2 n3 kk 2) := by
            have := Joins.block_setCell (i := 1) hB (.int .i64 (n1 * kk))
            unfold Blk
            simpa [st] using this
          exact hB2.below (below_dr (Below.refl _ _))
        · exact hS.out.2.1.wrote (Wrote.drew (Wrote.setCell (S := fun p => p.block = g) (Wrote.refl _ _) rfl _)) (fun p hp => by rw [hp]; omega)
        · exact below_dr (Below.setCell hS.out.2.2 (by show w.heap.size ≤ g; omega) _)
      case measure => simp [intOf]
    · have hB : Blk wr g 87 #[.int .i64 (n0 * kk), .int .i64 (n1 * kk), .int .i64 n2, .int .i64 n3] := by simpa [st] using hS.out.1
      obtain ⟨c0, c1, c2, c3, c4⟩ := four_cells hB
      have rf : ∀ k, wr.frozen? ⟨g, k, none⟩ = false := fun k => Joins.unfrozen_of_block hB k
      have hkc := below_cell hS.out.2.2 _ _ h1
      go_wp2_with fail
      go_region
      go_wp2_with fail
      go_roundw
      case rel =>
        refine ⟨3, by omega, by go_num, Lib.hid ⟨?_, ?_, ?_⟩⟩
        · have hB2 : Blk (wr.setCell ⟨g, 2, none⟩ (.int .i64 (n2 * kk))) g 87 (st n0 n1 n2 n3 kk 3) := by
            have := Joins.block_setCell (i := 2) hB (.int .i64 (n2 * kk))
            unfold Blk
            simpa [st] using this
          exact hB2.below (below_dr (Below.refl _ _))
        · exact hS.out.2.1.wrote (Wrote.drew (Wrote.setCell (S := fun p => p.block = g) (Wrote.refl _ _) rfl _)) (fun p hp => by rw [hp]; omega)
        · exact below_dr (Below.setCell hS.out.2.2 (by show w.heap.size ≤ g; omega) _)
      case measure => simp [intOf]
    · have hB : Blk wr g 87 #[.int .i64 (n0 * kk), .int .i64 (n1 * kk), .int .i64 (n2 * kk), .int .i64 n3] := by simpa [st] using hS.out.1
      obtain ⟨c0, c1, c2, c3, c4⟩ := four_cells hB
      have rf : ∀ k, wr.frozen? ⟨g, k, none⟩ = false := fun k => Joins.unfrozen_of_block hB k
      have hkc := below_cell hS.out.2.2 _ _ h1
      go_wp2_with fail
      go_region
      go_wp2_with fail
      go_roundw
      case rel =>
        refine ⟨4, by omega, by go_num, Lib.hid ⟨?_, ?_, ?_⟩⟩
        · have hB2 : Blk (wr.setCell ⟨g, 3, none⟩ (.int .i64 (n3 * kk))) g 87 (st n0 n1 n2 n3 kk 4) := by
            have := Joins.block_setCell (i := 3) hB (.int .i64 (n3 * kk))
            unfold Blk
            simpa [st] using this
          exact hB2.below (below_dr (Below.refl _ _))
        · exact hS.out.2.1.wrote (Wrote.drew (Wrote.setCell (S := fun p => p.block = g) (Wrote.refl _ _) rfl _)) (fun p hp => by rw [hp]; omega)
        · exact below_dr (Below.setCell hS.out.2.2 (by show w.heap.size ≤ g; omega) _)
      case measure => simp [intOf]
    · have hB : Blk wr g 87 #[.int .i64 (n0 * kk), .int .i64 (n1 * kk), .int .i64 (n2 * kk), .int .i64 (n3 * kk)] := by simpa [st] using hS.out.1
      obtain ⟨c0, c1, c2, c3, c4⟩ := four_cells hB
      obtain ⟨r0, r1, r2, r3, r4⟩ := four_cells hS.out.2.1
      have rf : ∀ k, wr.frozen? ⟨w.heap.size, k, none⟩ = false := fun k => Joins.unfrozen_of_block hS.out.2.1 k
      have HB := Lib.hid hS.out.2.2
      clear hS
      go_wp2_with fail
      refine bodyPost_ret (v := .agg #[.int .i64 (n0 * kk), .int .i64 (n1 * kk), .int .i64 (n2 * kk), .int .i64 (n3 * kk)]) (by simp [results, Try.results117, go_sem, r0, r1, r2, r3]) rfl ⟨rfl, ?_⟩
      repeat (refine Below.setCell ?_ (by simp <;> omega) _)
      exact HB.out

end Go.Proofs.Ytkikdecepdbbnab.scale
