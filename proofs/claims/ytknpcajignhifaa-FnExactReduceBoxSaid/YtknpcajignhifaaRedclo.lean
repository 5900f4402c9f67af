/- ReduceBox: the closure of the program. -/
import Derived.Test.YtknpcajignhifaaRed
namespace Go.Proofs.Ytknpcajignhifaa.red
open Go.RowKit Go.Deep Go.Proofs.Ytknpcajignhifaa.base
open Go.Proofs.Ytknpcajignhifaa.val (okSizes okBox)
open Go.Proofs.Ytknpcajignhifaa.row (nn nn_bd at_ at_lt)
open Go.Proofs.Ytknpcajignhifaa.ints (infoInts)

set_option maxHeartbeats 4000000 in
theorem make_any (p0 p1 : Nat) (X Y : Nat) (wh : Int) (N : Nat → Nat → Int) (w : World) (hX : X ≤ 3) (hY : Y ≤ 3)
    (hrow : ∀ (i j : Nat) (W : World), i < X → j < Y → Below w.heap.size w W → Calls Try.prog 89 #[.int .i64 (i : Int), .int .i64 (j : Int), .pointer (some ⟨p0, 0, none⟩), .pointer (some ⟨p1, 0, none⟩)] W fun e w' =>
      e = .returned (.agg #[.int .i64 (N (i * Y + j) 0), .int .i64 (N (i * Y + j) 1), .int .i64 (N (i * Y + j) 2), .int .i64 (N (i * Y + j) 3)]) ∧ Below W.heap.size W w') :
    Calls Try.prog 61 #[.int .i64 (X : Int), .int .i64 (Y : Int), .int .i64 wh, .func (.func 89) #[] #[.pointer (some ⟨p0, 0, none⟩), .pointer (some ⟨p1, 0, none⟩)]] w fun e w' => ∃ u, e = .returned (.agg #[.int .i64 (X : Int), .int .i64 (Y : Int), .int .i64 wh, u]) ∧
      OwnRows w' w.heap.size w'.heap.size u (make.rowsOf N (X * Y)) ∧ Below w.heap.size w w' := by
  obtain ⟨i0, hi, hz0, hz1, hz2⟩ := info_parts infoInts
  have h9 : X * Y ≤ 9 := Nat.mul_le_mul hX hY
  have hm : (X : Int) * (Y : Int) = ((X * Y : Nat) : Int) := by simp
  have hmk := app.mk0s (X * Y) (by omega)
  rw [← hm] at hmk
  have hw1 : IntKind.i64.wrap ((X : Int) * (Y : Int)) = (X : Int) * (Y : Int) := IntWalk.i64_in _ (by omega)
  have HM := Lib.hid hm
  have HR := Lib.hid hrow
  clear hm hrow
  go_enter Try.func61, Try.ntmps61
  go_wp2_with fail
  clear hmk hw1
  have HW0 : Hid (make.Way w (((w.alloc (.cells #[.int .i64 0, .int .i64 0, .int .i64 0, .slice none 0 0] 33)).alloc (.cells (madeCells #[.slice none 0 0] (X * Y)) 22)).alloc
      (.cells #[.int .i64 (X : Int), .int .i64 (Y : Int), .int .i64 wh, .slice (some ⟨w.heap.size + 1, 0, none⟩) 0 (X * Y)] 33)) (w.heap.size + 1 + 1) X Y wh (0 * Y) (.slice (some ⟨w.heap.size + 1, 0, none⟩) 0 (X * Y)) [] N) := Lib.hid (by
    refine ⟨below_al (below_al (below_al (Below.refl _ _) _) _) _, by omega, ?_, ?_, ?_, fun r u hu => by simp at hu, fun r s g g' _ hu => by simp at hu⟩
    · have := Blk.new ((w.alloc (.cells #[.int .i64 0, .int .i64 0, .int .i64 0, .slice none 0 0] 33)).alloc (.cells (madeCells #[.slice none 0 0] (X * Y)) 22)) 33 #[.int .i64 (X : Int), .int .i64 (Y : Int), .int .i64 wh, .slice (some ⟨w.heap.size + 1, 0, none⟩) 0 (X * Y)]
      simpa using this
    · exact ((Blk.new w 33 #[.int .i64 0, .int .i64 0, .int .i64 0, .slice none 0 0]).alloc _).alloc _
    · have := World.ownsRow_made (base := w.heap.size + 1) (e := 22) (size := 1) (w.alloc (.cells #[.int .i64 0, .int .i64 0, .int .i64 0, .slice none 0 0] 33)) (madeCells #[.slice none 0 0] (X * Y)) (X * Y) (by simp) (by unfold maxLen; omega) (by simp [madeCells])
      have := this.alloc (.cells #[.int .i64 (X : Int), .int .i64 (Y : Int), .int .i64 wh, .slice (some ⟨w.heap.size + 1, 0, none⟩) 0 (X * Y)] 33)
      simpa using this)
  go_loopw [23] (fun i wr => ∃ a : Nat, a ≤ X ∧ i = .int .i64 a ∧ ∃ v vals, Hid (make.Way w wr (w.heap.size + 1 + 1) X Y wh (a * Y) v vals N)) (fun i _ => X - (intOf i).toNat)
  case atStart => exact ⟨0, Nat.zero_le _, rfl, _, _, HW0⟩
  case round =>
    obtain ⟨a, ha, rfl, v, vals, hW⟩ := hrel
    clear HW0
    obtain ⟨wo, rfl⟩ : ∃ wo : World, wo = wr := ⟨_, rfl⟩
    by_cases hlt : a < X
    · have hkz : (a : Int) < (X : Int) := by omega
      go_wp2_with fail
      go_loopw [27] (fun j wi => ∃ c : Nat, c ≤ Y ∧ j = .int .i64 c ∧ ∃ v vals, Hid (make.Way w wi (w.heap.size + 1 + 1) X Y wh (a * Y + c) v vals N)) (fun j _ => Y - (intOf j).toNat)
      case atStart => exact ⟨0, Nat.zero_le _, rfl, _, _, hW⟩
      case round =>
        obtain ⟨c, hc, rfl, v, vals, hW⟩ := hrel
        by_cases hlc : c < Y
        · have hkc : (c : Int) < (Y : Int) := by omega
          have hcall := HR.out a c _ hlt hlc hW.out.below
          have HCA := Lib.hid hcall
          have hk9 : a * Y + c < 9 := by
            have h1 : a * Y + c < (a + 1) * Y := by rw [Nat.add_mul]; omega
            have h2 : (a + 1) * Y ≤ X * Y := Nat.mul_le_mul_right _ (by omega)
            omega
          have HK9 := Lib.hid hk9
          clear hcall hk9
          go_wp2_with fail
          refine HCA.out.mono ?_
          rintro e w2 ⟨rfl, hb⟩
          have W2 := Lib.hid (hW.out.keep hb)
          have hcp := row.copy4p (W := w2.alloc (.cells #[.int .i64 (N (a * Y + c) 0), .int .i64 (N (a * Y + c) 1), .int .i64 (N (a * Y + c) 2), .int .i64 (N (a * Y + c) 3)] 70)) (b := w2.heap.size) (o := 0) (cap := 4) (n := w2.heap.size + 1)
            (n0 := .int .i64 (N (a * Y + c) 0)) (n1 := .int .i64 (N (a * Y + c) 1)) (n2 := .int .i64 (N (a * Y + c) 2)) (n3 := .int .i64 (N (a * Y + c) 3)) #[.int .i64 0, .int .i64 0, .int .i64 0, .int .i64 0] 3 rfl (by simp)
            (by rw [Joins.cell_of_block (heap_alloc_new w2 _)]; rfl) (by rw [Joins.cell_of_block (heap_alloc_new w2 _)]; rfl) (by rw [Joins.cell_of_block (heap_alloc_new w2 _)]; rfl) (by rw [Joins.cell_of_block (heap_alloc_new w2 _)]; rfl) rfl rfl rfl rfl
          have hrowis : ((w2.alloc (.cells #[.int .i64 (N (a * Y + c) 0), .int .i64 (N (a * Y + c) 1), .int .i64 (N (a * Y + c) 2), .int .i64 (N (a * Y + c) 3)] 70)).alloc (.cells #[.int .i64 (N (a * Y + c) 0), .int .i64 (N (a * Y + c) 1), .int .i64 (N (a * Y + c) 2), .int .i64 (N (a * Y + c) 3)] 3)).rowIs (w2.heap.size + 1) 3 4 (fun j => .int .i64 ((make.quad N (a * Y + c)).getD j 0)) := by
            refine ⟨#[.int .i64 (N (a * Y + c) 0), .int .i64 (N (a * Y + c) 1), .int .i64 (N (a * Y + c) 2), .int .i64 (N (a * Y + c) 3)], by
              have := heap_alloc_new (w2.alloc (.cells #[.int .i64 (N (a * Y + c) 0), .int .i64 (N (a * Y + c) 1), .int .i64 (N (a * Y + c) 2), .int .i64 (N (a * Y + c) 3)] 70)) (.cells #[.int .i64 (N (a * Y + c) 0), .int .i64 (N (a * Y + c) 1), .int .i64 (N (a * Y + c) 2), .int .i64 (N (a * Y + c) 3)] 3)
              simpa using this, rfl, fun i hi => ?_⟩
            match i, hi with
            | 0, _ => rfl
            | 1, _ => rfl
            | 2, _ => rfl
            | 3, _ => rfl
          have HRI := Lib.hid hrowis
          have hm4 := make.mk4
          obtain ⟨c0, c1, c2, c3, c4⟩ := four_cells W2.out.blk
          have hsz := W2.out.below.size
          have c3' := fun (o1 o2 : Obj) => below_cell (below_al (below_al (Below.refl _ _) o1) o2) _ _ c3
          have c5 : w.heap.size + 1 + 1 < w2.heap.size + 1 := by omega
          clear hb hW HCA hrowis
          go_wp2_with (at_builtin; go_must (refine wpList_append_own _ rfl (.tmp 39) (.tmp 41) 29 rfl (w.heap.size + 1) 22 i0 (.slice none 0 0) 1 24 Try.underlying29 hi hz0 hz1 hz2 rfl (by decide) _ _ _ rfl (((W2.out.keep (below_al (below_al (Below.refl _ _) _) _)).owns).alloc _) ⟨w2.heap.size + 1 + 1, 0, none⟩ 1 1 [.slice (some ⟨w2.heap.size + 1, 0, none⟩) 4 4] rfl rfl ?c1 ?c2 ?c3 ?c4 ?c5 ?_))
          case c1 =>
            have := app.one_at ((w2.alloc (.cells #[.int .i64 (N (a * Y + c) 0), .int .i64 (N (a * Y + c) 1), .int .i64 (N (a * Y + c) 2), .int .i64 (N (a * Y + c) 3)] 70)).alloc (.cells #[.int .i64 (N (a * Y + c) 0), .int .i64 (N (a * Y + c) 1), .int .i64 (N (a * Y + c) 2), .int .i64 (N (a * Y + c) 3)] 3)) (.slice (some ⟨w2.heap.size + 1, 0, none⟩) 4 4) 22
            simpa using this
          case c2 => intro u hu; simp at hu; subst hu; rfl
          case c3 => have := HK9.out; unfold maxLen; omega
          case c4 => have := HK9.out; omega
          case c5 => simp; omega
          intro v' w3 hown' hgrow _
          have HG := Lib.hid (W2.out.keep (below_al (below_al (Below.refl _ _) (.cells #[.int .i64 (N (a * Y + c) 0), .int .i64 (N (a * Y + c) 1), .int .i64 (N (a * Y + c) 2), .int .i64 (N (a * Y + c) 3)] 70)) (.cells #[.int .i64 (N (a * Y + c) 0), .int .i64 (N (a * Y + c) 1), .int .i64 (N (a * Y + c) 2), .int .i64 (N (a * Y + c) 3)] 3)))
          have HGR := Lib.hid (HG.out.keep (below_al (Below.refl _ _) (.cells #[.slice (some ⟨w2.heap.size + 1, 0, none⟩) 4 4] 22)))
          have HRR := Lib.hid (HRI.out.alloc (.cells #[.slice (some ⟨w2.heap.size + 1, 0, none⟩) 4 4] 22))
          have HFR : Hid (∀ (r g' : Nat), vals[r]? = some (Value.slice (some ⟨g', 0, none⟩) 4 4) → g' ≠ w2.heap.size + 1) := Lib.hid (fun r g' hu => by
            obtain ⟨g, e, _, hr⟩ := W2.out.row r _ hu
            injection e with e; injection e with e; injection e with e
            have := hr.lt; omega)
          obtain ⟨f1, f2⟩ := HGR.out.field hgrow
          have W4 := Lib.hid (HGR.out.grow HRR.out (by omega) HFR.out hown' hgrow)
          obtain ⟨va, vl, vc, rfl⟩ := make.shape hown'
          clear hown' hgrow W2 HG HGR HRR HFR HRI hcp hm4 c0 c1 c2 c3 c4 c3' c5
          go_wp2_with fail
          go_roundw
          case rel => exact ⟨c + 1, by omega, by go_num, _, _, W4⟩
          case measure => simp [intOf]; omega
        · have hkc : ¬ (c : Int) < (Y : Int) := by omega
          obtain rfl : c = Y := by omega
          go_wp2_with fail
          go_roundw
          case rel => exact ⟨a + 1, by omega, by go_num, v, vals, by rw [Nat.add_mul, Nat.one_mul]; exact hW⟩
          case measure => simp [intOf]; omega
    · have hkz : ¬ (a : Int) < (X : Int) := by omega
      obtain rfl : a = X := by omega
      obtain ⟨va, vl, vc, rfl⟩ := make.shape hW.out.owns
      obtain ⟨c0, c1, c2, c3, c4⟩ := four_cells hW.out.blk
      obtain ⟨r0, r1, r2, r3, r4⟩ := four_cells hW.out.res
      have rf : ∀ k, wo.frozen? ⟨w.heap.size, k, none⟩ = false := fun k => Joins.unfrozen_of_block hW.out.res k
      have HD := Lib.hid hW.out.done
      have HB := Lib.hid hW.out.below
      have HRS := Lib.hid hW.out.res
      clear hW
      go_wp2_with fail
      refine bodyPost_ret (v := .agg #[.int .i64 (a : Int), .int .i64 (Y : Int), .int .i64 wh, .slice va vl vc]) (by simp [results, Try.results61, go_sem, r0, r1, r2, r3]) rfl ⟨_, rfl, ?_, ?_⟩
      · refine (HD.out.wrote (S := fun p => p.block < w.heap.size + 1) ?_ (fun p hp => .inl hp)).mono (by omega) (by simp [World.setCell])
        repeat (first | exact Wrote.refl _ _ | refine Wrote.setCell ?_ (by simp) _)
      · repeat (refine Below.setCell ?_ (by simp <;> omega) _)
        exact HB.out

set_option maxHeartbeats 2000000 in
theorem clo (p0 p1 : Nat) (X Y : Nat) (wh kk : Int) (v : Value) (xss : List (List Int)) (a c : Nat) (w : World) (h0 : Blk w p0 33 #[.int .i64 (X : Int), .int .i64 (Y : Int), .int .i64 wh, v]) (h1 : w.cell? ⟨p1, 0, none⟩ = some (.int .i64 kk))
    (hv : IRows w v xss) (hok : okBox X Y wh xss) (k0 : 1 ≤ kk) (k1 : kk ≤ 1000) (ha : a < X) (hc : c < Y) :
    Calls Try.prog 89 #[.int .i64 (a : Int), .int .i64 (c : Int), .pointer (some ⟨p0, 0, none⟩), .pointer (some ⟨p1, 0, none⟩)] w fun e w' =>
      e = .returned (.agg #[.int .i64 (N xss kk (a * Y + c) 0), .int .i64 (N xss kk (a * Y + c) 1), .int .i64 (N xss kk (a * Y + c) 2), .int .i64 (N xss kk (a * Y + c) 3)]) ∧ Below w.heap.size w w' := by
  unfold N
  have HRW := Lib.hid (fun (W : World) (hb : Below w.heap.size w W) => row.rowof X Y wh a c v xss W (hv.below hb) hok (by omega) (by omega) (by omega) (by omega))
  have hr := at_lt (i := a) (j := c) hok (by omega) (by omega) (by omega) (by omega)
  have b0 := nn_bd hok hr (k := 0) (by omega)
  have b1 := nn_bd hok hr (k := 1) (by omega)
  have b2 := nn_bd hok hr (k := 2) (by omega)
  have b3 := nn_bd hok hr (k := 3) (by omega)
  rw [at_nat] at *
  obtain ⟨va, vl, vc, rfl⟩ := hv.shape
  have HRW' := HRW.out
  generalize nn xss (a * Y + c) 0 = n0 at *
  generalize nn xss (a * Y + c) 1 = n1 at *
  generalize nn xss (a * Y + c) 2 = n2 at *
  generalize nn xss (a * Y + c) 3 = n3 at *
  have w0 := quo_w b0.1 b0.2 k0
  have w1' := quo_w b1.1 b1.2 k0
  have w2' := quo_w b2.1 b2.2 k0
  have w3' := quo_w b3.1 b3.2 k0
  have H1 := Lib.hid HRW'
  have B0 := Lib.hid (below_al (Below.refl w.heap.size w) (.cells #[.int .i64 0, .int .i64 0, .int .i64 0, .int .i64 0] 70))
  have R0 := Lib.hid (Blk.new w 70 #[.int .i64 0, .int .i64 0, .int .i64 0, .int .i64 0])
  have h0' := h0.below B0.out
  obtain ⟨c0, c1, c2, c3, c4⟩ := four_cells h0'
  clear HRW HRW' hr hok hv b0 b1 b2 b3 h0 h0'
  go_enter Try.func89, Try.ntmps89
  go_wp2_with fail
  refine (H1.out _ B0.out).mono ?_
  rintro e w1 ⟨rfl, hb⟩
  have B1 := Lib.hid (below_tr B0.out hb)
  have R1 := Lib.hid (R0.out.below hb)
  obtain ⟨g, hg⟩ : ∃ g, w1.heap.size = g := ⟨_, rfl⟩
  have hgz : w.heap.size < g := by have := hb.size; simp at this; omega
  clear hb c0 c1 c2 c3 c4 H1 B0 R0
  go_wp2_with fail
  have HS0 : Hid (Blk (w1.alloc (.cells #[.int .i64 n0, .int .i64 n1, .int .i64 n2, .int .i64 n3] 70)) g 70 (st n0 n1 n2 n3 kk 0) ∧ Blk (w1.alloc (.cells #[.int .i64 n0, .int .i64 n1, .int .i64 n2, .int .i64 n3] 70)) w.heap.size 70 #[.int .i64 0, .int .i64 0, .int .i64 0, .int .i64 0] ∧ Below w.heap.size w (w1.alloc (.cells #[.int .i64 n0, .int .i64 n1, .int .i64 n2, .int .i64 n3] 70))) := Lib.hid ⟨by rw [← hg]; exact Blk.new _ _ _, R1.out.alloc _, below_al B1.out _⟩
  clear hg
  go_loopw [13] (fun i wr => ∃ j : Nat, j ≤ 4 ∧ i = .int .i64 j ∧ Hid (Blk wr g 70 (st n0 n1 n2 n3 kk j) ∧ Blk wr w.heap.size 70 #[.int .i64 0, .int .i64 0, .int .i64 0, .int .i64 0] ∧ Below w.heap.size w wr)) (fun i _ => 4 - (intOf i).toNat)
  case atStart => exact ⟨0, Nat.zero_le _, rfl, HS0⟩
  case round =>
    obtain ⟨j, hj, rfl, hS⟩ := hrel
    clear HS0
    obtain rfl | rfl | rfl | rfl | rfl : j = 0 ∨ j = 1 ∨ j = 2 ∨ j = 3 ∨ j = 4 := by omega
    · have hB : Blk wr g 70 #[.int .i64 n0, .int .i64 n1, .int .i64 n2, .int .i64 n3] := by simpa [st] using hS.out.1
      obtain ⟨c0, c1, c2, c3, c4⟩ := four_cells hB
      have rf : ∀ k, wr.frozen? ⟨g, k, none⟩ = false := fun k => Joins.unfrozen_of_block hB k
      have hkc := below_cell hS.out.2.2 _ _ h1
      go_wp2_with fail
      go_region
      go_wp2_with fail
      go_roundw
      case rel =>
        refine ⟨1, by omega, by go_num, Lib.hid ⟨?_, ?_, ?_⟩⟩
        · have hB2 : Blk (wr.setCell ⟨g, 0, none⟩ (.int .i64 (n0 / kk))) g 70 (st n0 n1 n2 n3 kk 1) := by
            have := Joins.block_setCell (i := 0) hB (.int .i64 (n0 / kk))
            unfold Blk
            simpa [st] using this
          exact hB2.below (below_dr (Below.refl _ _))
        · exact hS.out.2.1.wrote (Wrote.drew (Wrote.setCell (S := fun p => p.block = g) (Wrote.refl _ _) rfl _)) (fun p hp => by rw [hp]; omega)
        · exact below_dr (Below.setCell hS.out.2.2 (by show w.heap.size ≤ g; omega) _)
      case measure => simp [intOf]
    · have hB : Blk wr g 70 #[.int .i64 (n0 / kk), .int .i64 n1, .int .i64 n2, .int .i64 n3] := by simpa [st] using hS.out.1
      obtain ⟨c0, c1, c2, c3, c4⟩ := four_cells hB
      have rf : ∀ k, wr.frozen? ⟨g, k, none⟩ = false := fun k => Joins.unfrozen_of_block hB k
      have hkc := below_cell hS.out.2.2 _ _ h1
      go_wp2_with fail
      go_region
      go_wp2_with fail
      go_roundw
      case rel =>
        refine ⟨2, by omega, by go_num, Lib.hid ⟨?_, ?_, ?_⟩⟩
        · have hB2 : Blk (wr.setCell ⟨g, 1, none⟩ (.int .i64 (n1 / kk))) g 70 (st n0 n1 n2 n3 kk 2) := by
            have := Joins.block_setCell (i := 1) hB (.int .i64 (n1 / kk))
            unfold Blk
            simpa [st] using this
          exact hB2.below (below_dr (Below.refl _ _))
        · exact hS.out.2.1.wrote (Wrote.drew (Wrote.setCell (S := fun p => p.block = g) (Wrote.refl _ _) rfl _)) (fun p hp => by rw [hp]; omega)
        · exact below_dr (Below.setCell hS.out.2.2 (by show w.heap.size ≤ g; omega) _)
      case measure => simp [intOf]
    · have hB : Blk wr g 70 #[.int .i64 (n0 / kk), .int .i64 (n1 / kk), .int .i64 n2, .int .i64 n3] := by simpa [st] using hS.out.1
      obtain ⟨c0, c1, c2, c3, c4⟩ := four_cells hB
      have rf : ∀ k, wr.frozen? ⟨g, k, none⟩ = false := fun k => Joins.unfrozen_of_block hB k
      have hkc := below_cell hS.out.2.2 _ _ h1
      go_wp2_with fail
      go_region
      go_wp2_with fail
      go_roundw
      case rel =>
        refine ⟨3, by omega, by go_num, Lib.hid ⟨?_, ?_, ?_⟩⟩
        · have hB2 : Blk (wr.setCell ⟨g, 2, none⟩ (.int .i64 (n2 / kk))) g 70 (st n0 n1 n2 n3 kk 3) := by
            have := Joins.block_setCell (i := 2) hB (.int .i64 (n2 / kk))
            unfold Blk
            simpa [st] using this
          exact hB2.below (below_dr (Below.refl _ _))
        · exact hS.out.2.1.wrote (Wrote.drew (Wrote.setCell (S := fun p => p.block = g) (Wrote.refl _ _) rfl _)) (fun p hp => by rw [hp]; omega)
        · exact below_dr (Below.setCell hS.out.2.2 (by show w.heap.size ≤ g; omega) _)
      case measure => simp [intOf]
    · have hB : Blk wr g 70 #[.int .i64 (n0 / kk), .int .i64 (n1 / kk), .int .i64 (n2 / kk), .int .i64 n3] := by simpa [st] using hS.out.1
      obtain ⟨c0, c1, c2, c3, c4⟩ := four_cells hB
      have rf : ∀ k, wr.frozen? ⟨g, k, none⟩ = false := fun k => Joins.unfrozen_of_block hB k
      have hkc := below_cell hS.out.2.2 _ _ h1
      go_wp2_with fail
      go_region
      go_wp2_with fail
      go_roundw
      case rel =>
        refine ⟨4, by omega, by go_num, Lib.hid ⟨?_, ?_, ?_⟩⟩
        · have hB2 : Blk (wr.setCell ⟨g, 3, none⟩ (.int .i64 (n3 / kk))) g 70 (st n0 n1 n2 n3 kk 4) := by
            have := Joins.block_setCell (i := 3) hB (.int .i64 (n3 / kk))
            unfold Blk
            simpa [st] using this
          exact hB2.below (below_dr (Below.refl _ _))
        · exact hS.out.2.1.wrote (Wrote.drew (Wrote.setCell (S := fun p => p.block = g) (Wrote.refl _ _) rfl _)) (fun p hp => by rw [hp]; omega)
        · exact below_dr (Below.setCell hS.out.2.2 (by show w.heap.size ≤ g; omega) _)
      case measure => simp [intOf]
    · have hB : Blk wr g 70 #[.int .i64 (n0 / kk), .int .i64 (n1 / kk), .int .i64 (n2 / kk), .int .i64 (n3 / kk)] := by simpa [st] using hS.out.1
      obtain ⟨c0, c1, c2, c3, c4⟩ := four_cells hB
      obtain ⟨r0, r1, r2, r3, r4⟩ := four_cells hS.out.2.1
      have rf : ∀ k, wr.frozen? ⟨w.heap.size, k, none⟩ = false := fun k => Joins.unfrozen_of_block hS.out.2.1 k
      have HB := Lib.hid hS.out.2.2
      clear hS
      go_wp2_with fail
      refine bodyPost_ret (v := .agg #[.int .i64 (n0 / kk), .int .i64 (n1 / kk), .int .i64 (n2 / kk), .int .i64 (n3 / kk)]) (by simp [results, Try.results89, go_sem, r0, r1, r2, r3]) rfl ⟨rfl, ?_⟩
      repeat (refine Below.setCell ?_ (by simp <;> omega) _)
      exact HB.out

end Go.Proofs.Ytknpcajignhifaa.red
