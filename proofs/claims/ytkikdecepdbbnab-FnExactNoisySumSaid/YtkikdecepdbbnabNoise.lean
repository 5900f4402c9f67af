/- NoiseBox of the model and of the program. -/
import Derived.Test.YtkikdecepdbbnabMake
namespace Go.Proofs.Ytkikdecepdbbnab.noise
open Go.RowKit Go.Deep Go.Proofs.Ytkikdecepdbbnab.base
open Go.Proofs.Ytkikdecepdbbnab.ints (ret_int infoInt infoInts)
open Go.Proofs.Ytkikdecepdbbnab.rws (total)
open Go.Proofs.Ytkikdecepdbbnab.val (okSizes okBox)

set_option maxHeartbeats 4000000 in
theorem make_anyR (p0 : Nat) (X Y : Nat) (N : Nat → Nat → Int) (w : World) (hX : X ≤ 3) (hY : Y ≤ 3)
    (hrow : ∀ (i j : Nat) (W : World), i < X → j < Y → Below w.heap.size w W → Calls Try.prog 120 #[.int .i64 (i : Int), .int .i64 (j : Int), .pointer (some ⟨p0, 0, none⟩)] W fun e w' =>
      e = .returned (.agg #[.int .i64 (N (i * Y + j) 0), .int .i64 (N (i * Y + j) 1), .int .i64 (N (i * Y + j) 2), .int .i64 (N (i * Y + j) 3)]) ∧ Below W.heap.size W w') :
    Calls Try.prog 125 #[.int .i64 (X : Int), .int .i64 (Y : Int), .func (.func 120) #[] #[.pointer (some ⟨p0, 0, none⟩)]] w fun e w' => ∃ u, e = .returned u ∧
      OwnRows w' w.heap.size w'.heap.size u (make.rowsOf N (X * Y)) ∧ Below w.heap.size w w' := by
  obtain ⟨i0, hi, hz0, hz1, hz2⟩ := info_parts infoInts
  have h9 : X * Y ≤ 9 := Nat.mul_le_mul hX hY
  have hm : (X : Int) * (Y : Int) = ((X * Y : Nat) : Int) := by simp
  have hmk := app.mk0s (X * Y) (by omega)
  rw [← hm] at hmk
  have hw1 : IntKind.i64.wrap ((X : Int) * (Y : Int)) = (X : Int) * (Y : Int) := IntWalk.i64_in _ (by omega)
  have HM := Lib.hid hm
  have HR := Lib.hid hrow
  have P0 : Hid (pile.Pile w (w.alloc (.cells (madeCells #[.slice none 0 0] (X * Y)) 23)) w.heap.size (w.alloc (.cells (madeCells #[.slice none 0 0] (X * Y)) 23)).heap.size (.slice (some ⟨w.heap.size, 0, none⟩) 0 (X * Y)) [] (make.rowsOf N (0 * Y))) := Lib.hid (by
    rw [Nat.zero_mul]
    refine pile.start (below_al (Below.refl _ _) _) (Nat.le_refl _) ?_ (by simp)
    have := World.ownsRow_made (base := w.heap.size) (e := 23) (size := 1) w (madeCells #[.slice none 0 0] (X * Y)) (X * Y) (Nat.le_refl _) (by unfold maxLen; omega) (by simp [madeCells])
    simpa using this)
  clear hm hrow
  go_enter Try.func125, Try.ntmps125
  go_wp2_with fail
  clear hmk hw1
  go_loopw [7, 17] (fun v i wr => ∃ a : Nat, a ≤ X ∧ i = .int .i64 a ∧ ∃ vals, Hid (pile.Pile w wr w.heap.size wr.heap.size v vals (make.rowsOf N (a * Y)))) (fun _ i _ => X - (intOf i).toNat)
  case atStart => exact ⟨0, Nat.zero_le _, rfl, _, P0⟩
  case round =>
    obtain ⟨a, ha, rfl, vals, hP⟩ := hrel
    clear P0
    obtain ⟨wo, rfl⟩ : ∃ wo : World, wo = wr := ⟨_, rfl⟩
    by_cases hlt : a < X
    · have hkz : (a : Int) < (X : Int) := by omega
      go_wp2_with fail
      go_loopw [7, 21] (fun v j wi => ∃ c : Nat, c ≤ Y ∧ j = .int .i64 c ∧ ∃ vals, Hid (pile.Pile w wi w.heap.size wi.heap.size v vals (make.rowsOf N (a * Y + c)))) (fun _ j _ => Y - (intOf j).toNat)
      case atStart => exact ⟨0, Nat.zero_le _, rfl, _, hP⟩
      case round =>
        obtain ⟨c, hc, rfl, vals, hP⟩ := hrel
        obtain ⟨wi, rfl⟩ : ∃ wi : World, wi = wr := ⟨_, rfl⟩
        by_cases hlc : c < Y
        · have hkc : (c : Int) < (Y : Int) := by omega
          have HCA := Lib.hid (HR.out a c wi hlt hlc hP.out.below)
          have hk9 : a * Y + c < 9 := by
            have h1 : a * Y + c < (a + 1) * Y := by rw [Nat.add_mul]; omega
            have h2 : (a + 1) * Y ≤ X * Y := Nat.mul_le_mul_right _ (by omega)
            omega
          have HK9 := Lib.hid hk9
          have HLE := Lib.hid (make.len_rowsOf N (a * Y + c))
          clear hk9
          go_wp2_with fail
          refine HCA.out.mono ?_
          rintro e w2 ⟨rfl, hb⟩
          have W2 := Lib.hid (hP.out.keep hb)
          have hcp := row.copy4p (W := w2.alloc (.cells #[.int .i64 (N (a * Y + c) 0), .int .i64 (N (a * Y + c) 1), .int .i64 (N (a * Y + c) 2), .int .i64 (N (a * Y + c) 3)] 87)) (b := w2.heap.size) (o := 0) (cap := 4) (n := w2.heap.size + 1)
            (n0 := .int .i64 (N (a * Y + c) 0)) (n1 := .int .i64 (N (a * Y + c) 1)) (n2 := .int .i64 (N (a * Y + c) 2)) (n3 := .int .i64 (N (a * Y + c) 3)) #[.int .i64 0, .int .i64 0, .int .i64 0, .int .i64 0] 3 rfl (by simp)
            (by rw [Joins.cell_of_block (heap_alloc_new w2 _)]; rfl) (by rw [Joins.cell_of_block (heap_alloc_new w2 _)]; rfl) (by rw [Joins.cell_of_block (heap_alloc_new w2 _)]; rfl) (by rw [Joins.cell_of_block (heap_alloc_new w2 _)]; rfl) rfl rfl rfl rfl
          have hrowis : ((w2.alloc (.cells #[.int .i64 (N (a * Y + c) 0), .int .i64 (N (a * Y + c) 1), .int .i64 (N (a * Y + c) 2), .int .i64 (N (a * Y + c) 3)] 87)).alloc (.cells #[.int .i64 (N (a * Y + c) 0), .int .i64 (N (a * Y + c) 1), .int .i64 (N (a * Y + c) 2), .int .i64 (N (a * Y + c) 3)] 3)).rowIs (w2.heap.size + 1) 3 4 (fun j => .int .i64 ((make.quad N (a * Y + c)).getD j 0)) := by
            refine ⟨#[.int .i64 (N (a * Y + c) 0), .int .i64 (N (a * Y + c) 1), .int .i64 (N (a * Y + c) 2), .int .i64 (N (a * Y + c) 3)], by
              have := heap_alloc_new (w2.alloc (.cells #[.int .i64 (N (a * Y + c) 0), .int .i64 (N (a * Y + c) 1), .int .i64 (N (a * Y + c) 2), .int .i64 (N (a * Y + c) 3)] 87)) (.cells #[.int .i64 (N (a * Y + c) 0), .int .i64 (N (a * Y + c) 1), .int .i64 (N (a * Y + c) 2), .int .i64 (N (a * Y + c) 3)] 3)
              simpa using this, rfl, fun i hi => ?_⟩
            match i, hi with
            | 0, _ => rfl
            | 1, _ => rfl
            | 2, _ => rfl
            | 3, _ => rfl
          have HRI := Lib.hid (hrowis.alloc (.cells #[.slice (some ⟨w2.heap.size + 1, 0, none⟩) 4 4] 23))
          have P3 := Lib.hid (((W2.out.keep (below_al (Below.refl _ _) (.cells #[.int .i64 (N (a * Y + c) 0), .int .i64 (N (a * Y + c) 1), .int .i64 (N (a * Y + c) 2), .int .i64 (N (a * Y + c) 3)] 87))).keep (below_al (Below.refl _ _) (.cells #[.int .i64 (N (a * Y + c) 0), .int .i64 (N (a * Y + c) 1), .int .i64 (N (a * Y + c) 2), .int .i64 (N (a * Y + c) 3)] 3))).keep (below_al (Below.refl _ _) (.cells #[.slice (some ⟨w2.heap.size + 1, 0, none⟩) 4 4] 23)))
          have hm4 := make.mk4
          have hsz := hb.size
          have hsw := W2.out.below.size
          clear hb hP HCA hrowis W2
          go_wp2_with (at_builtin; go_must (refine wpList_append_own _ rfl (.tmp 32) (.tmp 34) 22 rfl w.heap.size 23 i0 (.slice none 0 0) 1 24 Try.underlying22 hi hz0 hz1 hz2 rfl (by decide) _ _ _ rfl P3.out.owns ⟨w2.heap.size + 1 + 1, 0, none⟩ 1 1 [.slice (some ⟨w2.heap.size + 1, 0, none⟩) 4 4] rfl rfl ?c1 ?c2 ?c3 ?c4 ?c5 ?_))
          case c1 =>
            have := app.one_at ((w2.alloc (.cells #[.int .i64 (N (a * Y + c) 0), .int .i64 (N (a * Y + c) 1), .int .i64 (N (a * Y + c) 2), .int .i64 (N (a * Y + c) 3)] 87)).alloc (.cells #[.int .i64 (N (a * Y + c) 0), .int .i64 (N (a * Y + c) 1), .int .i64 (N (a * Y + c) 2), .int .i64 (N (a * Y + c) 3)] 3)) (.slice (some ⟨w2.heap.size + 1, 0, none⟩) 4 4) 23
            simpa using this
          case c2 => intro u hu; simp at hu; subst hu; rfl
          case c3 => rw [HLE.out]; have := HK9.out; unfold maxLen; omega
          case c4 => rw [HLE.out]; have := HK9.out; omega
          case c5 => simp; omega
          intro v' w3 hown' hgrow _
          have P4 : Hid (pile.Pile w w3 w.heap.size w3.heap.size v' (vals ++ [.slice (some ⟨w2.heap.size + 1, 0, none⟩) 4 4]) (make.rowsOf N (a * Y + (c + 1)))) := Lib.hid (by
            have e : make.rowsOf N (a * Y + (c + 1)) = make.rowsOf N (a * Y + c) ++ [make.quad N (a * Y + c)] := by simp [make.rowsOf, ← Nat.add_assoc, List.range_succ]
            rw [e]
            refine P3.out.grow (m' := w2.heap.size + 1) (T := w2.heap.size + 1 + 1) (ints.own_of_row (xs := make.quad N (a * Y + c)) HRI.out (Nat.le_refl _) (by omega) (by simp [make.quad, maxLen])) (by omega) (by simp) (pile.typ_row HRI.out _ _) hown' hgrow)
          obtain ⟨va, vl, vc, rfl⟩ := make.shape hown'
          clear hown' hgrow P3 HRI hcp hm4
          go_wp2_with fail
          go_roundw
          case rel => exact ⟨c + 1, by omega, by go_num, _, P4⟩
          case measure => simp [intOf]; omega
        · have hkc : ¬ (c : Int) < (Y : Int) := by omega
          obtain rfl : c = Y := by omega
          go_wp2_with fail
          go_roundw
          case rel => exact ⟨a + 1, by omega, by go_num, vals, by rw [Nat.add_mul, Nat.one_mul]; exact hP⟩
          case measure => simp [intOf]; omega
    · have hkz : ¬ (a : Int) < (X : Int) := by omega
      obtain rfl : a = X := by omega
      obtain ⟨va, vl, vc, rfl⟩ := make.shape hP.out.owns
      go_wp2_with fail
      go_ret
      exact ⟨_, rfl, hP.out.rows, hP.out.below⟩

set_option maxHeartbeats 2000000 in
theorem make_any (p0 : Nat) (X Y : Nat) (wh : Int) (N : Nat → Nat → Int) (w : World) (hX : X ≤ 3) (hY : Y ≤ 3)
    (hrow : ∀ (i j : Nat) (W : World), i < X → j < Y → Below w.heap.size w W → Calls Try.prog 120 #[.int .i64 (i : Int), .int .i64 (j : Int), .pointer (some ⟨p0, 0, none⟩)] W fun e w' =>
      e = .returned (.agg #[.int .i64 (N (i * Y + j) 0), .int .i64 (N (i * Y + j) 1), .int .i64 (N (i * Y + j) 2), .int .i64 (N (i * Y + j) 3)]) ∧ Below W.heap.size W w') :
    Calls Try.prog 84 #[.int .i64 (X : Int), .int .i64 (Y : Int), .int .i64 wh, .func (.func 120) #[] #[.pointer (some ⟨p0, 0, none⟩)]] w fun e w' => ∃ u, e = .returned (.agg #[.int .i64 (X : Int), .int .i64 (Y : Int), .int .i64 wh, u]) ∧
      OwnRows w' w.heap.size w'.heap.size u (make.rowsOf N (X * Y)) ∧ Below w.heap.size w w' := by
  have HC : Hid (∀ W, Below w.heap.size w W → Calls Try.prog 125 #[.int .i64 (X : Int), .int .i64 (Y : Int), .func (.func 120) #[] #[.pointer (some ⟨p0, 0, none⟩)]] W fun e w' => ∃ u, e = .returned u ∧
      OwnRows w' W.heap.size w'.heap.size u (make.rowsOf N (X * Y)) ∧ Below W.heap.size W w') := Lib.hid (fun W hW => make_anyR p0 X Y N W hX hY (fun i j W' h1 h2 hb => hrow i j W' h1 h2 (below_tr hW hb)))
  clear hrow
  go_enter Try.func84, Try.ntmps84
  go_wp2_with fail
  refine (HC.out _ (below_al (Below.refl _ _) _)).mono ?_
  rintro e w1 ⟨u, rfl, hu, hb⟩
  obtain ⟨va, vl, vc, rfl⟩ := hu.rows.shape
  have HU := Lib.hid hu
  have HB := Lib.hid hb
  have HRS := Lib.hid ((Blk.new w 41 #[.int .i64 0, .int .i64 0, .int .i64 0, .slice none 0 0]).below hb)
  obtain ⟨r0, r1, r2, r3, r4⟩ := four_cells HRS.out
  have rf : ∀ k, w1.frozen? ⟨w.heap.size, k, none⟩ = false := fun k => Joins.unfrozen_of_block HRS.out k
  clear hu hb
  go_wp2_with fail
  refine bodyPost_ret (v := .agg #[.int .i64 (X : Int), .int .i64 (Y : Int), .int .i64 wh, .slice va vl vc]) (by simp [results, Try.results84, go_sem, r0, r1, r2, r3]) rfl ⟨_, rfl, ?_, ?_⟩
  · refine (HU.out.wrote (S := fun p => p.block < w.heap.size + 1) ?_ (fun p hp => .inl (by simpa using hp))).mono (by simp) (by simp [World.setCell])
    repeat (first | exact Wrote.refl _ _ | refine Wrote.setCell ?_ (by simp) _)
  · repeat (refine Below.setCell ?_ (by simp <;> omega) _)
    exact below_tr (below_al (Below.refl _ _) _) HB.out

theorem clo (p0 : Nat) (p i j : Int) (w : World) (hc : w.cell? ⟨p0, 0, none⟩ = some (.int .i64 p)) :
    Calls Try.prog 120 #[.int .i64 i, .int .i64 j, .pointer (some ⟨p0, 0, none⟩)] w fun e w' => e = .returned (.agg #[.int .i64 p, .int .i64 p, .int .i64 p, .int .i64 p]) ∧ Below w.heap.size w w' := by
  have hl : p0 < w.heap.size := World.block_lt_of_cell? _ _ hc
  go_enter Try.func120, Try.ntmps120
  go_wp2_with fail
  refine bodyPost_ret (v := .agg #[.int .i64 p, .int .i64 p, .int .i64 p, .int .i64 p]) (by simp [results, Try.results120, go_sem]) rfl ⟨rfl, ?_⟩
  repeat (first | exact Below.refl _ _ | refine below_dr ?_ | refine below_al ?_ _ | refine Below.setCell ?_ (by simp <;> omega) _)

def N (p : Int) : Nat → Nat → Int := fun _ _ => p
open Classical in
noncomputable def res (x y p : Int) : make.Res := if okSizes x y ∧ 1 ≤ p ∧ p ≤ 250 then ⟨x, y, 4 * p, make.rowsOf (N p) (x * y).toNat, true⟩ else make.Res.zero
theorem res_yes {x y p : Int} (h : okSizes x y ∧ 1 ≤ p ∧ p ≤ 250) : res x y p = ⟨x, y, 4 * p, make.rowsOf (N p) (x * y).toNat, true⟩ := if_pos h
theorem res_no {x y p : Int} (h : ¬ (okSizes x y ∧ 1 ≤ p ∧ p ≤ 250)) : res x y p = make.Res.zero := if_neg h
theorem tot (x y p : Int) : total (res x y p).rows ≤ 1048576 := by
  by_cases h : okSizes x y ∧ 1 ≤ p ∧ p ≤ 250
  · rw [res_yes h]; exact make.total_rowsOf _ _ (by have := val.mul_small h.1; omega)
  · rw [res_no h]; exact Nat.zero_le _

theorem box_ok {X Y : Nat} {p : Int} (h : okSizes X Y) (h1 : 1 ≤ p) (h2 : p ≤ 250) : okBox X Y (4 * p) (make.rowsOf (N p) (X * Y)) :=
  make.ok_rowsOf h (by omega) (fun r _ => make.okRow_quad (fun k _ => by unfold N; omega) (by unfold N; omega))
theorem box_bad {X Y : Nat} {p : Int} (h : 250 < p) : ¬ okBox X Y (4 * p) (make.rowsOf (N p) (X * Y)) := fun h' => by have := h'.2.1.2; omega

set_option maxHeartbeats 2000000 in
theorem impl_any (x y p : Int) (w : World) :
    Calls Try.prog 77 #[.int .i64 x, .int .i64 y, .int .i64 p] w fun e w' => ∃ u, e = .returned (.tuple #[.agg #[.int .i64 (res x y p).x, .int .i64 (res x y p).y, .int .i64 (res x y p).wh, u], .bool (res x y p).ok]) ∧ OwnRows w' w.heap.size w'.heap.size u (res x y p).rows ∧ Below w.heap.size w w' := by
  have B0 := Lib.hid (below_al (below_al (Below.refl w.heap.size w) (.cells #[.int .i64 p] 3)) (.cells #[.int .i64 0, .int .i64 0, .int .i64 0, .slice none 0 0] 41))
  have R0 : Hid (Blk ((w.alloc (.cells #[.int .i64 p] 3)).alloc (.cells #[.int .i64 0, .int .i64 0, .int .i64 0, .slice none 0 0] 41)) (w.heap.size + 1) 41 #[.int .i64 0, .int .i64 0, .int .i64 0, .slice none 0 0]) := Lib.hid (by
    have := Blk.new (w.alloc (.cells #[.int .i64 p] 3)) 41 #[.int .i64 0, .int .i64 0, .int .i64 0, .slice none 0 0]
    simpa using this)
  have P0 : Hid (((w.alloc (.cells #[.int .i64 p] 3)).alloc (.cells #[.int .i64 0, .int .i64 0, .int .i64 0, .slice none 0 0] 41)).cell? ⟨w.heap.size, 0, none⟩ = some (.int .i64 p)) := Lib.hid (by
    have := (Blk.new w 3 #[.int .i64 p]).alloc (.cells #[.int .i64 0, .int .i64 0, .int .i64 0, .slice none 0 0] 41)
    exact cell_of_one this)
  by_cases hs : okSizes x y
  · obtain ⟨X, rfl⟩ : ∃ X : Nat, x = X := ⟨x.toNat, by have := hs.1.1; omega⟩
    obtain ⟨Y, rfl⟩ : ∃ Y : Nat, y = Y := ⟨y.toNat, by have := hs.2.1; omega⟩
    have hX := hs.1.2
    have hY := hs.2.2
    have HS := Lib.hid hs
    by_cases h1 : 1 ≤ p
    · have d1 : decide (p < 1) = false := by simp; omega
      by_cases h2 : p ≤ 1000
      · have d2 : decide (1000 < p) = false := by simp; omega
        have hmk := make_any (w.heap.size) X Y (4 * p) (N p) _ (by omega) (by omega) (fun i j W _ _ hb => clo w.heap.size p i j W (below_cell hb _ _ P0.out))
        have HMK := Lib.hid hmk
        have h9 : X * Y ≤ 9 := Nat.mul_le_mul (by omega : X ≤ 3) (by omega : Y ≤ 3)
        have HT := Lib.hid (make.total_rowsOf (N p) (X * Y) h9)
        clear hmk hs h9
        go_enter Try.func77, Try.ntmps77
        go_wp2_with fail
        refine (val.isizes_yes _ _ _ HS.out).mono ?_
        rintro e w' ⟨rfl, rfl⟩
        go_wp2_with fail
        refine HMK.out.mono ?_
        rintro e w1 ⟨u, rfl, hu, hb⟩
        have B1 := Lib.hid (below_tr B0.out hb)
        have R1 := Lib.hid (R0.out.below hb)
        have U1 := Lib.hid (hu.mono (B' := w.heap.size + 1 + 1) (by simp) (Nat.le_refl _))
        obtain ⟨ua, ul, uc, rfl⟩ := hu.rows.shape
        have hz := R1.out.lt
        clear hu hb HMK R0 P0 B0
        go_wp2_with fail
        by_cases h3 : p ≤ 250
        · have hv := make.valid_yes X Y (4 * p) _ _ w1 U1.out.rows HT.out (box_ok HS.out h1 h3)
          have HV := Lib.hid hv
          have HE := Lib.hid (res_yes (p := p) ⟨HS.out, h1, h3⟩)
          clear hv
          refine HV.out.mono ?_
          rintro e w2 ⟨rfl, hb⟩
          have B2 := Lib.hid (below_tr B1.out hb)
          have R2 := Lib.hid (R1.out.below hb)
          have U2 := Lib.hid (U1.out.keep hb)
          have hz1 := Lib.hid (R1.out.lt)
          have hz2 := Lib.hid hb.size
          obtain ⟨r0, r1, r2, r3, r4⟩ := four_cells R2.out
          have rf : ∀ k, w2.frozen? ⟨w.heap.size + 1, k, none⟩ = false := fun k => Joins.unfrozen_of_block R2.out k
          clear hb B1 R1 U1 HV
          go_wp2_with fail
          refine bodyPost_ret (v := .tuple #[.agg #[.int .i64 (X : Int), .int .i64 (Y : Int), .int .i64 (4 * p), .slice ua ul uc], .bool true]) (by simp [results, Try.results77, go_sem, r0, r1, r2, r3]) rfl ?_
          rw [HE.out]
          refine ⟨_, rfl, ?_, ?_⟩
          · rw [show ((X : Int) * (Y : Int)).toNat = X * Y from by rw [← Int.natCast_mul, Int.toNat_natCast]]
            refine (U2.out.wrote (S := fun p => p.block < w.heap.size + 1 + 1) ?_ (fun p hp => .inl hp)).mono (by omega) (by have := hz2.out; simpa [World.setCell] using this)
            repeat (first | exact Wrote.refl _ _ | refine Wrote.setCell ?_ (by simp) _)
          · repeat (refine Below.setCell ?_ (by simp <;> omega) _)
            exact B2.out
        · have hv := make.valid_no X Y (4 * p) _ _ w1 U1.out.rows HT.out (box_bad (by omega))
          have HV := Lib.hid hv
          have HE := Lib.hid (res_no (x := X) (y := Y) (p := p) (fun h => by omega))
          clear hv
          refine HV.out.mono ?_
          rintro e w2 ⟨rfl, hb⟩
          have B2 := Lib.hid (below_tr B1.out hb)
          have R2 := Lib.hid (R1.out.below hb)
          obtain ⟨r0, r1, r2, r3, r4⟩ := four_cells R2.out
          have rf : ∀ k, w2.frozen? ⟨w.heap.size + 1, k, none⟩ = false := fun k => Joins.unfrozen_of_block R2.out k
          clear hb B1 R1 U1 HV
          go_wp2_with fail
          refine bodyPost_ret (v := .tuple #[.agg #[.int .i64 0, .int .i64 0, .int .i64 0, .slice none 0 0], .bool false]) (by simp [results, Try.results77, go_sem, r0, r1, r2, r3]) rfl ?_
          rw [HE.out]
          refine ⟨_, rfl, OwnRows.nil _ _ _, ?_⟩
          repeat (refine Below.setCell ?_ (by simp <;> omega) _)
          exact B2.out
      · have d2 : decide (1000 < p) = true := by simp; omega
        have HE := Lib.hid (res_no (x := X) (y := Y) (p := p) (fun h => by omega))
        clear hs R0 P0
        go_enter Try.func77, Try.ntmps77
        go_wp2_with fail
        refine (val.isizes_yes _ _ _ HS.out).mono ?_
        rintro e w' ⟨rfl, rfl⟩
        go_wp2_with fail
        refine bodyPost_ret (v := .tuple #[.agg #[.int .i64 0, .int .i64 0, .int .i64 0, .slice none 0 0], .bool false]) (by simp [results, Try.results77, go_sem]) rfl ?_
        rw [HE.out]
        refine ⟨_, rfl, OwnRows.nil _ _ _, ?_⟩
        repeat (first | exact B0.out | refine Below.setCell ?_ (by simp <;> omega) _)
    · have d1 : decide (p < 1) = true := by simp; omega
      have HE := Lib.hid (res_no (x := X) (y := Y) (p := p) (fun h => by omega))
      clear hs R0 P0
      go_enter Try.func77, Try.ntmps77
      go_wp2_with fail
      refine (val.isizes_yes _ _ _ HS.out).mono ?_
      rintro e w' ⟨rfl, rfl⟩
      go_wp2_with fail
      refine bodyPost_ret (v := .tuple #[.agg #[.int .i64 0, .int .i64 0, .int .i64 0, .slice none 0 0], .bool false]) (by simp [results, Try.results77, go_sem]) rfl ?_
      rw [HE.out]
      refine ⟨_, rfl, OwnRows.nil _ _ _, ?_⟩
      repeat (first | exact B0.out | refine Below.setCell ?_ (by simp <;> omega) _)
  · have HE := Lib.hid (res_no (p := p) (fun h => hs h.1))
    have HS := Lib.hid hs
    clear hs R0 P0
    go_enter Try.func77, Try.ntmps77
    go_wp2_with fail
    refine (val.isizes_no _ _ _ HS.out).mono ?_
    rintro e w' ⟨rfl, rfl⟩
    go_wp2_with fail
    refine bodyPost_ret (v := .tuple #[.agg #[.int .i64 0, .int .i64 0, .int .i64 0, .slice none 0 0], .bool false]) (by simp [results, Try.results77, go_sem]) rfl ?_
    rw [HE.out]
    refine ⟨_, rfl, OwnRows.nil _ _ _, ?_⟩
    repeat (first | exact B0.out | refine Below.setCell ?_ (by simp <;> omega) _)

/-! ### the model -/


end Go.Proofs.Ytkikdecepdbbnab.noise
