/- MixBoxes of the program: the whole. -/
import Derived.Test.YtiigfhigmdjooaaMixa
namespace Go.Proofs.Ytiigfhigmdjooaa.mix
open Go.RowKit Go.Deep Go.Proofs.Ytiigfhigmdjooaa.base
open Go.Proofs.Ytiigfhigmdjooaa.ints (ret_int infoInt infoInts)
open Go.Proofs.Ytiigfhigmdjooaa.rws (total)
open Go.Proofs.Ytiigfhigmdjooaa.val (okSizes okBox boxB boxB_yes boxB_no)
open Go.Proofs.Ytiigfhigmdjooaa.row (nn nn_bd at_ at_lt)
open Go.Proofs.Ytiigfhigmdjooaa.alike (same sameB sameB_yes sameB_no)

set_option maxHeartbeats 4000000 in
theorem make_anyR (p0 p1 : Nat) (X Y : Nat) (N : Nat → Nat → Int) (w : World) (hX : X ≤ 3) (hY : Y ≤ 3)
    (hrow : ∀ (i j : Nat) (W : World), i < X → j < Y → Below w.heap.size w W → Calls Try.prog 147 #[.int .i64 (i : Int), .int .i64 (j : Int), .pointer (some ⟨p0, 0, none⟩), .pointer (some ⟨p1, 0, none⟩)] W fun e w' =>
      e = .returned (.agg #[.int .i64 (N (i * Y + j) 0), .int .i64 (N (i * Y + j) 1), .int .i64 (N (i * Y + j) 2), .int .i64 (N (i * Y + j) 3)]) ∧ Below W.heap.size W w') :
    Calls Try.prog 162 #[.int .i64 (X : Int), .int .i64 (Y : Int), .func (.func 147) #[] #[.pointer (some ⟨p0, 0, none⟩), .pointer (some ⟨p1, 0, none⟩)]] w fun e w' => ∃ u, e = .returned u ∧
      OwnRows w' w.heap.size w'.heap.size u (make.rowsOf N (X * Y)) ∧ Below w.heap.size w w' := by
  obtain ⟨i0, hi, hz0, hz1, hz2⟩ := info_parts infoInts
  have h9 : X * Y ≤ 9 := Nat.mul_le_mul hX hY
  have hm : (X : Int) * (Y : Int) = ((X * Y : Nat) : Int) := by simp
  have hmk := app.mk0s (X * Y) (by omega)
  rw [← hm] at hmk
  have hw1 : IntKind.i64.wrap ((X : Int) * (Y : Int)) = (X : Int) * (Y : Int) := IntWalk.i64_in _ (by omega)
  have HM := Lib.hid hm
  have HR := Lib.hid hrow
  have P0 : Hid (pile.Pile w (w.alloc (.cells (madeCells #[.slice none 0 0] (X * Y)) 39)) w.heap.size (w.alloc (.cells (madeCells #[.slice none 0 0] (X * Y)) 39)).heap.size (.slice (some ⟨w.heap.size, 0, none⟩) 0 (X * Y)) [] (make.rowsOf N (0 * Y))) := Lib.hid (by
    rw [Nat.zero_mul]
    refine pile.start (below_al (Below.refl _ _) _) (Nat.le_refl _) ?_ (by simp)
    have := World.ownsRow_made (base := w.heap.size) (e := 39) (size := 1) w (madeCells #[.slice none 0 0] (X * Y)) (X * Y) (Nat.le_refl _) (by unfold maxLen; omega) (by simp [madeCells])
    simpa using this)
  clear hm hrow
  go_enter Try.func162, Try.ntmps162
  go_wp2_with fail
  clear hmk hw1
  go_loopw [7, 17] (fun v i wr => ∃ a : Nat, a ≤ X ∧ i = .int .i64 a ∧ ∃ vals, Hid (pile.Pile w wr w.heap.size wr.heap.size v vals (make.rowsOf N (a * Y)))) (fun _ i _ => X - (intOf i).toNat)
  case atStart => exact ⟨0, Nat.zero_le _, rfl, _, P0⟩
  case round =>
    obtain ⟨a, ha, rfl, vals, hP⟩ := hrel
    clear P0
    obtain ⟨wo, rfl⟩ : ∃ wo : World, wo = wr := ⟨_, rfl⟩
    by_cases hlt : a < X
    · have hkz : (a : Int) < (X : Int) := by omega
      go_wp2_with fail
      go_loopw [7, 21] (fun v j wi => ∃ c : Nat, c ≤ Y ∧ j = .int .i64 c ∧ ∃ vals, Hid (pile.Pile w wi w.heap.size wi.heap.size v vals (make.rowsOf N (a * Y + c)))) (fun _ j _ => Y - (intOf j).toNat)
      case atStart => exact ⟨0, Nat.zero_le _, rfl, _, hP⟩
      case round =>
        obtain ⟨c, hc, rfl, vals, hP⟩ := hrel
        obtain ⟨wi, rfl⟩ : ∃ wi : World, wi = wr := ⟨_, rfl⟩
        by_cases hlc : c < Y
        · have hkc : (c : Int) < (Y : Int) := by omega
          have HCA := Lib.hid (HR.out a c wi hlt hlc hP.out.below)
          have hk9 : a * Y + c < 9 := by
            have h1 : a * Y + c < (a + 1) * Y := by rw [Nat.add_mul]; omega
            have h2 : (a + 1) * Y ≤ X * Y := Nat.mul_le_mul_right _ (by omega)
            omega
          have HK9 := Lib.hid hk9
          have HLE := Lib.hid (make.len_rowsOf N (a * Y + c))
          clear hk9
          go_wp2_with fail
          refine HCA.out.mono ?_
          rintro e w2 ⟨rfl, hb⟩
          have W2 := Lib.hid (hP.out.keep hb)
          have hcp := row.copy4p (W := w2.alloc (.cells #[.int .i64 (N (a * Y + c) 0), .int .i64 (N (a * Y + c) 1), .int .i64 (N (a * Y + c) 2), .int .i64 (N (a * Y + c) 3)] 152)) (b := w2.heap.size) (o := 0) (cap := 4) (n := w2.heap.size + 1)
            (n0 := .int .i64 (N (a * Y + c) 0)) (n1 := .int .i64 (N (a * Y + c) 1)) (n2 := .int .i64 (N (a * Y + c) 2)) (n3 := .int .i64 (N (a * Y + c) 3)) #[.int .i64 0, .int .i64 0, .int .i64 0, .int .i64 0] 3 rfl (by simp)
            (by rw [Joins.cell_of_block (heap_alloc_new w2 _)]; rfl) (by rw [Joins.cell_of_block (heap_alloc_new w2 _)]; rfl) (by rw [Joins.cell_of_block (heap_alloc_new w2 _)]; rfl) (by rw [Joins.cell_of_block (heap_alloc_new w2 _)]; rfl) rfl rfl rfl rfl
          have hrowis : ((w2.alloc (.cells #[.int .i64 (N (a * Y + c) 0), .int .i64 (N (a * Y + c) 1), .int .i64 (N (a * Y + c) 2), .int .i64 (N (a * Y + c) 3)] 152)).alloc (.cells #[.int .i64 (N (a * Y + c) 0), .int .i64 (N (a * Y + c) 1), .int .i64 (N (a * Y + c) 2), .int .i64 (N (a * Y + c) 3)] 3)).rowIs (w2.heap.size + 1) 3 4 (fun j => .int .i64 ((make.quad N (a * Y + c)).getD j 0)) := by
            refine ⟨#[.int .i64 (N (a * Y + c) 0), .int .i64 (N (a * Y + c) 1), .int .i64 (N (a * Y + c) 2), .int .i64 (N (a * Y + c) 3)], by
              have := heap_alloc_new (w2.alloc (.cells #[.int .i64 (N (a * Y + c) 0), .int .i64 (N (a * Y + c) 1), .int .i64 (N (a * Y + c) 2), .int .i64 (N (a * Y + c) 3)] 152)) (.cells #[.int .i64 (N (a * Y + c) 0), .int .i64 (N (a * Y + c) 1), .int .i64 (N (a * Y + c) 2), .int .i64 (N (a * Y + c) 3)] 3)
              simpa using this, rfl, fun i hi => ?_⟩
            match i, hi with
            | 0, _ => rfl
            | 1, _ => rfl
            | 2, _ => rfl
            | 3, _ => rfl
          have HRI := Lib.hid (hrowis.alloc (.cells #[.slice (some ⟨w2.heap.size + 1, 0, none⟩) 4 4] 39))
          have P3 := Lib.hid (((W2.out.keep (below_al (Below.refl _ _) (.cells #[.int .i64 (N (a * Y + c) 0), .int .i64 (N (a * Y + c) 1), .int .i64 (N (a * Y + c) 2), .int .i64 (N (a * Y + c) 3)] 152))).keep (below_al (Below.refl _ _) (.cells #[.int .i64 (N (a * Y + c) 0), .int .i64 (N (a * Y + c) 1), .int .i64 (N (a * Y + c) 2), .int .i64 (N (a * Y + c) 3)] 3))).keep (below_al (Below.refl _ _) (.cells #[.slice (some ⟨w2.heap.size + 1, 0, none⟩) 4 4] 39)))
          have hm4 := make.mk4
          have hsz := hb.size
          have hsw := W2.out.below.size
          clear hb hP HCA hrowis W2
          go_wp2_with (at_builtin; go_must (refine wpList_append_own _ rfl (.tmp 32) (.tmp 34) 22 rfl w.heap.size 39 i0 (.slice none 0 0) 1 24 Try.underlying22 hi hz0 hz1 hz2 rfl (by decide) _ _ _ rfl P3.out.owns ⟨w2.heap.size + 1 + 1, 0, none⟩ 1 1 [.slice (some ⟨w2.heap.size + 1, 0, none⟩) 4 4] rfl rfl ?c1 ?c2 ?c3 ?c4 ?c5 ?_))
          case c1 =>
            have := app.one_at ((w2.alloc (.cells #[.int .i64 (N (a * Y + c) 0), .int .i64 (N (a * Y + c) 1), .int .i64 (N (a * Y + c) 2), .int .i64 (N (a * Y + c) 3)] 152)).alloc (.cells #[.int .i64 (N (a * Y + c) 0), .int .i64 (N (a * Y + c) 1), .int .i64 (N (a * Y + c) 2), .int .i64 (N (a * Y + c) 3)] 3)) (.slice (some ⟨w2.heap.size + 1, 0, none⟩) 4 4) 39
            simpa using this
          case c2 => intro u hu; simp at hu; subst hu; rfl
          case c3 => rw [HLE.out]; have := HK9.out; unfold maxLen; omega
          case c4 => rw [HLE.out]; have := HK9.out; omega
          case c5 => simp; omega
          intro v' w3 hown' hgrow _
          have P4 : Hid (pile.Pile w w3 w.heap.size w3.heap.size v' (vals ++ [.slice (some ⟨w2.heap.size + 1, 0, none⟩) 4 4]) (make.rowsOf N (a * Y + (c + 1)))) := Lib.hid (by
            have e : make.rowsOf N (a * Y + (c + 1)) = make.rowsOf N (a * Y + c) ++ [make.quad N (a * Y + c)] := by simp [make.rowsOf, ← Nat.add_assoc, List.range_succ]
            rw [e]
            refine P3.out.grow (m' := w2.heap.size + 1) (T := w2.heap.size + 1 + 1) (ints.own_of_row (xs := make.quad N (a * Y + c)) HRI.out (Nat.le_refl _) (by omega) (by simp [make.quad, maxLen])) (by omega) (by simp) (pile.typ_row HRI.out _ _) hown' hgrow)
          obtain ⟨va, vl, vc, rfl⟩ := make.shape hown'
          clear hown' hgrow P3 HRI hcp hm4
          go_wp2_with fail
          go_roundw
          case rel => exact ⟨c + 1, by omega, by go_num, _, P4⟩
          case measure => simp [intOf]; omega
        · have hkc : ¬ (c : Int) < (Y : Int) := by omega
          obtain rfl : c = Y := by omega
          go_wp2_with fail
          go_roundw
          case rel => exact ⟨a + 1, by omega, by go_num, vals, by rw [Nat.add_mul, Nat.one_mul]; exact hP⟩
          case measure => simp [intOf]; omega
    · have hkz : ¬ (a : Int) < (X : Int) := by omega
      obtain rfl : a = X := by omega
      obtain ⟨va, vl, vc, rfl⟩ := make.shape hP.out.owns
      go_wp2_with fail
      go_ret
      exact ⟨_, rfl, hP.out.rows, hP.out.below⟩

set_option maxHeartbeats 2000000 in
theorem make_any (p0 p1 : Nat) (X Y : Nat) (wh : Int) (N : Nat → Nat → Int) (w : World) (hX : X ≤ 3) (hY : Y ≤ 3)
    (hrow : ∀ (i j : Nat) (W : World), i < X → j < Y → Below w.heap.size w W → Calls Try.prog 147 #[.int .i64 (i : Int), .int .i64 (j : Int), .pointer (some ⟨p0, 0, none⟩), .pointer (some ⟨p1, 0, none⟩)] W fun e w' =>
      e = .returned (.agg #[.int .i64 (N (i * Y + j) 0), .int .i64 (N (i * Y + j) 1), .int .i64 (N (i * Y + j) 2), .int .i64 (N (i * Y + j) 3)]) ∧ Below W.heap.size W w') :
    Calls Try.prog 143 #[.int .i64 (X : Int), .int .i64 (Y : Int), .int .i64 wh, .func (.func 147) #[] #[.pointer (some ⟨p0, 0, none⟩), .pointer (some ⟨p1, 0, none⟩)]] w fun e w' => ∃ u, e = .returned (.agg #[.int .i64 (X : Int), .int .i64 (Y : Int), .int .i64 wh, u]) ∧
      OwnRows w' w.heap.size w'.heap.size u (make.rowsOf N (X * Y)) ∧ Below w.heap.size w w' := by
  have HC : Hid (∀ W, Below w.heap.size w W → Calls Try.prog 162 #[.int .i64 (X : Int), .int .i64 (Y : Int), .func (.func 147) #[] #[.pointer (some ⟨p0, 0, none⟩), .pointer (some ⟨p1, 0, none⟩)]] W fun e w' => ∃ u, e = .returned u ∧
      OwnRows w' W.heap.size w'.heap.size u (make.rowsOf N (X * Y)) ∧ Below W.heap.size W w') := Lib.hid (fun W hW => make_anyR p0 p1 X Y N W hX hY (fun i j W' h1 h2 hb => hrow i j W' h1 h2 (below_tr hW hb)))
  clear hrow
  go_enter Try.func143, Try.ntmps143
  go_wp2_with fail
  refine (HC.out _ (below_al (Below.refl _ _) _)).mono ?_
  rintro e w1 ⟨u, rfl, hu, hb⟩
  obtain ⟨va, vl, vc, rfl⟩ := hu.rows.shape
  have HU := Lib.hid hu
  have HB := Lib.hid hb
  have HRS := Lib.hid ((Blk.new w 28 #[.int .i64 0, .int .i64 0, .int .i64 0, .slice none 0 0]).below hb)
  obtain ⟨r0, r1, r2, r3, r4⟩ := four_cells HRS.out
  have rf : ∀ k, w1.frozen? ⟨w.heap.size, k, none⟩ = false := fun k => Joins.unfrozen_of_block HRS.out k
  clear hu hb
  go_wp2_with fail
  refine bodyPost_ret (v := .agg #[.int .i64 (X : Int), .int .i64 (Y : Int), .int .i64 wh, .slice va vl vc]) (by simp [results, Try.results143, go_sem, r0, r1, r2, r3]) rfl ⟨_, rfl, ?_, ?_⟩
  · refine (HU.out.wrote (S := fun p => p.block < w.heap.size + 1) ?_ (fun p hp => .inl (by simpa using hp))).mono (by simp) (by simp [World.setCell])
    repeat (first | exact Wrote.refl _ _ | refine Wrote.setCell ?_ (by simp) _)
  · repeat (refine Below.setCell ?_ (by simp <;> omega) _)
    exact below_tr (below_al (Below.refl _ _) _) HB.out

set_option maxHeartbeats 4000000 in
theorem impl_any (x y wh : Int) (v : Value) (xss : List (List Int)) (x' y' wh' : Int) (v' : Value) (yss : List (List Int)) (w : World) (h : IRows w v xss) (h' : IRows w v' yss) (hn : total xss ≤ 1048576) (hn' : total yss ≤ 1048576) :
    Calls Try.prog 74 #[.agg #[.int .i64 x, .int .i64 y, .int .i64 wh, v], .agg #[.int .i64 x', .int .i64 y', .int .i64 wh', v']] w fun e w' => ∃ r, e = .returned (.tuple #[.agg #[.int .i64 (res x y wh xss x' y' wh' yss).x, .int .i64 (res x y wh xss x' y' wh' yss).y, .int .i64 (res x y wh xss x' y' wh' yss).wh, r], .bool (res x y wh xss x' y' wh' yss).ok]) ∧ OwnRows w' w.heap.size w'.heap.size r (res x y wh xss x' y' wh' yss).rows ∧ Below w.heap.size w w' := by
  have HV := Lib.hid h
  have HV' := Lib.hid h'
  obtain ⟨va, vn, vc, rfl⟩ := h.shape
  obtain ⟨ua, un, uc, rfl⟩ := h'.shape
  clear h h'
  have B0 := Lib.hid (below_al (below_al (below_al (Below.refl w.heap.size w) (.cells #[.int .i64 x, .int .i64 y, .int .i64 wh, .slice va vn vc] 28)) (.cells #[.int .i64 x', .int .i64 y', .int .i64 wh', .slice ua un uc] 28)) (.cells #[.int .i64 0, .int .i64 0, .int .i64 0, .slice none 0 0] 28))
  have P0 : Hid (Blk (((w.alloc (.cells #[.int .i64 x, .int .i64 y, .int .i64 wh, .slice va vn vc] 28)).alloc (.cells #[.int .i64 x', .int .i64 y', .int .i64 wh', .slice ua un uc] 28)).alloc (.cells #[.int .i64 0, .int .i64 0, .int .i64 0, .slice none 0 0] 28)) w.heap.size 28 #[.int .i64 x, .int .i64 y, .int .i64 wh, .slice va vn vc]) := Lib.hid (((Blk.new w 28 #[.int .i64 x, .int .i64 y, .int .i64 wh, .slice va vn vc]).alloc _).alloc _)
  have Q0 : Hid (Blk (((w.alloc (.cells #[.int .i64 x, .int .i64 y, .int .i64 wh, .slice va vn vc] 28)).alloc (.cells #[.int .i64 x', .int .i64 y', .int .i64 wh', .slice ua un uc] 28)).alloc (.cells #[.int .i64 0, .int .i64 0, .int .i64 0, .slice none 0 0] 28)) (w.heap.size + 1) 28 #[.int .i64 x', .int .i64 y', .int .i64 wh', .slice ua un uc]) := Lib.hid (by
    have := (Blk.new (w.alloc (.cells #[.int .i64 x, .int .i64 y, .int .i64 wh, .slice va vn vc] 28)) 28 #[.int .i64 x', .int .i64 y', .int .i64 wh', .slice ua un uc]).alloc (.cells #[.int .i64 0, .int .i64 0, .int .i64 0, .slice none 0 0] 28)
    simpa using this)
  have R0 : Hid (Blk (((w.alloc (.cells #[.int .i64 x, .int .i64 y, .int .i64 wh, .slice va vn vc] 28)).alloc (.cells #[.int .i64 x', .int .i64 y', .int .i64 wh', .slice ua un uc] 28)).alloc (.cells #[.int .i64 0, .int .i64 0, .int .i64 0, .slice none 0 0] 28)) (w.heap.size + 1 + 1) 28 #[.int .i64 0, .int .i64 0, .int .i64 0, .slice none 0 0]) := Lib.hid (by
    have := Blk.new ((w.alloc (.cells #[.int .i64 x, .int .i64 y, .int .i64 wh, .slice va vn vc] 28)).alloc (.cells #[.int .i64 x', .int .i64 y', .int .i64 wh', .slice ua un uc] 28)) 28 #[.int .i64 0, .int .i64 0, .int .i64 0, .slice none 0 0]
    simpa using this)
  have CP := Lib.hid (alike.impl_same x y wh _ xss x' y' wh' _ yss _ (HV.out.below B0.out) (HV'.out.below B0.out) hn hn')
  by_cases hs : same x y wh xss x' y' wh' yss
  · have EB := Lib.hid (sameB_yes hs)
    obtain ⟨ho, ho', rfl, rfl⟩ := hs
    obtain ⟨X, rfl⟩ : ∃ X : Nat, x = X := ⟨x.toNat, by have := ho.1.1; omega⟩
    obtain ⟨Y, rfl⟩ : ∃ Y : Nat, y = Y := ⟨y.toNat, by have := ho.1.2; omega⟩
    have hX : X ≤ 3 := by have := ho.1.1; omega
    have hY : Y ≤ 3 := by have := ho.1.2; omega
    have h9 : X * Y ≤ 9 := Nat.mul_le_mul hX hY
    have kw : IntKind.i64.wrap (wh + wh') = wh + wh' := IntWalk.i64_in _ (by have := ho.2.1; have := ho'.2.1; omega)
    have HT := Lib.hid (make.total_rowsOf (N xss yss) (X * Y) h9)
    have HO := Lib.hid ho
    have HO' := Lib.hid ho'
    have HMK := Lib.hid (fun (W : World) (hb0 : Below w.heap.size w W) (hP : Blk W w.heap.size 28 #[.int .i64 (X : Int), .int .i64 (Y : Int), .int .i64 wh, .slice va vn vc]) (hQ : Blk W (w.heap.size + 1) 28 #[.int .i64 (X : Int), .int .i64 (Y : Int), .int .i64 wh', .slice ua un uc]) => make_any w.heap.size (w.heap.size + 1) X Y (wh + wh') (N xss yss) W hX hY (fun i j W' hi hj hb =>
      clo w.heap.size (w.heap.size + 1) X Y wh wh' _ _ xss yss i j W' (hP.below hb) (hQ.below hb) (HV.out.below (below_tr hb0 hb)) (HV'.out.below (below_tr hb0 hb)) HO.out HO'.out hi hj))
    clear ho ho' h9 hX hY
    go_enter Try.func74, Try.ntmps74
    go_wp2_with fail
    refine CP.out.mono ?_
    rintro e w0 ⟨rfl, hb0⟩
    have B1 := Lib.hid (below_tr B0.out hb0)
    have P1 := Lib.hid (P0.out.below hb0)
    have Q1 := Lib.hid (Q0.out.below hb0)
    have R1 := Lib.hid (R0.out.below hb0)
    obtain ⟨c0, c1, c2, c3, c4⟩ := four_cells P1.out
    obtain ⟨d0, d1, d2, d3, d4⟩ := four_cells Q1.out
    rw [EB.out]
    clear hb0
    go_wp2_with fail
    refine (HMK.out _ B1.out P1.out Q1.out).mono ?_
    rintro e w1 ⟨u, rfl, hu, hb⟩
    have B2 := Lib.hid (below_tr B1.out hb)
    have R2 := Lib.hid (R1.out.below hb)
    have hz0 := R1.out.lt
    have U2 := Lib.hid (hu.mono (B' := w.heap.size + 1 + 1 + 1) (by omega) (Nat.le_refl _))
    obtain ⟨xa, xl, xc, rfl⟩ := hu.rows.shape
    clear hu hb HMK R0 P0 Q0 B0 c0 c1 c2 c3 c4 d0 d1 d2 d3 d4
    go_wp2_with fail
    by_cases h3 : wh + wh' ≤ 1000
    · have HVK := Lib.hid (make.valid_yes X Y (wh + wh') _ _ w1 U2.out.rows HT.out (box_ok HO.out HO'.out h3))
      have HE := Lib.hid (res_yes (x := X) (y := Y) (wh := wh) (xss := xss) (x' := X) (y' := Y) (wh' := wh') (yss := yss) ⟨⟨HO.out, HO'.out, rfl, rfl⟩, h3⟩)
      refine HVK.out.mono ?_
      rintro e w2 ⟨rfl, hb⟩
      have B3 := Lib.hid (below_tr B2.out hb)
      have R3 := Lib.hid (R2.out.below hb)
      have U3 := Lib.hid (U2.out.keep hb)
      have hz2 := Lib.hid hb.size
      obtain ⟨r0, r1, r2, r3, r4⟩ := four_cells R3.out
      have rf : ∀ k, w2.frozen? ⟨w.heap.size + 1 + 1, k, none⟩ = false := fun k => Joins.unfrozen_of_block R3.out k
      clear hb HVK
      go_wp2_with fail
      refine bodyPost_ret (v := .tuple #[.agg #[.int .i64 (X : Int), .int .i64 (Y : Int), .int .i64 (wh + wh'), .slice xa xl xc], .bool true]) (by simp [results, Try.results74, go_sem, r0, r1, r2, r3]) rfl ?_
      rw [HE.out]
      refine ⟨_, rfl, ?_, ?_⟩
      · rw [show ((X : Int) * (Y : Int)).toNat = X * Y from by rw [← Int.natCast_mul, Int.toNat_natCast]]
        refine (U3.out.wrote (S := fun p => p.block < w.heap.size + 1 + 1 + 1) ?_ (fun p hp => .inl hp)).mono (by omega) (by have := hz2.out; simpa [World.setCell] using this)
        repeat (first | exact Wrote.refl _ _ | refine Wrote.setCell ?_ (by simp) _)
      · repeat (refine Below.setCell ?_ (by simp <;> omega) _)
        exact B3.out
    · have HVK := Lib.hid (make.valid_no X Y (wh + wh') _ _ w1 U2.out.rows HT.out (box_bad h3))
      have HE := Lib.hid (res_no (x := X) (y := Y) (wh := wh) (xss := xss) (x' := X) (y' := Y) (wh' := wh') (yss := yss) (fun h => h3 h.2))
      refine HVK.out.mono ?_
      rintro e w2 ⟨rfl, hb⟩
      have B3 := Lib.hid (below_tr B2.out hb)
      have R3 := Lib.hid (R2.out.below hb)
      obtain ⟨r0, r1, r2, r3, r4⟩ := four_cells R3.out
      have rf : ∀ k, w2.frozen? ⟨w.heap.size + 1 + 1, k, none⟩ = false := fun k => Joins.unfrozen_of_block R3.out k
      clear hb HVK
      go_wp2_with fail
      refine bodyPost_ret (v := .tuple #[.agg #[.int .i64 0, .int .i64 0, .int .i64 0, .slice none 0 0], .bool false]) (by simp [results, Try.results74, go_sem, r0, r1, r2, r3]) rfl ?_
      rw [HE.out]
      refine ⟨_, rfl, OwnRows.nil _ _ _, ?_⟩
      repeat (refine Below.setCell ?_ (by simp <;> omega) _)
      exact B3.out
  · have EB := Lib.hid (sameB_no hs)
    have HE := Lib.hid (res_no (fun h => hs h.1))
    clear hs
    go_enter Try.func74, Try.ntmps74
    go_wp2_with fail
    refine CP.out.mono ?_
    rintro e w0 ⟨rfl, hb0⟩
    have B1 := Lib.hid (below_tr B0.out hb0)
    have P1 := Lib.hid (P0.out.below hb0)
    have Q1 := Lib.hid (Q0.out.below hb0)
    have R1 := Lib.hid (R0.out.below hb0)
    obtain ⟨c0, c1, c2, c3, c4⟩ := four_cells P1.out
    obtain ⟨d0, d1, d2, d3, d4⟩ := four_cells Q1.out
    rw [EB.out]
    clear hb0
    obtain ⟨r0, r1, r2, r3, r4⟩ := four_cells R1.out
    have rf : ∀ k, w0.frozen? ⟨w.heap.size + 1 + 1, k, none⟩ = false := fun k => Joins.unfrozen_of_block R1.out k
    go_wp2_with fail
    refine bodyPost_ret (v := .tuple #[.agg #[.int .i64 0, .int .i64 0, .int .i64 0, .slice none 0 0], .bool false]) (by simp [results, Try.results74, go_sem, r0, r1, r2, r3]) rfl ?_
    rw [HE.out]
    refine ⟨_, rfl, OwnRows.nil _ _ _, ?_⟩
    repeat (first | (with_reducible exact B1.out) | refine Below.setCell ?_ (by simp <;> omega) _)

end Go.Proofs.Ytiigfhigmdjooaa.mix
