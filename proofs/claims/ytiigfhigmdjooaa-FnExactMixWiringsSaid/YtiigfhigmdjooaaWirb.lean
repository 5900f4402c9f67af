/- WireBoxes of the program. -/
import Derived.Test.YtiigfhigmdjooaaWir
namespace Go.Proofs.Ytiigfhigmdjooaa.wir
open Go.RowKit Go.Deep Go.Proofs.Ytiigfhigmdjooaa.base
open Go.Proofs.Ytiigfhigmdjooaa.ints (ret_int infoInt infoInts)
open Go.Proofs.Ytiigfhigmdjooaa.rws (total)
open Go.Proofs.Ytiigfhigmdjooaa.val (okSizes okBox boxB boxB_yes boxB_no)
open Go.Proofs.Ytiigfhigmdjooaa.row (nn nn_bd at_)
open Go.Proofs.Ytiigfhigmdjooaa.two (two twoB twoB_yes twoB_no asksB asksB_yes asksB_no)
open Go.Proofs.Ytiigfhigmdjooaa.wrm (rule ruleB ruleB_yes ruleB_no N res res_yes res_no both)
open Go.Proofs.Ytiigfhigmdjooaa.scene (three_cells)
open Go.Proofs.Ytiigfhigmdjooaa.rule (RV)


set_option maxHeartbeats 4000000 in
theorem clo (p0 p1 p2 p3 : Nat) (wh wh' : Int) (v : Value) (xss : List (List Int)) (v' : Value) (yss : List (List Int)) (sv1 : Value) (f1 : List Int) (u1 : Value) (k1 : List (List Int)) (nv1 : Value) (s1 : List (List Int)) (sv2 : Value) (f2 : List Int) (u2 : Value) (k2 : List (List Int)) (nv2 : Value) (s2 : List (List Int)) (i j : Nat) (w : World)
    (h0 : Blk w p0 28 #[.int .i64 2, .int .i64 2, .int .i64 wh, v]) (h1 : Blk w p1 28 #[.int .i64 2, .int .i64 2, .int .i64 wh', v']) (h2 : Blk w p2 88 #[sv1, u1, nv1]) (h3 : Blk w p3 88 #[sv2, u2, nv2])
    (h : IRows w v xss) (h' : IRows w v' yss) (ht : two 2 2 wh xss) (ht' : two 2 2 wh' yss) (hr1 : RV w sv1 f1 u1 k1 nv1 s1) (hr2 : RV w sv2 f2 u2 k2 nv2 s2) (hg1 : rule f1 k1 s1) (hg2 : rule f2 k2 s2) (hi : i < 2) (hj : j < 2) :
    Calls Try.prog 144 #[.int .i64 (i : Int), .int .i64 (j : Int), .pointer (some ⟨p0, 0, none⟩), .pointer (some ⟨p1, 0, none⟩), .pointer (some ⟨p2, 0, none⟩), .pointer (some ⟨p3, 0, none⟩)] w fun e w' =>
      e = .returned (.agg #[.int .i64 (N xss yss f1 k1 s1 f2 k2 s2 (i * 2 + j) 0), .int .i64 (N xss yss f1 k1 s1 f2 k2 s2 (i * 2 + j) 1), .int .i64 (N xss yss f1 k1 s1 f2 k2 s2 (i * 2 + j) 2), .int .i64 (N xss yss f1 k1 s1 f2 k2 s2 (i * 2 + j) 3)]) ∧ Below w.heap.size w w' := by
  have B0 := Lib.hid (below_al (Below.refl w.heap.size w) (.cells #[.int .i64 0, .int .i64 0, .int .i64 0, .int .i64 0] 152))
  have R0 := Lib.hid (Blk.new w 152 #[.int .i64 0, .int .i64 0, .int .i64 0, .int .i64 0])
  have HR := Lib.hid (wiredRow wh wh' v xss v' yss sv1 f1 u1 k1 nv1 s1 sv2 f2 u2 k2 nv2 s2 i j _ (h.below B0.out) (h'.below B0.out) ht ht' (hr1.below B0.out) (hr2.below B0.out) hg1 hg2 hi hj)
  obtain ⟨va, vn, vc, rfl⟩ := h.shape
  obtain ⟨ua, un, uc, rfl⟩ := h'.shape
  obtain ⟨_, _, _, _, _, _, _, _, _, rfl, rfl, rfl⟩ := hr1.shape
  obtain ⟨_, _, _, _, _, _, _, _, _, rfl, rfl, rfl⟩ := hr2.shape
  obtain ⟨c0, c1, c2, c3, c4⟩ := four_cells (h0.below B0.out)
  obtain ⟨d0, d1, d2, d3, d4⟩ := four_cells (h1.below B0.out)
  obtain ⟨e0, e1, e2, e3⟩ := three_cells (h2.below B0.out)
  obtain ⟨f0', f1', f2', f3'⟩ := three_cells (h3.below B0.out)
  clear h0 h1 h2 h3 h h' ht ht' hr1 hr2 hg1 hg2 hi hj
  generalize N xss yss f1 k1 s1 f2 k2 s2 (i * 2 + j) 0 = n0 at *
  generalize N xss yss f1 k1 s1 f2 k2 s2 (i * 2 + j) 1 = n1 at *
  generalize N xss yss f1 k1 s1 f2 k2 s2 (i * 2 + j) 2 = n2 at *
  generalize N xss yss f1 k1 s1 f2 k2 s2 (i * 2 + j) 3 = n3 at *
  go_enter Try.func144, Try.ntmps144
  go_wp2_with fail
  refine HR.out.mono ?_
  rintro e w1 ⟨rfl, hb⟩
  have B1 := Lib.hid (below_tr B0.out hb)
  have R1 := Lib.hid (R0.out.below hb)
  obtain ⟨r0, r1, r2, r3, r4⟩ := four_cells R1.out
  have rf : ∀ q, w1.frozen? ⟨w.heap.size, q, none⟩ = false := fun q => Joins.unfrozen_of_block R1.out q
  clear hb HR c0 c1 c2 c3 c4 d0 d1 d2 d3 d4 e0 e1 e2 e3 f0' f1' f2' f3'
  go_wp2_with fail
  refine bodyPost_ret (v := .agg #[.int .i64 n0, .int .i64 n1, .int .i64 n2, .int .i64 n3]) (by simp [results, Try.results144, go_sem, r0, r1, r2, r3]) rfl ⟨rfl, ?_⟩
  repeat (first | (with_reducible exact B1.out) | refine Below.setCell ?_ (by simp <;> omega) _)

set_option maxHeartbeats 4000000 in
theorem make_anyR (p0 p1 p2 p3 : Nat) (X Y : Nat) (N : Nat → Nat → Int) (w : World) (hX : X ≤ 3) (hY : Y ≤ 3)
    (hrow : ∀ (i j : Nat) (W : World), i < X → j < Y → Below w.heap.size w W → Calls Try.prog 144 #[.int .i64 (i : Int), .int .i64 (j : Int), .pointer (some ⟨p0, 0, none⟩), .pointer (some ⟨p1, 0, none⟩), .pointer (some ⟨p2, 0, none⟩), .pointer (some ⟨p3, 0, none⟩)] W fun e w' =>
      e = .returned (.agg #[.int .i64 (N (i * Y + j) 0), .int .i64 (N (i * Y + j) 1), .int .i64 (N (i * Y + j) 2), .int .i64 (N (i * Y + j) 3)]) ∧ Below W.heap.size W w') :
    Calls Try.prog 162 #[.int .i64 (X : Int), .int .i64 (Y : Int), .func (.func 144) #[] #[.pointer (some ⟨p0, 0, none⟩), .pointer (some ⟨p1, 0, none⟩), .pointer (some ⟨p2, 0, none⟩), .pointer (some ⟨p3, 0, none⟩)]] w fun e w' => ∃ u, e = .returned u ∧
      OwnRows w' w.heap.size w'.heap.size u (make.rowsOf N (X * Y)) ∧ Below w.heap.size w w' := by
  obtain ⟨i0, hi, hz0, hz1, hz2⟩ := info_parts infoInts
  have h9 : X * Y ≤ 9 := Nat.mul_le_mul hX hY
  have hm : (X : Int) * (Y : Int) = ((X * Y : Nat) : Int) := by simp
  have hmk := app.mk0s (X * Y) (by omega)
  rw [← hm] at hmk
  have hw1 : IntKind.i64.wrap ((X : Int) * (Y : Int)) = (X : Int) * (Y : Int) := IntWalk.i64_in _ (by omega)
  have HM := Lib.hid hm
  have HR := Lib.hid hrow
  have P0 : Hid (pile.Pile w (w.alloc (.cells (madeCells #[.slice none 0 0] (X * Y)) 39)) w.heap.size (w.alloc (.cells (madeCells #[.slice none 0 0] (X * Y)) 39)).heap.size (.slice (some ⟨w.heap.size, 0, none⟩) 0 (X * Y)) [] (make.rowsOf N (0 * Y))) := Lib.hid (by
    rw [Nat.zero_mul]
    refine pile.start (below_al (Below.refl _ _) _) (Nat.le_refl _) ?_ (by simp)
    have := World.ownsRow_made (base := w.heap.size) (e := 39) (size := 1) w (madeCells #[.slice none 0 0] (X * Y)) (X * Y) (Nat.le_refl _) (by unfold maxLen; omega) (by simp [madeCells])
    simpa using this)
  clear hm hrow
  go_enter Try.func162, Try.ntmps162
  go_wp2_with fail
  clear hmk hw1
  go_loopw [7, 17] (fun v i wr => ∃ a : Nat, a ≤ X ∧ i = .int .i64 a ∧ ∃ vals, Hid (pile.Pile w wr w.heap.size wr.heap.size v vals (make.rowsOf N (a * Y)))) (fun _ i _ => X - (intOf i).toNat)
  case atStart => exact ⟨0, Nat.zero_le _, rfl, _, P0⟩
  case round =>
    obtain ⟨a, ha, rfl, vals, hP⟩ := hrel
    clear P0
    obtain ⟨wo, rfl⟩ : ∃ wo : World, wo = wr := ⟨_, rfl⟩
    by_cases hlt : a < X
    · have hkz : (a : Int) < (X : Int) := by omega
      go_wp2_with fail
      go_loopw [7, 21] (fun v j wi => ∃ c : Nat, c ≤ Y ∧ j = .int .i64 c ∧ ∃ vals, Hid (pile.Pile w wi w.heap.size wi.heap.size v vals (make.rowsOf N (a * Y + c)))) (fun _ j _ => Y - (intOf j).toNat)
      case atStart => exact ⟨0, Nat.zero_le _, rfl, _, hP⟩
      case round =>
        obtain ⟨c, hc, rfl, vals, hP⟩ := hrel
        obtain ⟨wi, rfl⟩ : ∃ wi : World, wi = wr := ⟨_, rfl⟩
        by_cases hlc : c < Y
        · have hkc : (c : Int) < (Y : Int) := by omega
          have HCA := Lib.hid (HR.out a c wi hlt hlc hP.out.below)
          have hk9 : a * Y + c < 9 := by
            have h1 : a * Y + c < (a + 1) * Y := by rw [Nat.add_mul]; omega
            have h2 : (a + 1) * Y ≤ X * Y := Nat.mul_le_mul_right _ (by omega)
            omega
          have HK9 := Lib.hid hk9
          have HLE := Lib.hid (make.len_rowsOf N (a * Y + c))
          clear hk9
          go_wp2_with fail
          refine HCA.out.mono ?_
          rintro e w2 ⟨rfl, hb⟩
          have W2 := Lib.hid (hP.out.keep hb)
          have hcp := row.copy4p (W := w2.alloc (.cells #[.int .i64 (N (a * Y + c) 0), .int .i64 (N (a * Y + c) 1), .int .i64 (N (a * Y + c) 2), .int .i64 (N (a * Y + c) 3)] 152)) (b := w2.heap.size) (o := 0) (cap := 4) (n := w2.heap.size + 1)
            (n0 := .int .i64 (N (a * Y + c) 0)) (n1 := .int .i64 (N (a * Y + c) 1)) (n2 := .int .i64 (N (a * Y + c) 2)) (n3 := .int .i64 (N (a * Y + c) 3)) #[.int .i64 0, .int .i64 0, .int .i64 0, .int .i64 0] 3 rfl (by simp)
            (by rw [Joins.cell_of_block (heap_alloc_new w2 _)]; rfl) (by rw [Joins.cell_of_block (heap_alloc_new w2 _)]; rfl) (by rw [Joins.cell_of_block (heap_alloc_new w2 _)]; rfl) (by rw [Joins.cell_of_block (heap_alloc_new w2 _)]; rfl) rfl rfl rfl rfl
          have hrowis : ((w2.alloc (.cells #[.int .i64 (N (a * Y + c) 0), .int .i64 (N (a * Y + c) 1), .int .i64 (N (a * Y + c) 2), .int .i64 (N (a * Y + c) 3)] 152)).alloc (.cells #[.int .i64 (N (a * Y + c) 0), .int .i64 (N (a * Y + c) 1), .int .i64 (N (a * Y + c) 2), .int .i64 (N (a * Y + c) 3)] 3)).rowIs (w2.heap.size + 1) 3 4 (fun j => .int .i64 ((make.quad N (a * Y + c)).getD j 0)) := by
            refine ⟨#[.int .i64 (N (a * Y + c) 0), .int .i64 (N (a * Y + c) 1), .int .i64 (N (a * Y + c) 2), .int .i64 (N (a * Y + c) 3)], by
              have := heap_alloc_new (w2.alloc (.cells #[.int .i64 (N (a * Y + c) 0), .int .i64 (N (a * Y + c) 1), .int .i64 (N (a * Y + c) 2), .int .i64 (N (a * Y + c) 3)] 152)) (.cells #[.int .i64 (N (a * Y + c) 0), .int .i64 (N (a * Y + c) 1), .int .i64 (N (a * Y + c) 2), .int .i64 (N (a * Y + c) 3)] 3)
              simpa using this, rfl, fun i hi => ?_⟩
            match i, hi with
            | 0, _ => rfl
            | 1, _ => rfl
            | 2, _ => rfl
            | 3, _ => rfl
          have HRI := Lib.hid (hrowis.alloc (.cells #[.slice (some ⟨w2.heap.size + 1, 0, none⟩) 4 4] 39))
          have P3 := Lib.hid (((W2.out.keep (below_al (Below.refl _ _) (.cells #[.int .i64 (N (a * Y + c) 0), .int .i64 (N (a * Y + c) 1), .int .i64 (N (a * Y + c) 2), .int .i64 (N (a * Y + c) 3)] 152))).keep (below_al (Below.refl _ _) (.cells #[.int .i64 (N (a * Y + c) 0), .int .i64 (N (a * Y + c) 1), .int .i64 (N (a * Y + c) 2), .int .i64 (N (a * Y + c) 3)] 3))).keep (below_al (Below.refl _ _) (.cells #[.slice (some ⟨w2.heap.size + 1, 0, none⟩) 4 4] 39)))
          have hm4 := make.mk4
          have hsz := hb.size
          have hsw := W2.out.below.size
          clear hb hP HCA hrowis W2
          go_wp2_with (at_builtin; go_must (refine wpList_append_own _ rfl (.tmp 32) (.tmp 34) 22 rfl w.heap.size 39 i0 (.slice none 0 0) 1 24 Try.underlying22 hi hz0 hz1 hz2 rfl (by decide) _ _ _ rfl P3.out.owns ⟨w2.heap.size + 1 + 1, 0, none⟩ 1 1 [.slice (some ⟨w2.heap.size + 1, 0, none⟩) 4 4] rfl rfl ?c1 ?c2 ?c3 ?c4 ?c5 ?_))
          case c1 =>
            have := app.one_at ((w2.alloc (.cells #[.int .i64 (N (a * Y + c) 0), .int .i64 (N (a * Y + c) 1), .int .i64 (N (a * Y + c) 2), .int .i64 (N (a * Y + c) 3)] 152)).alloc (.cells #[.int .i64 (N (a * Y + c) 0), .int .i64 (N (a * Y + c) 1), .int .i64 (N (a * Y + c) 2), .int .i64 (N (a * Y + c) 3)] 3)) (.slice (some ⟨w2.heap.size + 1, 0, none⟩) 4 4) 39
            simpa using this
          case c2 => intro u hu; simp at hu; subst hu; rfl
          case c3 => rw [HLE.out]; have := HK9.out; unfold maxLen; omega
          case c4 => rw [HLE.out]; have := HK9.out; omega
          case c5 => simp; omega
          intro v' w3 hown' hgrow _
          have P4 : Hid (pile.Pile w w3 w.heap.size w3.heap.size v' (vals ++ [.slice (some ⟨w2.heap.size + 1, 0, none⟩) 4 4]) (make.rowsOf N (a * Y + (c + 1)))) := Lib.hid (by
            have e : make.rowsOf N (a * Y + (c + 1)) = make.rowsOf N (a * Y + c) ++ [make.quad N (a * Y + c)] := by simp [make.rowsOf, ← Nat.add_assoc, List.range_succ]
            rw [e]
            refine P3.out.grow (m' := w2.heap.size + 1) (T := w2.heap.size + 1 + 1) (ints.own_of_row (xs := make.quad N (a * Y + c)) HRI.out (Nat.le_refl _) (by omega) (by simp [make.quad, maxLen])) (by omega) (by simp) (pile.typ_row HRI.out _ _) hown' hgrow)
          obtain ⟨va, vl, vc, rfl⟩ := make.shape hown'
          clear hown' hgrow P3 HRI hcp hm4
          go_wp2_with fail
          go_roundw
          case rel => exact ⟨c + 1, by omega, by go_num, _, P4⟩
          case measure => simp [intOf]; omega
        · have hkc : ¬ (c : Int) < (Y : Int) := by omega
          obtain rfl : c = Y := by omega
          go_wp2_with fail
          go_roundw
          case rel => exact ⟨a + 1, by omega, by go_num, vals, by rw [Nat.add_mul, Nat.one_mul]; exact hP⟩
          case measure => simp [intOf]; omega
    · have hkz : ¬ (a : Int) < (X : Int) := by omega
      obtain rfl : a = X := by omega
      obtain ⟨va, vl, vc, rfl⟩ := make.shape hP.out.owns
      go_wp2_with fail
      go_ret
      exact ⟨_, rfl, hP.out.rows, hP.out.below⟩

set_option maxHeartbeats 2000000 in
theorem make_any (p0 p1 p2 p3 : Nat) (X Y : Nat) (wh : Int) (N : Nat → Nat → Int) (w : World) (hX : X ≤ 3) (hY : Y ≤ 3)
    (hrow : ∀ (i j : Nat) (W : World), i < X → j < Y → Below w.heap.size w W → Calls Try.prog 144 #[.int .i64 (i : Int), .int .i64 (j : Int), .pointer (some ⟨p0, 0, none⟩), .pointer (some ⟨p1, 0, none⟩), .pointer (some ⟨p2, 0, none⟩), .pointer (some ⟨p3, 0, none⟩)] W fun e w' =>
      e = .returned (.agg #[.int .i64 (N (i * Y + j) 0), .int .i64 (N (i * Y + j) 1), .int .i64 (N (i * Y + j) 2), .int .i64 (N (i * Y + j) 3)]) ∧ Below W.heap.size W w') :
    Calls Try.prog 143 #[.int .i64 (X : Int), .int .i64 (Y : Int), .int .i64 wh, .func (.func 144) #[] #[.pointer (some ⟨p0, 0, none⟩), .pointer (some ⟨p1, 0, none⟩), .pointer (some ⟨p2, 0, none⟩), .pointer (some ⟨p3, 0, none⟩)]] w fun e w' => ∃ u, e = .returned (.agg #[.int .i64 (X : Int), .int .i64 (Y : Int), .int .i64 wh, u]) ∧
      OwnRows w' w.heap.size w'.heap.size u (make.rowsOf N (X * Y)) ∧ Below w.heap.size w w' := by
  have HC : Hid (∀ W, Below w.heap.size w W → Calls Try.prog 162 #[.int .i64 (X : Int), .int .i64 (Y : Int), .func (.func 144) #[] #[.pointer (some ⟨p0, 0, none⟩), .pointer (some ⟨p1, 0, none⟩), .pointer (some ⟨p2, 0, none⟩), .pointer (some ⟨p3, 0, none⟩)]] W fun e w' => ∃ u, e = .returned u ∧
      OwnRows w' W.heap.size w'.heap.size u (make.rowsOf N (X * Y)) ∧ Below W.heap.size W w') := Lib.hid (fun W hW => make_anyR p0 p1 p2 p3 X Y N W hX hY (fun i j W' h1 h2 hb => hrow i j W' h1 h2 (below_tr hW hb)))
  clear hrow
  go_enter Try.func143, Try.ntmps143
  go_wp2_with fail
  refine (HC.out _ (below_al (Below.refl _ _) _)).mono ?_
  rintro e w1 ⟨u, rfl, hu, hb⟩
  obtain ⟨va, vl, vc, rfl⟩ := hu.rows.shape
  have HU := Lib.hid hu
  have HB := Lib.hid hb
  have HRS := Lib.hid ((Blk.new w 28 #[.int .i64 0, .int .i64 0, .int .i64 0, .slice none 0 0]).below hb)
  obtain ⟨r0, r1, r2, r3, r4⟩ := four_cells HRS.out
  have rf : ∀ k, w1.frozen? ⟨w.heap.size, k, none⟩ = false := fun k => Joins.unfrozen_of_block HRS.out k
  clear hu hb
  go_wp2_with fail
  refine bodyPost_ret (v := .agg #[.int .i64 (X : Int), .int .i64 (Y : Int), .int .i64 wh, .slice va vl vc]) (by simp [results, Try.results143, go_sem, r0, r1, r2, r3]) rfl ⟨_, rfl, ?_, ?_⟩
  · refine (HU.out.wrote (S := fun p => p.block < w.heap.size + 1) ?_ (fun p hp => .inl (by simpa using hp))).mono (by simp) (by simp [World.setCell])
    repeat (first | exact Wrote.refl _ _ | refine Wrote.setCell ?_ (by simp) _)
  · repeat (refine Below.setCell ?_ (by simp <;> omega) _)
    exact below_tr (below_al (Below.refl _ _) _) HB.out

set_option maxRecDepth 100000 in
set_option maxHeartbeats 8000000 in
theorem impl_any (x y wh : Int) (v : Value) (xss : List (List Int)) (x' y' wh' : Int) (v' : Value) (yss : List (List Int)) (sv1 : Value) (f1 : List Int) (u1 : Value) (k1 : List (List Int)) (nv1 : Value) (s1 : List (List Int)) (sv2 : Value) (f2 : List Int) (u2 : Value) (k2 : List (List Int)) (nv2 : Value) (s2 : List (List Int)) (w : World) (h : IRows w v xss) (h' : IRows w v' yss) (hn : total xss ≤ 1048576) (hn' : total yss ≤ 1048576) (hr1 : RV w sv1 f1 u1 k1 nv1 s1) (hr2 : RV w sv2 f2 u2 k2 nv2 s2) :
    Calls Try.prog 73 #[.agg #[.int .i64 x, .int .i64 y, .int .i64 wh, v], .agg #[.int .i64 x', .int .i64 y', .int .i64 wh', v'], .agg #[sv1, u1, nv1], .agg #[sv2, u2, nv2]] w fun e w' => ∃ r, e = .returned (.tuple #[.agg #[.int .i64 (res x y wh xss x' y' wh' yss f1 k1 s1 f2 k2 s2).x, .int .i64 (res x y wh xss x' y' wh' yss f1 k1 s1 f2 k2 s2).y, .int .i64 (res x y wh xss x' y' wh' yss f1 k1 s1 f2 k2 s2).wh, r], .bool (res x y wh xss x' y' wh' yss f1 k1 s1 f2 k2 s2).ok]) ∧ OwnRows w' w.heap.size w'.heap.size r (res x y wh xss x' y' wh' yss f1 k1 s1 f2 k2 s2).rows ∧ Below w.heap.size w w' := by
  obtain ⟨va, vn, vc, rfl⟩ := h.shape
  obtain ⟨ua, un, uc, rfl⟩ := h'.shape
  obtain ⟨a0, a1, a2, a3, a4, a5, a6, a7, a8, rfl, rfl, rfl⟩ := hr1.shape
  obtain ⟨b0, b1, b2, b3, b4, b5, b6, b7, b8, rfl, rfl, rfl⟩ := hr2.shape
  have HV := Lib.hid h
  have HU := Lib.hid h'
  have HR1 := Lib.hid hr1
  have HR2 := Lib.hid hr2
  clear h h' hr1 hr2
  have B5 := Lib.hid (show Below w.heap.size w (((((w.alloc (.cells #[.int .i64 x, .int .i64 y, .int .i64 wh, .slice va vn vc] 28)).alloc (.cells #[.int .i64 x', .int .i64 y', .int .i64 wh', .slice ua un uc] 28)).alloc (.cells #[.slice a0 a1 a2, .slice a3 a4 a5, .slice a6 a7 a8] 88)).alloc (.cells #[.slice b0 b1 b2, .slice b3 b4 b5, .slice b6 b7 b8] 88)).alloc (.cells #[.int .i64 0, .int .i64 0, .int .i64 0, .slice none 0 0] 28)) from by repeat (first | exact Below.refl _ _ | refine below_al ?_ _))
  obtain ⟨w5, hw5⟩ : ∃ w5, (((((w.alloc (.cells #[.int .i64 x, .int .i64 y, .int .i64 wh, .slice va vn vc] 28)).alloc (.cells #[.int .i64 x', .int .i64 y', .int .i64 wh', .slice ua un uc] 28)).alloc (.cells #[.slice a0 a1 a2, .slice a3 a4 a5, .slice a6 a7 a8] 88)).alloc (.cells #[.slice b0 b1 b2, .slice b3 b4 b5, .slice b6 b7 b8] 88)).alloc (.cells #[.int .i64 0, .int .i64 0, .int .i64 0, .slice none 0 0] 28)) = w5 := ⟨_, rfl⟩
  have P1 : Hid (Blk w5 w.heap.size 28 #[.int .i64 x, .int .i64 y, .int .i64 wh, .slice va vn vc]) := Lib.hid (by rw [← hw5]; exact ((((Blk.new w 28 #[.int .i64 x, .int .i64 y, .int .i64 wh, .slice va vn vc]).alloc _).alloc _).alloc _).alloc _)
  have P2 : Hid (Blk w5 (w.heap.size + 1) 28 #[.int .i64 x', .int .i64 y', .int .i64 wh', .slice ua un uc]) := Lib.hid (by rw [← hw5]; have := (((Blk.new (w.alloc (.cells #[.int .i64 x, .int .i64 y, .int .i64 wh, .slice va vn vc] 28)) 28 #[.int .i64 x', .int .i64 y', .int .i64 wh', .slice ua un uc]).alloc (.cells #[.slice a0 a1 a2, .slice a3 a4 a5, .slice a6 a7 a8] 88)).alloc (.cells #[.slice b0 b1 b2, .slice b3 b4 b5, .slice b6 b7 b8] 88)).alloc (.cells #[.int .i64 0, .int .i64 0, .int .i64 0, .slice none 0 0] 28); simpa using this)
  have P3 : Hid (Blk w5 (w.heap.size + 1 + 1) 88 #[.slice a0 a1 a2, .slice a3 a4 a5, .slice a6 a7 a8]) := Lib.hid (by rw [← hw5]; have := ((Blk.new ((w.alloc (.cells #[.int .i64 x, .int .i64 y, .int .i64 wh, .slice va vn vc] 28)).alloc (.cells #[.int .i64 x', .int .i64 y', .int .i64 wh', .slice ua un uc] 28)) 88 #[.slice a0 a1 a2, .slice a3 a4 a5, .slice a6 a7 a8]).alloc (.cells #[.slice b0 b1 b2, .slice b3 b4 b5, .slice b6 b7 b8] 88)).alloc (.cells #[.int .i64 0, .int .i64 0, .int .i64 0, .slice none 0 0] 28); simpa using this)
  have P4 : Hid (Blk w5 (w.heap.size + 1 + 1 + 1) 88 #[.slice b0 b1 b2, .slice b3 b4 b5, .slice b6 b7 b8]) := Lib.hid (by rw [← hw5]; have := (Blk.new (((w.alloc (.cells #[.int .i64 x, .int .i64 y, .int .i64 wh, .slice va vn vc] 28)).alloc (.cells #[.int .i64 x', .int .i64 y', .int .i64 wh', .slice ua un uc] 28)).alloc (.cells #[.slice a0 a1 a2, .slice a3 a4 a5, .slice a6 a7 a8] 88)) 88 #[.slice b0 b1 b2, .slice b3 b4 b5, .slice b6 b7 b8]).alloc (.cells #[.int .i64 0, .int .i64 0, .int .i64 0, .slice none 0 0] 28); simpa using this)
  have P5 : Hid (Blk w5 (w.heap.size + 1 + 1 + 1 + 1) 28 #[.int .i64 0, .int .i64 0, .int .i64 0, .slice none 0 0]) := Lib.hid (by rw [← hw5]; have := Blk.new ((((w.alloc (.cells #[.int .i64 x, .int .i64 y, .int .i64 wh, .slice va vn vc] 28)).alloc (.cells #[.int .i64 x', .int .i64 y', .int .i64 wh', .slice ua un uc] 28)).alloc (.cells #[.slice a0 a1 a2, .slice a3 a4 a5, .slice a6 a7 a8] 88)).alloc (.cells #[.slice b0 b1 b2, .slice b3 b4 b5, .slice b6 b7 b8] 88)) 28 #[.int .i64 0, .int .i64 0, .int .i64 0, .slice none 0 0]; simpa using this)
  rw [hw5] at B5
  have CA := ibt x y wh _ xss w5 (HV.out.below B5.out) hn
  have CB := fun (W : World) (hb : Below w5.heap.size w5 W) => ibt x' y' wh' _ yss W (HU.out.below (below_tr B5.out hb)) hn'
  have CC := fun (W : World) (hb : Below w5.heap.size w5 W) => rul.impl_is _ f1 _ k1 _ s1 W (HR1.out.below (below_tr B5.out hb))
  have CD := fun (W : World) (hb : Below w5.heap.size w5 W) => rul.impl_is _ f2 _ k2 _ s2 W (HR2.out.below (below_tr B5.out hb))
  by_cases g1 : two x y wh xss
  · rw [twoB_yes g1] at CA
    have HA := Lib.hid CA
    by_cases g2 : two x' y' wh' yss
    · simp only [twoB_yes g2] at CB
      have HB := Lib.hid CB
      by_cases g3 : rule f1 k1 s1
      · simp only [ruleB_yes g3] at CC
        have HC := Lib.hid CC
        by_cases g4 : rule f2 k2 s2
        · simp only [ruleB_yes g4] at CD
          have HD := Lib.hid CD
          clear CA CB CC CD
          have G1 := Lib.hid g1
          have G2 := Lib.hid g2
          have G3 := Lib.hid g3
          have G4 := Lib.hid g4
          obtain ⟨ho, rfl, rfl⟩ := g1
          obtain ⟨ho', rfl, rfl⟩ := g2
          have hwb := wrm.wh_bd G1.out G2.out
          have kw : IntKind.i64.wrap (wh * wh') = wh * wh' := IntWalk.i64_in _ (by omega)
          have HT := Lib.hid (make.total_rowsOf (N xss yss f1 k1 s1 f2 k2 s2) 4 (by omega))
          have HMK : Hid (∀ W, Below w5.heap.size w5 W → Calls Try.prog 143 #[.int .i64 2, .int .i64 2, .int .i64 (wh * wh'), .func (.func 144) #[] #[.pointer (some ⟨w.heap.size, 0, none⟩), .pointer (some ⟨w.heap.size + 1, 0, none⟩), .pointer (some ⟨w.heap.size + 1 + 1, 0, none⟩), .pointer (some ⟨w.heap.size + 1 + 1 + 1, 0, none⟩)]] W fun e w' => ∃ u, e = .returned (.agg #[.int .i64 2, .int .i64 2, .int .i64 (wh * wh'), u]) ∧ OwnRows w' W.heap.size w'.heap.size u (make.rowsOf (N xss yss f1 k1 s1 f2 k2 s2) 4) ∧ Below W.heap.size W w') := Lib.hid (fun W hW => make_any w.heap.size (w.heap.size + 1) (w.heap.size + 1 + 1) (w.heap.size + 1 + 1 + 1) 2 2 (wh * wh') (N xss yss f1 k1 s1 f2 k2 s2) W (by omega) (by omega) (fun i j W' hi hj hb => clo _ _ _ _ wh wh' _ xss _ yss _ f1 _ k1 _ s1 _ f2 _ k2 _ s2 i j W' ((P1.out.below hW).below hb) ((P2.out.below hW).below hb) ((P3.out.below hW).below hb) ((P4.out.below hW).below hb) (HV.out.below (below_tr B5.out (below_tr hW hb))) (HU.out.below (below_tr B5.out (below_tr hW hb))) G1.out G2.out (HR1.out.below (below_tr B5.out (below_tr hW hb))) (HR2.out.below (below_tr B5.out (below_tr hW hb))) G3.out G4.out hi hj))
          clear g3 g4 ho ho' hwb
          go_enter Try.func73, Try.ntmps73
          obtain ⟨c0, c1, c2, c3, c4⟩ := four_cells P1.out
          go_wp2_with fail
          clear hw5
          refine HA.out.mono ?_
          rintro e w6 ⟨rfl, hb⟩
          have W6 := Lib.hid hb
          clear hb c0 c1 c2 c3 c4
          obtain ⟨c0, c1, c2, c3, c4⟩ := four_cells (P2.out.below W6.out)
          go_wp2_with fail
          refine (HB.out _ W6.out).mono ?_
          rintro e w7 ⟨rfl, hb⟩
          have W7 := Lib.hid (below_tr W6.out hb)
          clear hb c0 c1 c2 c3 c4
          obtain ⟨c0, c1, c2, c3⟩ := three_cells (P3.out.below W7.out)
          go_wp2_with fail
          refine (HC.out _ W7.out).mono ?_
          rintro e w8 ⟨rfl, hb⟩
          have W8 := Lib.hid (below_tr W7.out hb)
          clear hb c0 c1 c2 c3
          obtain ⟨c0, c1, c2, c3⟩ := three_cells (P4.out.below W8.out)
          go_wp2_with fail
          refine (HD.out _ W8.out).mono ?_
          rintro e w9 ⟨rfl, hb⟩
          have W9 := Lib.hid (below_tr W8.out hb)
          clear hb c0 c1 c2 c3
          obtain ⟨c0, c1, c2, c3, c4⟩ := four_cells (P1.out.below W9.out)
          obtain ⟨d0, d1, d2, d3, d4⟩ := four_cells (P2.out.below W9.out)
          go_wp2_with fail
          refine (HMK.out _ W9.out).mono ?_
          rintro e w10 ⟨u, rfl, hu, hb⟩
          have B10 := Lib.hid (below_tr (below_tr B5.out W9.out) hb)
          have R10 := Lib.hid ((P5.out.below W9.out).below hb)
          have Z9 := Lib.hid W9.out.size
          have Z5 := Lib.hid P5.out.lt
          have U10 := Lib.hid (hu.mono (B' := w.heap.size + 1 + 1 + 1 + 1 + 1) (by have := Z9.out; have := Z5.out; omega) (Nat.le_refl _))
          obtain ⟨xa, xl, xc, rfl⟩ := hu.rows.shape
          clear hu hb HMK c0 c1 c2 c3 c4 d0 d1 d2 d3 d4
          go_wp2_with fail
          by_cases h3 : wh * wh' ≤ 1000
          · have HVK := Lib.hid (make.valid_yes 2 2 (wh * wh') _ _ w10 U10.out.rows HT.out (wrm.box_ok G1.out G2.out G3.out G4.out h3))
            have HE := Lib.hid (res_yes (x := 2) (y := 2) (wh := wh) (xss := xss) (x' := 2) (y' := 2) (wh' := wh') (yss := yss) ⟨⟨⟨G1.out, G2.out⟩, G3.out, G4.out⟩, h3⟩)
            refine HVK.out.mono ?_
            rintro e w11 ⟨rfl, hb⟩
            have B11 := Lib.hid (below_tr B10.out hb)
            have R11 := Lib.hid (R10.out.below hb)
            have U11 := Lib.hid (U10.out.keep hb)
            have Z11 := Lib.hid hb.size
            obtain ⟨r0, r1, r2, r3, r4⟩ := four_cells R11.out
            have rf : ∀ q, w11.frozen? ⟨w.heap.size + 1 + 1 + 1 + 1, q, none⟩ = false := fun q => Joins.unfrozen_of_block R11.out q
            clear hb HVK
            go_wp2_with fail
            refine bodyPost_ret (v := .tuple #[.agg #[.int .i64 2, .int .i64 2, .int .i64 (wh * wh'), .slice xa xl xc], .bool true]) (by simp [results, Try.results73, go_sem, r0, r1, r2, r3]) rfl ?_
            rw [HE.out]
            refine ⟨_, rfl, ?_, ?_⟩
            · refine (U11.out.wrote (S := fun p => p.block < w.heap.size + 1 + 1 + 1 + 1 + 1) ?_ (fun p hp => .inl hp)).mono (by omega) (by have := Z11.out; simpa [World.setCell] using this)
              repeat (first | exact Wrote.refl _ _ | refine Wrote.setCell ?_ (by simp) _)
            · repeat (first | (with_reducible exact B11.out) | refine Below.setCell ?_ (by simp <;> omega) _)
          · have HVK := Lib.hid (make.valid_no 2 2 (wh * wh') _ _ w10 U10.out.rows HT.out (wrm.box_bad h3))
            have HE := Lib.hid (res_no (x := 2) (y := 2) (wh := wh) (xss := xss) (x' := 2) (y' := 2) (wh' := wh') (yss := yss) (f1 := f1) (k1 := k1) (s1 := s1) (f2 := f2) (k2 := k2) (s2 := s2) (fun h => h3 h.2))
            refine HVK.out.mono ?_
            rintro e w11 ⟨rfl, hb⟩
            have B11 := Lib.hid (below_tr B10.out hb)
            have R11 := Lib.hid (R10.out.below hb)
            obtain ⟨r0, r1, r2, r3, r4⟩ := four_cells R11.out
            have rf : ∀ q, w11.frozen? ⟨w.heap.size + 1 + 1 + 1 + 1, q, none⟩ = false := fun q => Joins.unfrozen_of_block R11.out q
            clear hb HVK
            go_wp2_with fail
            refine bodyPost_ret (v := .tuple #[.agg #[.int .i64 0, .int .i64 0, .int .i64 0, .slice none 0 0], .bool false]) (by simp [results, Try.results73, go_sem, r0, r1, r2, r3]) rfl ?_
            rw [HE.out]
            refine ⟨_, rfl, OwnRows.nil _ _ _, ?_⟩
            repeat (first | (with_reducible exact B11.out) | refine Below.setCell ?_ (by simp <;> omega) _)
        · simp only [ruleB_no g4] at CD
          have HD := Lib.hid CD
          have HE := Lib.hid (res_no (x := x) (y := y) (wh := wh) (xss := xss) (x' := x') (y' := y') (wh' := wh') (yss := yss) (f1 := f1) (k1 := k1) (s1 := s1) (f2 := f2) (k2 := k2) (s2 := s2) (fun h => g4 h.1.2.2))
          clear CA CB CC CD g1 g2 g3 g4
          go_enter Try.func73, Try.ntmps73
          obtain ⟨c0, c1, c2, c3, c4⟩ := four_cells P1.out
          go_wp2_with fail
          clear hw5
          refine HA.out.mono ?_
          rintro e w6 ⟨rfl, hb⟩
          have W6 := Lib.hid hb
          clear hb c0 c1 c2 c3 c4
          obtain ⟨c0, c1, c2, c3, c4⟩ := four_cells (P2.out.below W6.out)
          go_wp2_with fail
          refine (HB.out _ W6.out).mono ?_
          rintro e w7 ⟨rfl, hb⟩
          have W7 := Lib.hid (below_tr W6.out hb)
          clear hb c0 c1 c2 c3 c4
          obtain ⟨c0, c1, c2, c3⟩ := three_cells (P3.out.below W7.out)
          go_wp2_with fail
          refine (HC.out _ W7.out).mono ?_
          rintro e w8 ⟨rfl, hb⟩
          have W8 := Lib.hid (below_tr W7.out hb)
          clear hb c0 c1 c2 c3
          obtain ⟨c0, c1, c2, c3⟩ := three_cells (P4.out.below W8.out)
          go_wp2_with fail
          refine (HD.out _ W8.out).mono ?_
          rintro e w9 ⟨rfl, hb⟩
          have W9 := Lib.hid (below_tr W8.out hb)
          clear hb c0 c1 c2 c3
          have BW := Lib.hid (below_tr B5.out W9.out)
          have R9 := Lib.hid (P5.out.below W9.out)
          obtain ⟨r0, r1, r2, r3, r4⟩ := four_cells R9.out
          have rf : ∀ q, w9.frozen? ⟨w.heap.size + 1 + 1 + 1 + 1, q, none⟩ = false := fun q => Joins.unfrozen_of_block R9.out q
          go_wp2_with fail
          refine bodyPost_ret (v := .tuple #[.agg #[.int .i64 0, .int .i64 0, .int .i64 0, .slice none 0 0], .bool false]) (by simp [results, Try.results73, go_sem, r0, r1, r2, r3]) rfl ?_
          rw [HE.out]
          refine ⟨_, rfl, OwnRows.nil _ _ _, ?_⟩
          repeat (first | (with_reducible exact BW.out) | refine Below.setCell ?_ (by simp <;> omega) _)
      · simp only [ruleB_no g3] at CC
        have HC := Lib.hid CC
        have HE := Lib.hid (res_no (x := x) (y := y) (wh := wh) (xss := xss) (x' := x') (y' := y') (wh' := wh') (yss := yss) (f1 := f1) (k1 := k1) (s1 := s1) (f2 := f2) (k2 := k2) (s2 := s2) (fun h => g3 h.1.2.1))
        clear CA CB CC CD g1 g2 g3
        go_enter Try.func73, Try.ntmps73
        obtain ⟨c0, c1, c2, c3, c4⟩ := four_cells P1.out
        go_wp2_with fail
        clear hw5
        refine HA.out.mono ?_
        rintro e w6 ⟨rfl, hb⟩
        have W6 := Lib.hid hb
        clear hb c0 c1 c2 c3 c4
        obtain ⟨c0, c1, c2, c3, c4⟩ := four_cells (P2.out.below W6.out)
        go_wp2_with fail
        refine (HB.out _ W6.out).mono ?_
        rintro e w7 ⟨rfl, hb⟩
        have W7 := Lib.hid (below_tr W6.out hb)
        clear hb c0 c1 c2 c3 c4
        obtain ⟨c0, c1, c2, c3⟩ := three_cells (P3.out.below W7.out)
        go_wp2_with fail
        refine (HC.out _ W7.out).mono ?_
        rintro e w8 ⟨rfl, hb⟩
        have W8 := Lib.hid (below_tr W7.out hb)
        clear hb c0 c1 c2 c3
        have BW := Lib.hid (below_tr B5.out W8.out)
        have R9 := Lib.hid (P5.out.below W8.out)
        obtain ⟨r0, r1, r2, r3, r4⟩ := four_cells R9.out
        have rf : ∀ q, w8.frozen? ⟨w.heap.size + 1 + 1 + 1 + 1, q, none⟩ = false := fun q => Joins.unfrozen_of_block R9.out q
        go_wp2_with fail
        refine bodyPost_ret (v := .tuple #[.agg #[.int .i64 0, .int .i64 0, .int .i64 0, .slice none 0 0], .bool false]) (by simp [results, Try.results73, go_sem, r0, r1, r2, r3]) rfl ?_
        rw [HE.out]
        refine ⟨_, rfl, OwnRows.nil _ _ _, ?_⟩
        repeat (first | (with_reducible exact BW.out) | refine Below.setCell ?_ (by simp <;> omega) _)
    · simp only [twoB_no g2] at CB
      have HB := Lib.hid CB
      have HE := Lib.hid (res_no (x := x) (y := y) (wh := wh) (xss := xss) (x' := x') (y' := y') (wh' := wh') (yss := yss) (f1 := f1) (k1 := k1) (s1 := s1) (f2 := f2) (k2 := k2) (s2 := s2) (fun h => g2 h.1.1.2))
      clear CA CB CC CD g1 g2
      go_enter Try.func73, Try.ntmps73
      obtain ⟨c0, c1, c2, c3, c4⟩ := four_cells P1.out
      go_wp2_with fail
      clear hw5
      refine HA.out.mono ?_
      rintro e w6 ⟨rfl, hb⟩
      have W6 := Lib.hid hb
      clear hb c0 c1 c2 c3 c4
      obtain ⟨c0, c1, c2, c3, c4⟩ := four_cells (P2.out.below W6.out)
      go_wp2_with fail
      refine (HB.out _ W6.out).mono ?_
      rintro e w7 ⟨rfl, hb⟩
      have W7 := Lib.hid (below_tr W6.out hb)
      clear hb c0 c1 c2 c3 c4
      have BW := Lib.hid (below_tr B5.out W7.out)
      have R9 := Lib.hid (P5.out.below W7.out)
      obtain ⟨r0, r1, r2, r3, r4⟩ := four_cells R9.out
      have rf : ∀ q, w7.frozen? ⟨w.heap.size + 1 + 1 + 1 + 1, q, none⟩ = false := fun q => Joins.unfrozen_of_block R9.out q
      go_wp2_with fail
      refine bodyPost_ret (v := .tuple #[.agg #[.int .i64 0, .int .i64 0, .int .i64 0, .slice none 0 0], .bool false]) (by simp [results, Try.results73, go_sem, r0, r1, r2, r3]) rfl ?_
      rw [HE.out]
      refine ⟨_, rfl, OwnRows.nil _ _ _, ?_⟩
      repeat (first | (with_reducible exact BW.out) | refine Below.setCell ?_ (by simp <;> omega) _)
  · rw [twoB_no g1] at CA
    have HA := Lib.hid CA
    have HE := Lib.hid (res_no (x := x) (y := y) (wh := wh) (xss := xss) (x' := x') (y' := y') (wh' := wh') (yss := yss) (f1 := f1) (k1 := k1) (s1 := s1) (f2 := f2) (k2 := k2) (s2 := s2) (fun h => g1 h.1.1.1))
    clear CA CB CC CD g1
    go_enter Try.func73, Try.ntmps73
    obtain ⟨c0, c1, c2, c3, c4⟩ := four_cells P1.out
    go_wp2_with fail
    clear hw5
    refine HA.out.mono ?_
    rintro e w6 ⟨rfl, hb⟩
    have W6 := Lib.hid hb
    clear hb c0 c1 c2 c3 c4
    have BW := Lib.hid (below_tr B5.out W6.out)
    have R9 := Lib.hid (P5.out.below W6.out)
    obtain ⟨r0, r1, r2, r3, r4⟩ := four_cells R9.out
    have rf : ∀ q, w6.frozen? ⟨w.heap.size + 1 + 1 + 1 + 1, q, none⟩ = false := fun q => Joins.unfrozen_of_block R9.out q
    go_wp2_with fail
    refine bodyPost_ret (v := .tuple #[.agg #[.int .i64 0, .int .i64 0, .int .i64 0, .slice none 0 0], .bool false]) (by simp [results, Try.results73, go_sem, r0, r1, r2, r3]) rfl ?_
    rw [HE.out]
    refine ⟨_, rfl, OwnRows.nil _ _ _, ?_⟩
    repeat (first | (with_reducible exact BW.out) | refine Below.setCell ?_ (by simp <;> omega) _)


end Go.Proofs.Ytiigfhigmdjooaa.wir
