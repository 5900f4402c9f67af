/- SignGame of the program: the closure, the rows; validGame. -/
import Derived.Test.YtfkdhdiacelcjaaGvali
import Derived.Test.YtfkdhdiacelcjaaMake
namespace Go.Proofs.Ytfkdhdiacelcjaa.gsign
open Go.RowKit Go.Deep Go.Proofs.Ytfkdhdiacelcjaa.base
open Go.Proofs.Ytfkdhdiacelcjaa.ints (ret_int infoInt infoInts)
open Go.Proofs.Ytfkdhdiacelcjaa.rws (total)

/-- what two answers win: 1 - d, d, d, 1 - d, with d the number at the pair -/
def N (ds : List Int) (r k : Nat) : Int := if k = 1 ∨ k = 2 then ds.getD r 0 else 1 - ds.getD r 0
theorem at_nat (a Y c : Nat) : row.at_ (Y : Int) (a : Int) (c : Int) = a * Y + c := by
  unfold row.at_
  rw [← Int.natCast_mul, ← Int.natCast_add, Int.toNat_natCast]
set_option maxHeartbeats 1000000 in
theorem clo (p0 p1 : Nat) (X Y : Nat) (dv : Value) (ds : List Int) (a c : Nat) (w : World) (h0 : w.cell? ⟨p0, 0, none⟩ = some dv) (h1 : w.cell? ⟨p1, 0, none⟩ = some (.int .i64 (Y : Int))) (hd : Ints w dv ds) (hl : ds.length = X * Y) (hp : ∀ k (h : k < ds.length), 0 ≤ ds[k] ∧ ds[k] ≤ 1) (hX : X ≤ 3) (hY : Y ≤ 3) (ha : a < X) (hc : c < Y) :
    Calls Try.prog 61 #[.int .i64 (a : Int), .int .i64 (c : Int), .pointer (some ⟨p0, 0, none⟩), .pointer (some ⟨p1, 0, none⟩)] w fun e w' =>
      e = .returned (.agg #[.int .i64 (N ds (a * Y + c) 0), .int .i64 (N ds (a * Y + c) 1), .int .i64 (N ds (a * Y + c) 2), .int .i64 (N ds (a * Y + c) 3)]) ∧ Below w.heap.size w w' := by
  have hr : a * Y + c < ds.length := by
    have h1 : a * Y + c < (a + 1) * Y := by rw [Nat.add_mul]; omega
    have h2 : (a + 1) * Y ≤ X * Y := Nat.mul_le_mul_right _ (by omega)
    omega
  have h9 : X * Y ≤ 9 := Nat.mul_le_mul hX hY
  have hb := hp _ hr
  have hg : ds.getD (a * Y + c) 0 = ds[a * Y + c] := by simp [List.getD, hr]
  obtain ⟨A, b, o, cap, rfl, _, _, hA, hcell⟩ := hd.form
  obtain rfl := hA (by omega)
  have g1 := hcell _ hr
  unfold N
  rw [hg]
  generalize ds[a * Y + c] = d at *
  obtain ⟨r, hre⟩ : ∃ r, r = a * Y + c := ⟨_, rfl⟩
  rw [← hre] at g1 hr
  have e0 : (a : Int) * (Y : Int) = ((a * Y : Nat) : Int) := by simp
  have k1 : IntKind.i64.wrap ((a : Int) * (Y : Int)) = (a : Int) * (Y : Int) := IntWalk.i64_in _ (by rw [e0]; omega)
  have k2 : IntKind.i64.wrap ((a : Int) * (Y : Int) + (c : Int)) = (r : Int) := by rw [IntWalk.i64_in _ (by rw [e0]; omega), e0]; omega
  have k3 : IntKind.i64.wrap (1 - d) = 1 - d := IntWalk.i64_in _ (by omega)
  have i1 : (r : Int) < (ds.length : Int) := by omega
  have B0 := Lib.hid (below_al (Below.refl w.heap.size w) (.cells #[.int .i64 0, .int .i64 0, .int .i64 0, .int .i64 0] 74))
  have q0 := below_cell B0.out _ _ h0
  have q1 := below_cell B0.out _ _ h1
  have q2 := below_cell B0.out _ _ g1
  clear hcell hA hd hp hg h9 hl h0 h1 g1 hre e0
  go_enter Try.func61, Try.ntmps61
  go_wp2_with fail
  refine bodyPost_ret (v := .agg #[.int .i64 (1 - d), .int .i64 d, .int .i64 d, .int .i64 (1 - d)]) (by simp [results, Try.results61, go_sem]) rfl ⟨by simp, ?_⟩
  repeat (first | (with_reducible exact Below.refl _ _) | (with_reducible exact B0.out) | refine below_al ?_ _ | refine below_dr ?_ | refine Below.setCell ?_ (by simp <;> omega) _)

set_option maxHeartbeats 4000000 in
theorem make_anyR (p0 p1 : Nat) (X Y : Nat) (N : Nat → Nat → Int) (w : World) (hX : X ≤ 3) (hY : Y ≤ 3)
    (hrow : ∀ (i j : Nat) (W : World), i < X → j < Y → Below w.heap.size w W → Calls Try.prog 61 #[.int .i64 (i : Int), .int .i64 (j : Int), .pointer (some ⟨p0, 0, none⟩), .pointer (some ⟨p1, 0, none⟩)] W fun e w' =>
      e = .returned (.agg #[.int .i64 (N (i * Y + j) 0), .int .i64 (N (i * Y + j) 1), .int .i64 (N (i * Y + j) 2), .int .i64 (N (i * Y + j) 3)]) ∧ Below W.heap.size W w') :
    Calls Try.prog 60 #[.int .i64 (X : Int), .int .i64 (Y : Int), .func (.func 61) #[] #[.pointer (some ⟨p0, 0, none⟩), .pointer (some ⟨p1, 0, none⟩)]] w fun e w' => ∃ u, e = .returned u ∧
      OwnRows w' w.heap.size w'.heap.size u (make.rowsOf N (X * Y)) ∧ Below w.heap.size w w' := by
  obtain ⟨i0, hi, hz0, hz1, hz2⟩ := info_parts infoInts
  have h9 : X * Y ≤ 9 := Nat.mul_le_mul hX hY
  have hm : (X : Int) * (Y : Int) = ((X * Y : Nat) : Int) := by simp
  have hmk := app.mk0s (X * Y) (by omega)
  rw [← hm] at hmk
  have hw1 : IntKind.i64.wrap ((X : Int) * (Y : Int)) = (X : Int) * (Y : Int) := IntWalk.i64_in _ (by omega)
  have HM := Lib.hid hm
  have HR := Lib.hid hrow
  have P0 : Hid (pile.Pile w (w.alloc (.cells (madeCells #[.slice none 0 0] (X * Y)) 22)) w.heap.size (w.alloc (.cells (madeCells #[.slice none 0 0] (X * Y)) 22)).heap.size (.slice (some ⟨w.heap.size, 0, none⟩) 0 (X * Y)) [] (make.rowsOf N (0 * Y))) := Lib.hid (by
    rw [Nat.zero_mul]
    refine pile.start (below_al (Below.refl _ _) _) (Nat.le_refl _) ?_ (by simp)
    have := World.ownsRow_made (base := w.heap.size) (e := 22) (size := 1) w (madeCells #[.slice none 0 0] (X * Y)) (X * Y) (Nat.le_refl _) (by unfold maxLen; omega) (by simp [madeCells])
    simpa using this)
  clear hm hrow
  go_enter Try.func60, Try.ntmps60
  go_wp2_with fail
  clear hmk hw1
  go_loopw [7, 17] (fun v i wr => ∃ a : Nat, a ≤ X ∧ i = .int .i64 a ∧ ∃ vals, Hid (pile.Pile w wr w.heap.size wr.heap.size v vals (make.rowsOf N (a * Y)))) (fun _ i _ => X - (intOf i).toNat)
  case atStart => exact ⟨0, Nat.zero_le _, rfl, _, P0⟩
  case round =>
    obtain ⟨a, ha, rfl, vals, hP⟩ := hrel
    clear P0
    obtain ⟨wo, rfl⟩ : ∃ wo : World, wo = wr := ⟨_, rfl⟩
    by_cases hlt : a < X
    · have hkz : (a : Int) < (X : Int) := by omega
      go_wp2_with fail
      go_loopw [7, 21] (fun v j wi => ∃ c : Nat, c ≤ Y ∧ j = .int .i64 c ∧ ∃ vals, Hid (pile.Pile w wi w.heap.size wi.heap.size v vals (make.rowsOf N (a * Y + c)))) (fun _ j _ => Y - (intOf j).toNat)
      case atStart => exact ⟨0, Nat.zero_le _, rfl, _, hP⟩
      case round =>
        obtain ⟨c, hc, rfl, vals, hP⟩ := hrel
        obtain ⟨wi, rfl⟩ : ∃ wi : World, wi = wr := ⟨_, rfl⟩
        by_cases hlc : c < Y
        · have hkc : (c : Int) < (Y : Int) := by omega
          have HCA := Lib.hid (HR.out a c wi hlt hlc hP.out.below)
          have hk9 : a * Y + c < 9 := by
            have h1 : a * Y + c < (a + 1) * Y := by rw [Nat.add_mul]; omega
            have h2 : (a + 1) * Y ≤ X * Y := Nat.mul_le_mul_right _ (by omega)
            omega
          have HK9 := Lib.hid hk9
          have HLE := Lib.hid (make.len_rowsOf N (a * Y + c))
          clear hk9
          go_wp2_with fail
          refine HCA.out.mono ?_
          rintro e w2 ⟨rfl, hb⟩
          have W2 := Lib.hid (hP.out.keep hb)
          have hcp := row.copy4p (W := w2.alloc (.cells #[.int .i64 (N (a * Y + c) 0), .int .i64 (N (a * Y + c) 1), .int .i64 (N (a * Y + c) 2), .int .i64 (N (a * Y + c) 3)] 74)) (b := w2.heap.size) (o := 0) (cap := 4) (n := w2.heap.size + 1)
            (n0 := .int .i64 (N (a * Y + c) 0)) (n1 := .int .i64 (N (a * Y + c) 1)) (n2 := .int .i64 (N (a * Y + c) 2)) (n3 := .int .i64 (N (a * Y + c) 3)) #[.int .i64 0, .int .i64 0, .int .i64 0, .int .i64 0] 3 rfl (by simp)
            (by rw [Joins.cell_of_block (heap_alloc_new w2 _)]; rfl) (by rw [Joins.cell_of_block (heap_alloc_new w2 _)]; rfl) (by rw [Joins.cell_of_block (heap_alloc_new w2 _)]; rfl) (by rw [Joins.cell_of_block (heap_alloc_new w2 _)]; rfl) rfl rfl rfl rfl
          have hrowis : ((w2.alloc (.cells #[.int .i64 (N (a * Y + c) 0), .int .i64 (N (a * Y + c) 1), .int .i64 (N (a * Y + c) 2), .int .i64 (N (a * Y + c) 3)] 74)).alloc (.cells #[.int .i64 (N (a * Y + c) 0), .int .i64 (N (a * Y + c) 1), .int .i64 (N (a * Y + c) 2), .int .i64 (N (a * Y + c) 3)] 3)).rowIs (w2.heap.size + 1) 3 4 (fun j => .int .i64 ((make.quad N (a * Y + c)).getD j 0)) := by
            refine ⟨#[.int .i64 (N (a * Y + c) 0), .int .i64 (N (a * Y + c) 1), .int .i64 (N (a * Y + c) 2), .int .i64 (N (a * Y + c) 3)], by
              have := heap_alloc_new (w2.alloc (.cells #[.int .i64 (N (a * Y + c) 0), .int .i64 (N (a * Y + c) 1), .int .i64 (N (a * Y + c) 2), .int .i64 (N (a * Y + c) 3)] 74)) (.cells #[.int .i64 (N (a * Y + c) 0), .int .i64 (N (a * Y + c) 1), .int .i64 (N (a * Y + c) 2), .int .i64 (N (a * Y + c) 3)] 3)
              simpa using this, rfl, fun i hi => ?_⟩
            match i, hi with
            | 0, _ => rfl
            | 1, _ => rfl
            | 2, _ => rfl
            | 3, _ => rfl
          have HRI := Lib.hid (hrowis.alloc (.cells #[.slice (some ⟨w2.heap.size + 1, 0, none⟩) 4 4] 22))
          have P3 := Lib.hid (((W2.out.keep (below_al (Below.refl _ _) (.cells #[.int .i64 (N (a * Y + c) 0), .int .i64 (N (a * Y + c) 1), .int .i64 (N (a * Y + c) 2), .int .i64 (N (a * Y + c) 3)] 74))).keep (below_al (Below.refl _ _) (.cells #[.int .i64 (N (a * Y + c) 0), .int .i64 (N (a * Y + c) 1), .int .i64 (N (a * Y + c) 2), .int .i64 (N (a * Y + c) 3)] 3))).keep (below_al (Below.refl _ _) (.cells #[.slice (some ⟨w2.heap.size + 1, 0, none⟩) 4 4] 22)))
          have hm4 := make.mk4
          have hsz := hb.size
          have hsw := W2.out.below.size
          clear hb hP HCA hrowis W2
          go_wp2_with (at_builtin; go_must (refine wpList_append_own _ rfl (.tmp 32) (.tmp 34) 23 rfl w.heap.size 22 i0 (.slice none 0 0) 1 24 Try.underlying23 hi hz0 hz1 hz2 rfl (by decide) _ _ _ rfl P3.out.owns ⟨w2.heap.size + 1 + 1, 0, none⟩ 1 1 [.slice (some ⟨w2.heap.size + 1, 0, none⟩) 4 4] rfl rfl ?c1 ?c2 ?c3 ?c4 ?c5 ?_))
          case c1 =>
            have := app.one_at ((w2.alloc (.cells #[.int .i64 (N (a * Y + c) 0), .int .i64 (N (a * Y + c) 1), .int .i64 (N (a * Y + c) 2), .int .i64 (N (a * Y + c) 3)] 74)).alloc (.cells #[.int .i64 (N (a * Y + c) 0), .int .i64 (N (a * Y + c) 1), .int .i64 (N (a * Y + c) 2), .int .i64 (N (a * Y + c) 3)] 3)) (.slice (some ⟨w2.heap.size + 1, 0, none⟩) 4 4) 22
            simpa using this
          case c2 => intro u hu; simp at hu; subst hu; rfl
          case c3 => rw [HLE.out]; have := HK9.out; unfold maxLen; omega
          case c4 => rw [HLE.out]; have := HK9.out; omega
          case c5 => simp; omega
          intro v' w3 hown' hgrow _
          have P4 : Hid (pile.Pile w w3 w.heap.size w3.heap.size v' (vals ++ [.slice (some ⟨w2.heap.size + 1, 0, none⟩) 4 4]) (make.rowsOf N (a * Y + (c + 1)))) := Lib.hid (by
            have e : make.rowsOf N (a * Y + (c + 1)) = make.rowsOf N (a * Y + c) ++ [make.quad N (a * Y + c)] := by simp [make.rowsOf, ← Nat.add_assoc, List.range_succ]
            rw [e]
            refine P3.out.grow (m' := w2.heap.size + 1) (T := w2.heap.size + 1 + 1) (ints.own_of_row (xs := make.quad N (a * Y + c)) HRI.out (Nat.le_refl _) (by omega) (by simp [make.quad, maxLen])) (by omega) (by simp) (pile.typ_row HRI.out _ _) hown' hgrow)
          obtain ⟨va, vl, vc, rfl⟩ := make.shape hown'
          clear hown' hgrow P3 HRI hcp hm4
          go_wp2_with fail
          go_roundw
          case rel => exact ⟨c + 1, by omega, by go_num, _, P4⟩
          case measure => simp [intOf]; omega
        · have hkc : ¬ (c : Int) < (Y : Int) := by omega
          obtain rfl : c = Y := by omega
          go_wp2_with fail
          go_roundw
          case rel => exact ⟨a + 1, by omega, by go_num, vals, by rw [Nat.add_mul, Nat.one_mul]; exact hP⟩
          case measure => simp [intOf]; omega
    · have hkz : ¬ (a : Int) < (X : Int) := by omega
      obtain rfl : a = X := by omega
      obtain ⟨va, vl, vc, rfl⟩ := make.shape hP.out.owns
      go_wp2_with fail
      go_ret
      exact ⟨_, rfl, hP.out.rows, hP.out.below⟩

set_option maxHeartbeats 1000000 in
theorem valid_yes (x y : Int) (wv : Value) (ws : List Int) (v : Value) (xss : List (List Int)) (w : World) (h : game.GV w wv ws v xss) (hn : ws.length ≤ 1048576) (hm : total xss ≤ 1048576) (hok : gval.okGame x y ws xss) :
    Calls Try.prog 62 #[.agg #[.int .i64 x, .int .i64 y, wv, v]] w fun e w' => e = .returned (.tuple #[.agg #[.int .i64 x, .int .i64 y, wv, v], .bool true]) ∧ Below w.heap.size w w' := by
  obtain ⟨wa, wn, wc, va, vn, vc, rfl, rfl⟩ := h.shape
  have K0 := Lib.hid ((Blk.new w 25 #[.int .i64 x, .int .i64 y, .slice wa wn wc, .slice va vn vc]).alloc (.cells #[.int .i64 0, .int .i64 0, .slice none 0 0, .slice none 0 0] 25))
  have R0 : Hid (Blk ((w.alloc (.cells #[.int .i64 x, .int .i64 y, .slice wa wn wc, .slice va vn vc] 25)).alloc (.cells #[.int .i64 0, .int .i64 0, .slice none 0 0, .slice none 0 0] 25)) (w.heap.size + 1) 25 #[.int .i64 0, .int .i64 0, .slice none 0 0, .slice none 0 0]) := Lib.hid (by
    have := Blk.new (w.alloc (.cells #[.int .i64 x, .int .i64 y, .slice wa wn wc, .slice va vn vc] 25)) 25 #[.int .i64 0, .int .i64 0, .slice none 0 0, .slice none 0 0]
    simpa using this)
  have hr := gval.impl_any x y _ ws _ xss _ (h.below (below_al (below_al (Below.refl _ _) (.cells #[.int .i64 x, .int .i64 y, .slice wa wn wc, .slice va vn vc] 25)) (.cells #[.int .i64 0, .int .i64 0, .slice none 0 0, .slice none 0 0] 25))) hn hm
  rw [gval.gameB_yes hok] at hr
  have HR := Lib.hid hr
  clear h hr hok
  go_enter Try.func62, Try.ntmps62
  go_wp2_with fail
  refine HR.out.mono ?_
  rintro e w1 ⟨rfl, hb⟩
  have B1 := Lib.hid (below_tr (below_al (below_al (Below.refl _ _) _) _) hb)
  have K1 := Lib.hid (K0.out.below hb)
  have R1 := Lib.hid (R0.out.below hb)
  obtain ⟨c0, c1, c2, c3, c4⟩ := four_cells K1.out
  obtain ⟨r0, r1, r2, r3, r4⟩ := four_cells R1.out
  have rf : ∀ k, w1.frozen? ⟨w.heap.size + 1, k, none⟩ = false := fun k => Joins.unfrozen_of_block R1.out k
  clear hb HR K0 R0
  go_wp2_with fail
  refine bodyPost_ret (v := .tuple #[.agg #[.int .i64 x, .int .i64 y, .slice wa wn wc, .slice va vn vc], .bool true]) (by simp [results, Try.results62, go_sem, r0, r1, r2, r3]) rfl ⟨rfl, ?_⟩
  repeat (refine Below.setCell ?_ (by simp <;> omega) _)
  exact B1.out



set_option maxHeartbeats 1000000 in
theorem valid_no (x y : Int) (wv : Value) (ws : List Int) (v : Value) (xss : List (List Int)) (w : World) (h : game.GV w wv ws v xss) (hn : ws.length ≤ 1048576) (hm : total xss ≤ 1048576) (hok : ¬ gval.okGame x y ws xss) :
    Calls Try.prog 62 #[.agg #[.int .i64 x, .int .i64 y, wv, v]] w fun e w' => e = .returned (.tuple #[.agg #[.int .i64 0, .int .i64 0, .slice none 0 0, .slice none 0 0], .bool false]) ∧ Below w.heap.size w w' := by
  obtain ⟨wa, wn, wc, va, vn, vc, rfl, rfl⟩ := h.shape
  have R0 : Hid (Blk ((w.alloc (.cells #[.int .i64 x, .int .i64 y, .slice wa wn wc, .slice va vn vc] 25)).alloc (.cells #[.int .i64 0, .int .i64 0, .slice none 0 0, .slice none 0 0] 25)) (w.heap.size + 1) 25 #[.int .i64 0, .int .i64 0, .slice none 0 0, .slice none 0 0]) := Lib.hid (by
    have := Blk.new (w.alloc (.cells #[.int .i64 x, .int .i64 y, .slice wa wn wc, .slice va vn vc] 25)) 25 #[.int .i64 0, .int .i64 0, .slice none 0 0, .slice none 0 0]
    simpa using this)
  have hr := gval.impl_any x y _ ws _ xss _ (h.below (below_al (below_al (Below.refl _ _) (.cells #[.int .i64 x, .int .i64 y, .slice wa wn wc, .slice va vn vc] 25)) (.cells #[.int .i64 0, .int .i64 0, .slice none 0 0, .slice none 0 0] 25))) hn hm
  rw [gval.gameB_no hok] at hr
  have HR := Lib.hid hr
  clear h hr hok
  go_enter Try.func62, Try.ntmps62
  go_wp2_with fail
  refine HR.out.mono ?_
  rintro e w1 ⟨rfl, hb⟩
  have B1 := Lib.hid (below_tr (below_al (below_al (Below.refl _ _) _) _) hb)
  have R1 := Lib.hid (R0.out.below hb)
  obtain ⟨r0, r1, r2, r3, r4⟩ := four_cells R1.out
  have rf : ∀ k, w1.frozen? ⟨w.heap.size + 1, k, none⟩ = false := fun k => Joins.unfrozen_of_block R1.out k
  clear hb HR R0
  go_wp2_with fail
  refine bodyPost_ret (v := .tuple #[.agg #[.int .i64 0, .int .i64 0, .slice none 0 0, .slice none 0 0], .bool false]) (by simp [results, Try.results62, go_sem, r0, r1, r2, r3]) rfl ⟨rfl, ?_⟩
  repeat (refine Below.setCell ?_ (by simp <;> omega) _)
  exact B1.out



end Go.Proofs.Ytfkdhdiacelcjaa.gsign
