/- PairOf of the program. -/
import Derived.Test.YtomofmmecpdalaaTrl
import Derived.Test.YtomofmmecpdalaaMake
import Derived.Test.YtomofmmecpdalaaRow
import Derived.Laws.EntriesVeiled
namespace Go.Proofs.Ytomofmmecpdalaa.tpa
open Go.RowKit Go.Deep Go.Proofs.Ytomofmmecpdalaa.base
open Go.Proofs.Ytomofmmecpdalaa.ints (infoInts)
open Go.Proofs.Ytomofmmecpdalaa.rws (total)
open Go.Proofs.Ytomofmmecpdalaa.tri (two_cells)
open Go.Proofs.Ytomofmmecpdalaa.tro (ins oth)
open Go.Proofs.Ytomofmmecpdalaa.trq (quiet quB quB_yes quB_no resQ resQ_yes resQ_no)
open Go.Proofs.Ytomofmmecpdalaa.trv (okTrio trioB trioB_yes trioB_no)

def NP (xss : List (List Int)) (p k a : Nat) : Int := oth xss p (ins p 0 k) a
def good (wh : Int) (xss : List (List Int)) (out : Int) : Prop := okTrio wh xss ∧ quiet xss ∧ 0 ≤ out ∧ out ≤ 2
open Classical in
noncomputable def res (wh : Int) (xss : List (List Int)) (out : Int) : make.Res := if good wh xss out then ⟨2, 2, wh, make.rowsOf (NP xss out.toNat) 4, true⟩ else make.Res.zero
theorem res_yes {wh : Int} {xss : List (List Int)} {out : Int} (h : good wh xss out) : res wh xss out = ⟨2, 2, wh, make.rowsOf (NP xss out.toNat) 4, true⟩ := if_pos h
theorem res_no {wh : Int} {xss : List (List Int)} {out : Int} (h : ¬ good wh xss out) : res wh xss out = make.Res.zero := if_neg h
theorem tot_res (wh : Int) (xss : List (List Int)) (out : Int) : total (res wh xss out).rows ≤ 1048576 := by
  by_cases h : good wh xss out
  · rw [res_yes h]; exact make.total_rowsOf _ 4 (by omega)
  · rw [res_no h]; simp [make.Res.zero, total]

set_option maxHeartbeats 2000000 in
theorem closure0 (p0 p1 : Nat) (wh : Int) (v : Value) (xss : List (List Int)) (i j : Nat) (w : World) (hi : i < 2) (hj : j < 2) (h0 : w.cell? ⟨p0, 0, none⟩ = some (.int .i64 wh)) (h1 : w.cell? ⟨p0, 1, none⟩ = some v) (h2 : w.cell? ⟨p1, 0, none⟩ = some (.int .i64 0)) (h : IRows w v xss) (hok : okTrio wh xss) :
    Calls Try.prog 95 #[.int .i64 (i : Int), .int .i64 (j : Int), .pointer (some ⟨p0, 0, none⟩), .pointer (some ⟨p1, 0, none⟩)] w fun e w' => e = .returned (.agg #[.int .i64 (NP xss 0 (i * 2 + j) 0), .int .i64 (NP xss 0 (i * 2 + j) 1), .int .i64 (NP xss 0 (i * 2 + j) 2), .int .i64 (NP xss 0 (i * 2 + j) 3)]) ∧ Below w.heap.size w w' := by
  obtain ⟨va, vn, vc, rfl⟩ := h.shape
  have al := below_al (Below.refl w.heap.size w) (.cells #[.int .i64 0, .int .i64 0, .int .i64 0, .int .i64 0] 92)
  have HB := Lib.hid al
  have K0 := Lib.hid (Blk.new w 92 #[.int .i64 0, .int .i64 0, .int .i64 0, .int .i64 0])
  have HR := Lib.hid (tro.row0 wh _ xss 0 (i : Int) (j : Int) (ins 0 0 (i * 2 + j)) _ (h.below al) hok (by omega) (by omega) (by omega) (by simp [ins]; omega))
  have x0 := below_cell al _ _ h0
  have x1 := below_cell al _ _ h1
  have x2 := below_cell al _ _ h2
  clear al h0 h1 h2 h hok
  go_enter Try.func95, Try.ntmps95
  go_wp2_with fail
  refine HR.out.mono ?_
  rintro e w1 ⟨rfl, hb⟩
  have B1 := Lib.hid (below_tr HB.out hb)
  have K1 := Lib.hid (K0.out.below hb)
  obtain ⟨r0, r1, r2, r3, r4⟩ := four_cells K1.out
  have rf : ∀ k, w1.frozen? ⟨w.heap.size, k, none⟩ = false := fun k => Joins.unfrozen_of_block K1.out k
  clear hb x0 x1 x2 HR
  go_wp2_with fail
  refine bodyPost_ret (v := .agg #[.int .i64 (NP xss 0 (i * 2 + j) 0), .int .i64 (NP xss 0 (i * 2 + j) 1), .int .i64 (NP xss 0 (i * 2 + j) 2), .int .i64 (NP xss 0 (i * 2 + j) 3)]) (by simp [results, Try.results95, go_sem, r0, r1, r2, r3, NP]) rfl ⟨rfl, ?_⟩
  repeat (first | (with_reducible exact B1.out) | (with_reducible refine Below.setCell ?_ (by simp <;> omega) _))

set_option maxHeartbeats 2000000 in
theorem closure1 (p0 p1 : Nat) (wh : Int) (v : Value) (xss : List (List Int)) (i j : Nat) (w : World) (hi : i < 2) (hj : j < 2) (h0 : w.cell? ⟨p0, 0, none⟩ = some (.int .i64 wh)) (h1 : w.cell? ⟨p0, 1, none⟩ = some v) (h2 : w.cell? ⟨p1, 0, none⟩ = some (.int .i64 1)) (h : IRows w v xss) (hok : okTrio wh xss) :
    Calls Try.prog 95 #[.int .i64 (i : Int), .int .i64 (j : Int), .pointer (some ⟨p0, 0, none⟩), .pointer (some ⟨p1, 0, none⟩)] w fun e w' => e = .returned (.agg #[.int .i64 (NP xss 1 (i * 2 + j) 0), .int .i64 (NP xss 1 (i * 2 + j) 1), .int .i64 (NP xss 1 (i * 2 + j) 2), .int .i64 (NP xss 1 (i * 2 + j) 3)]) ∧ Below w.heap.size w w' := by
  obtain ⟨va, vn, vc, rfl⟩ := h.shape
  have al := below_al (Below.refl w.heap.size w) (.cells #[.int .i64 0, .int .i64 0, .int .i64 0, .int .i64 0] 92)
  have HB := Lib.hid al
  have K0 := Lib.hid (Blk.new w 92 #[.int .i64 0, .int .i64 0, .int .i64 0, .int .i64 0])
  have HR := Lib.hid (tro.row1 wh _ xss 0 (i : Int) (j : Int) (ins 1 0 (i * 2 + j)) _ (h.below al) hok (by omega) (by omega) (by omega) (by simp [ins]; omega))
  have x0 := below_cell al _ _ h0
  have x1 := below_cell al _ _ h1
  have x2 := below_cell al _ _ h2
  clear al h0 h1 h2 h hok
  go_enter Try.func95, Try.ntmps95
  go_wp2_with fail
  refine HR.out.mono ?_
  rintro e w1 ⟨rfl, hb⟩
  have B1 := Lib.hid (below_tr HB.out hb)
  have K1 := Lib.hid (K0.out.below hb)
  obtain ⟨r0, r1, r2, r3, r4⟩ := four_cells K1.out
  have rf : ∀ k, w1.frozen? ⟨w.heap.size, k, none⟩ = false := fun k => Joins.unfrozen_of_block K1.out k
  clear hb x0 x1 x2 HR
  go_wp2_with fail
  refine bodyPost_ret (v := .agg #[.int .i64 (NP xss 1 (i * 2 + j) 0), .int .i64 (NP xss 1 (i * 2 + j) 1), .int .i64 (NP xss 1 (i * 2 + j) 2), .int .i64 (NP xss 1 (i * 2 + j) 3)]) (by simp [results, Try.results95, go_sem, r0, r1, r2, r3, NP]) rfl ⟨rfl, ?_⟩
  repeat (first | (with_reducible exact B1.out) | (with_reducible refine Below.setCell ?_ (by simp <;> omega) _))

set_option maxHeartbeats 2000000 in
theorem closure2 (p0 p1 : Nat) (wh : Int) (v : Value) (xss : List (List Int)) (i j : Nat) (w : World) (hi : i < 2) (hj : j < 2) (h0 : w.cell? ⟨p0, 0, none⟩ = some (.int .i64 wh)) (h1 : w.cell? ⟨p0, 1, none⟩ = some v) (h2 : w.cell? ⟨p1, 0, none⟩ = some (.int .i64 2)) (h : IRows w v xss) (hok : okTrio wh xss) :
    Calls Try.prog 95 #[.int .i64 (i : Int), .int .i64 (j : Int), .pointer (some ⟨p0, 0, none⟩), .pointer (some ⟨p1, 0, none⟩)] w fun e w' => e = .returned (.agg #[.int .i64 (NP xss 2 (i * 2 + j) 0), .int .i64 (NP xss 2 (i * 2 + j) 1), .int .i64 (NP xss 2 (i * 2 + j) 2), .int .i64 (NP xss 2 (i * 2 + j) 3)]) ∧ Below w.heap.size w w' := by
  obtain ⟨va, vn, vc, rfl⟩ := h.shape
  have al := below_al (Below.refl w.heap.size w) (.cells #[.int .i64 0, .int .i64 0, .int .i64 0, .int .i64 0] 92)
  have HB := Lib.hid al
  have K0 := Lib.hid (Blk.new w 92 #[.int .i64 0, .int .i64 0, .int .i64 0, .int .i64 0])
  have HR := Lib.hid (tro.row2 wh _ xss 0 (i : Int) (j : Int) (ins 2 0 (i * 2 + j)) _ (h.below al) hok (by omega) (by omega) (by omega) (by simp [ins]; omega))
  have x0 := below_cell al _ _ h0
  have x1 := below_cell al _ _ h1
  have x2 := below_cell al _ _ h2
  clear al h0 h1 h2 h hok
  go_enter Try.func95, Try.ntmps95
  go_wp2_with fail
  refine HR.out.mono ?_
  rintro e w1 ⟨rfl, hb⟩
  have B1 := Lib.hid (below_tr HB.out hb)
  have K1 := Lib.hid (K0.out.below hb)
  obtain ⟨r0, r1, r2, r3, r4⟩ := four_cells K1.out
  have rf : ∀ k, w1.frozen? ⟨w.heap.size, k, none⟩ = false := fun k => Joins.unfrozen_of_block K1.out k
  clear hb x0 x1 x2 HR
  go_wp2_with fail
  refine bodyPost_ret (v := .agg #[.int .i64 (NP xss 2 (i * 2 + j) 0), .int .i64 (NP xss 2 (i * 2 + j) 1), .int .i64 (NP xss 2 (i * 2 + j) 2), .int .i64 (NP xss 2 (i * 2 + j) 3)]) (by simp [results, Try.results95, go_sem, r0, r1, r2, r3, NP]) rfl ⟨rfl, ?_⟩
  repeat (first | (with_reducible exact B1.out) | (with_reducible refine Below.setCell ?_ (by simp <;> omega) _))

theorem closure (p0 p1 p : Nat) (wh : Int) (v : Value) (xss : List (List Int)) (i j : Nat) (w : World) (hp : p < 3) (hi : i < 2) (hj : j < 2) (h0 : w.cell? ⟨p0, 0, none⟩ = some (.int .i64 wh)) (h1 : w.cell? ⟨p0, 1, none⟩ = some v) (h2 : w.cell? ⟨p1, 0, none⟩ = some (.int .i64 (p : Int))) (h : IRows w v xss) (hok : okTrio wh xss) :
    Calls Try.prog 95 #[.int .i64 (i : Int), .int .i64 (j : Int), .pointer (some ⟨p0, 0, none⟩), .pointer (some ⟨p1, 0, none⟩)] w fun e w' => e = .returned (.agg #[.int .i64 (NP xss p (i * 2 + j) 0), .int .i64 (NP xss p (i * 2 + j) 1), .int .i64 (NP xss p (i * 2 + j) 2), .int .i64 (NP xss p (i * 2 + j) 3)]) ∧ Below w.heap.size w w' := by
  obtain rfl | rfl | rfl : p = 0 ∨ p = 1 ∨ p = 2 := by omega
  · exact closure0 p0 p1 wh v xss i j w hi hj h0 h1 h2 h hok
  · exact closure1 p0 p1 wh v xss i j w hi hj h0 h1 h2 h hok
  · exact closure2 p0 p1 wh v xss i j w hi hj h0 h1 h2 h hok
theorem player_yes (a : Int) (w : World) (h : 0 ≤ a ∧ a ≤ 2) : Calls Try.prog 68 #[.int .i64 a] w fun e w' => e = .returned (.bool true) ∧ w = w' := by
  obtain ⟨h1, h2⟩ := h
  have d1 : decide (0 ≤ a) = true := by simp [h1]
  have d2 : decide (a < 3) = true := by simp; omega
  go_enter Try.func68, Try.ntmps68
  go_wp2
  go_ret
  exact ⟨rfl, rfl⟩
theorem player_no (a : Int) (w : World) (h : ¬ (0 ≤ a ∧ a ≤ 2)) : Calls Try.prog 68 #[.int .i64 a] w fun e w' => e = .returned (.bool false) ∧ w = w' := by
  by_cases h1 : 0 ≤ a
  · have d1 : decide (0 ≤ a) = true := by simp [h1]
    have d2 : decide (a < 3) = false := by simp; omega
    clear h
    go_enter Try.func68, Try.ntmps68
    go_wp2
    go_ret
    exact ⟨rfl, rfl⟩
  · have d1 : decide (0 ≤ a) = false := by simp; omega
    clear h
    go_enter Try.func68, Try.ntmps68
    go_wp2
    go_ret
    exact ⟨rfl, rfl⟩

set_option maxHeartbeats 4000000 in
theorem makesR (p0 p1 : Nat) (X Y : Nat) (N : Nat → Nat → Int) (w : World) (hX : X ≤ 3) (hY : Y ≤ 3)
    (hrow : ∀ (i j : Nat) (W : World), i < X → j < Y → Below w.heap.size w W → Calls Try.prog 95 #[.int .i64 (i : Int), .int .i64 (j : Int), .pointer (some ⟨p0, 0, none⟩), .pointer (some ⟨p1, 0, none⟩)] W fun e w' =>
      e = .returned (.agg #[.int .i64 (N (i * Y + j) 0), .int .i64 (N (i * Y + j) 1), .int .i64 (N (i * Y + j) 2), .int .i64 (N (i * Y + j) 3)]) ∧ Below W.heap.size W w') :
    Calls Try.prog 107 #[.int .i64 (X : Int), .int .i64 (Y : Int), .func (.func 95) #[] #[.pointer (some ⟨p0, 0, none⟩), .pointer (some ⟨p1, 0, none⟩)]] w fun e w' => ∃ u, e = .returned u ∧
      OwnRows w' w.heap.size w'.heap.size u (make.rowsOf N (X * Y)) ∧ Below w.heap.size w w' := by
  obtain ⟨i0, hi, hz0, hz1, hz2⟩ := info_parts infoInts
  have h9 : X * Y ≤ 9 := Nat.mul_le_mul hX hY
  have hm : (X : Int) * (Y : Int) = ((X * Y : Nat) : Int) := by simp
  have hmk := app.mk0s (X * Y) (by omega)
  rw [← hm] at hmk
  have hw1 : IntKind.i64.wrap ((X : Int) * (Y : Int)) = (X : Int) * (Y : Int) := IntWalk.i64_in _ (by omega)
  have HM := Lib.hid hm
  have HR := Lib.hid hrow
  have P0 : Hid (pile.Pile w (w.alloc (.cells (madeCells #[.slice none 0 0] (X * Y)) 33)) w.heap.size (w.alloc (.cells (madeCells #[.slice none 0 0] (X * Y)) 33)).heap.size (.slice (some ⟨w.heap.size, 0, none⟩) 0 (X * Y)) [] (make.rowsOf N (0 * Y))) := Lib.hid (by
    rw [Nat.zero_mul]
    refine pile.start (below_al (Below.refl _ _) _) (Nat.le_refl _) ?_ (by simp)
    have := World.ownsRow_made (base := w.heap.size) (e := 33) (size := 1) w (madeCells #[.slice none 0 0] (X * Y)) (X * Y) (Nat.le_refl _) (by unfold maxLen; omega) (by simp [madeCells])
    simpa using this)
  clear hm hrow
  go_enter Try.func107, Try.ntmps107
  go_wp2_with fail
  clear hmk hw1
  go_loopw [7, 17] (fun v i wr => ∃ a : Nat, a ≤ X ∧ i = .int .i64 a ∧ ∃ vals, Hid (pile.Pile w wr w.heap.size wr.heap.size v vals (make.rowsOf N (a * Y)))) (fun _ i _ => X - (intOf i).toNat)
  case atStart => exact ⟨0, Nat.zero_le _, rfl, _, P0⟩
  case round =>
    obtain ⟨a, ha, rfl, vals, hP⟩ := hrel
    clear P0
    obtain ⟨wo, rfl⟩ : ∃ wo : World, wo = wr := ⟨_, rfl⟩
    by_cases hlt : a < X
    · have hkz : (a : Int) < (X : Int) := by omega
      go_wp2_with fail
      go_loopw [7, 21] (fun v j wi => ∃ c : Nat, c ≤ Y ∧ j = .int .i64 c ∧ ∃ vals, Hid (pile.Pile w wi w.heap.size wi.heap.size v vals (make.rowsOf N (a * Y + c)))) (fun _ j _ => Y - (intOf j).toNat)
      case atStart => exact ⟨0, Nat.zero_le _, rfl, _, hP⟩
      case round =>
        obtain ⟨c, hc, rfl, vals, hP⟩ := hrel
        obtain ⟨wi, rfl⟩ : ∃ wi : World, wi = wr := ⟨_, rfl⟩
        by_cases hlc : c < Y
        · have hkc : (c : Int) < (Y : Int) := by omega
          have HCA := Lib.hid (HR.out a c wi hlt hlc hP.out.below)
          have hk9 : a * Y + c < 9 := by
            have h1 : a * Y + c < (a + 1) * Y := by rw [Nat.add_mul]; omega
            have h2 : (a + 1) * Y ≤ X * Y := Nat.mul_le_mul_right _ (by omega)
            omega
          have HK9 := Lib.hid hk9
          have HLE := Lib.hid (make.len_rowsOf N (a * Y + c))
          clear hk9
          go_wp2_with fail
          refine HCA.out.mono ?_
          rintro e w2 ⟨rfl, hb⟩
          have W2 := Lib.hid (hP.out.keep hb)
          have hcp := row.copy4p (W := w2.alloc (.cells #[.int .i64 (N (a * Y + c) 0), .int .i64 (N (a * Y + c) 1), .int .i64 (N (a * Y + c) 2), .int .i64 (N (a * Y + c) 3)] 92)) (b := w2.heap.size) (o := 0) (cap := 4) (n := w2.heap.size + 1)
            (n0 := .int .i64 (N (a * Y + c) 0)) (n1 := .int .i64 (N (a * Y + c) 1)) (n2 := .int .i64 (N (a * Y + c) 2)) (n3 := .int .i64 (N (a * Y + c) 3)) #[.int .i64 0, .int .i64 0, .int .i64 0, .int .i64 0] 3 rfl (by simp)
            (by rw [Joins.cell_of_block (heap_alloc_new w2 _)]; rfl) (by rw [Joins.cell_of_block (heap_alloc_new w2 _)]; rfl) (by rw [Joins.cell_of_block (heap_alloc_new w2 _)]; rfl) (by rw [Joins.cell_of_block (heap_alloc_new w2 _)]; rfl) rfl rfl rfl rfl
          have hrowis : ((w2.alloc (.cells #[.int .i64 (N (a * Y + c) 0), .int .i64 (N (a * Y + c) 1), .int .i64 (N (a * Y + c) 2), .int .i64 (N (a * Y + c) 3)] 92)).alloc (.cells #[.int .i64 (N (a * Y + c) 0), .int .i64 (N (a * Y + c) 1), .int .i64 (N (a * Y + c) 2), .int .i64 (N (a * Y + c) 3)] 3)).rowIs (w2.heap.size + 1) 3 4 (fun j => .int .i64 ((make.quad N (a * Y + c)).getD j 0)) := by
            refine ⟨#[.int .i64 (N (a * Y + c) 0), .int .i64 (N (a * Y + c) 1), .int .i64 (N (a * Y + c) 2), .int .i64 (N (a * Y + c) 3)], by
              have := heap_alloc_new (w2.alloc (.cells #[.int .i64 (N (a * Y + c) 0), .int .i64 (N (a * Y + c) 1), .int .i64 (N (a * Y + c) 2), .int .i64 (N (a * Y + c) 3)] 92)) (.cells #[.int .i64 (N (a * Y + c) 0), .int .i64 (N (a * Y + c) 1), .int .i64 (N (a * Y + c) 2), .int .i64 (N (a * Y + c) 3)] 3)
              simpa using this, rfl, fun i hi => ?_⟩
            match i, hi with
            | 0, _ => rfl
            | 1, _ => rfl
            | 2, _ => rfl
            | 3, _ => rfl
          have HRI := Lib.hid (hrowis.alloc (.cells #[.slice (some ⟨w2.heap.size + 1, 0, none⟩) 4 4] 33))
          have P3 := Lib.hid (((W2.out.keep (below_al (Below.refl _ _) (.cells #[.int .i64 (N (a * Y + c) 0), .int .i64 (N (a * Y + c) 1), .int .i64 (N (a * Y + c) 2), .int .i64 (N (a * Y + c) 3)] 92))).keep (below_al (Below.refl _ _) (.cells #[.int .i64 (N (a * Y + c) 0), .int .i64 (N (a * Y + c) 1), .int .i64 (N (a * Y + c) 2), .int .i64 (N (a * Y + c) 3)] 3))).keep (below_al (Below.refl _ _) (.cells #[.slice (some ⟨w2.heap.size + 1, 0, none⟩) 4 4] 33)))
          have hm4 := make.mk4
          have hsz := hb.size
          have hsw := W2.out.below.size
          clear hb hP HCA hrowis W2
          go_wp2_with (at_builtin; go_must (refine wpList_append_own _ rfl (.tmp 32) (.tmp 34) 22 rfl w.heap.size 33 i0 (.slice none 0 0) 1 24 Try.underlying22 hi hz0 hz1 hz2 rfl (by decide) _ _ _ rfl P3.out.owns ⟨w2.heap.size + 1 + 1, 0, none⟩ 1 1 [.slice (some ⟨w2.heap.size + 1, 0, none⟩) 4 4] rfl rfl ?c1 ?c2 ?c3 ?c4 ?c5 ?_))
          case c1 =>
            have := app.one_at ((w2.alloc (.cells #[.int .i64 (N (a * Y + c) 0), .int .i64 (N (a * Y + c) 1), .int .i64 (N (a * Y + c) 2), .int .i64 (N (a * Y + c) 3)] 92)).alloc (.cells #[.int .i64 (N (a * Y + c) 0), .int .i64 (N (a * Y + c) 1), .int .i64 (N (a * Y + c) 2), .int .i64 (N (a * Y + c) 3)] 3)) (.slice (some ⟨w2.heap.size + 1, 0, none⟩) 4 4) 33
            simpa using this
          case c2 => intro u hu; simp at hu; subst hu; rfl
          case c3 => rw [HLE.out]; have := HK9.out; unfold maxLen; omega
          case c4 => rw [HLE.out]; have := HK9.out; omega
          case c5 => simp; omega
          intro v' w3 hown' hgrow _
          have P4 : Hid (pile.Pile w w3 w.heap.size w3.heap.size v' (vals ++ [.slice (some ⟨w2.heap.size + 1, 0, none⟩) 4 4]) (make.rowsOf N (a * Y + (c + 1)))) := Lib.hid (by
            have e : make.rowsOf N (a * Y + (c + 1)) = make.rowsOf N (a * Y + c) ++ [make.quad N (a * Y + c)] := by simp [make.rowsOf, ← Nat.add_assoc, List.range_succ]
            rw [e]
            refine P3.out.grow (m' := w2.heap.size + 1) (T := w2.heap.size + 1 + 1) (ints.own_of_row (xs := make.quad N (a * Y + c)) HRI.out (Nat.le_refl _) (by omega) (by simp [make.quad, maxLen])) (by omega) (by simp) (pile.typ_row HRI.out _ _) hown' hgrow)
          obtain ⟨va, vl, vc, rfl⟩ := make.shape hown'
          clear hown' hgrow P3 HRI hcp hm4
          go_wp2_with fail
          go_roundw
          case rel => exact ⟨c + 1, by omega, by go_num, _, P4⟩
          case measure => simp [intOf]; omega
        · have hkc : ¬ (c : Int) < (Y : Int) := by omega
          obtain rfl : c = Y := by omega
          go_wp2_with fail
          go_roundw
          case rel => exact ⟨a + 1, by omega, by go_num, vals, by rw [Nat.add_mul, Nat.one_mul]; exact hP⟩
          case measure => simp [intOf]; omega
    · have hkz : ¬ (a : Int) < (X : Int) := by omega
      obtain rfl : a = X := by omega
      obtain ⟨va, vl, vc, rfl⟩ := make.shape hP.out.owns
      go_wp2_with fail
      go_ret
      exact ⟨_, rfl, hP.out.rows, hP.out.below⟩

set_option maxHeartbeats 2000000 in
theorem makes (p0 p1 : Nat) (X Y : Nat) (wh : Int) (N : Nat → Nat → Int) (w : World) (hX : X ≤ 3) (hY : Y ≤ 3)
    (hrow : ∀ (i j : Nat) (W : World), i < X → j < Y → Below w.heap.size w W → Calls Try.prog 95 #[.int .i64 (i : Int), .int .i64 (j : Int), .pointer (some ⟨p0, 0, none⟩), .pointer (some ⟨p1, 0, none⟩)] W fun e w' =>
      e = .returned (.agg #[.int .i64 (N (i * Y + j) 0), .int .i64 (N (i * Y + j) 1), .int .i64 (N (i * Y + j) 2), .int .i64 (N (i * Y + j) 3)]) ∧ Below W.heap.size W w') :
    Calls Try.prog 94 #[.int .i64 (X : Int), .int .i64 (Y : Int), .int .i64 wh, .func (.func 95) #[] #[.pointer (some ⟨p0, 0, none⟩), .pointer (some ⟨p1, 0, none⟩)]] w fun e w' => ∃ u, e = .returned (.agg #[.int .i64 (X : Int), .int .i64 (Y : Int), .int .i64 wh, u]) ∧
      OwnRows w' w.heap.size w'.heap.size u (make.rowsOf N (X * Y)) ∧ Below w.heap.size w w' := by
  have HC : Hid (∀ W, Below w.heap.size w W → Calls Try.prog 107 #[.int .i64 (X : Int), .int .i64 (Y : Int), .func (.func 95) #[] #[.pointer (some ⟨p0, 0, none⟩), .pointer (some ⟨p1, 0, none⟩)]] W fun e w' => ∃ u, e = .returned u ∧
      OwnRows w' W.heap.size w'.heap.size u (make.rowsOf N (X * Y)) ∧ Below W.heap.size W w') := Lib.hid (fun W hW => makesR p0 p1 X Y N W hX hY (fun i j W' h1 h2 hb => hrow i j W' h1 h2 (below_tr hW hb)))
  clear hrow
  go_enter Try.func94, Try.ntmps94
  go_wp2_with fail
  refine (HC.out _ (below_al (Below.refl _ _) _)).mono ?_
  rintro e w1 ⟨u, rfl, hu, hb⟩
  obtain ⟨va, vl, vc, rfl⟩ := hu.rows.shape
  have HU := Lib.hid hu
  have HB := Lib.hid hb
  have HRS := Lib.hid ((Blk.new w 54 #[.int .i64 0, .int .i64 0, .int .i64 0, .slice none 0 0]).below hb)
  obtain ⟨r0, r1, r2, r3, r4⟩ := four_cells HRS.out
  have rf : ∀ k, w1.frozen? ⟨w.heap.size, k, none⟩ = false := fun k => Joins.unfrozen_of_block HRS.out k
  clear hu hb
  go_wp2_with fail
  refine bodyPost_ret (v := .agg #[.int .i64 (X : Int), .int .i64 (Y : Int), .int .i64 wh, .slice va vl vc]) (by simp [results, Try.results94, go_sem, r0, r1, r2, r3]) rfl ⟨_, rfl, ?_, ?_⟩
  · refine (HU.out.wrote (S := fun p => p.block < w.heap.size + 1) ?_ (fun p hp => .inl (by simpa using hp))).mono (by simp) (by simp [World.setCell])
    repeat (first | exact Wrote.refl _ _ | refine Wrote.setCell ?_ (by simp) _)
  · repeat (refine Below.setCell ?_ (by simp <;> omega) _)
    exact below_tr (below_al (Below.refl _ _) _) HB.out


set_option maxHeartbeats 4000000 in
theorem impl_any (wh : Int) (v : Value) (xss : List (List Int)) (out : Int) (w : World) (h : IRows w v xss) (hn : total xss ≤ 1048576) :
    Calls Try.prog 47 #[.agg #[.int .i64 wh, v], .int .i64 out] w fun e w' => ∃ u, e = .returned (.tuple #[.agg #[.int .i64 (res wh xss out).x, .int .i64 (res wh xss out).y, .int .i64 (res wh xss out).wh, u], .bool (res wh xss out).ok]) ∧ OwnRows w' w.heap.size w'.heap.size u (res wh xss out).rows ∧ Below w.heap.size w w' := by
  obtain ⟨va, vn, vc, rfl⟩ := h.shape
  obtain ⟨W0, hW0⟩ : ∃ W, W = ((w.alloc (.cells #[.int .i64 wh, .slice va vn vc] 27)).alloc (.cells #[.int .i64 out] 3)).alloc (.cells #[.int .i64 0, .int .i64 0, .int .i64 0, .slice none 0 0] 54) := ⟨_, rfl⟩
  have Kt : Hid (Blk W0 w.heap.size 27 #[.int .i64 wh, .slice va vn vc]) := Lib.hid (by rw [hW0]; exact ((Blk.new _ _ _).alloc _).alloc _)
  have Ko : Hid (Blk W0 (w.heap.size + 1) 3 #[.int .i64 out]) := Lib.hid (by
    rw [hW0]
    have := (Blk.new (w.alloc (.cells #[.int .i64 wh, .slice va vn vc] 27)) 3 #[.int .i64 out]).alloc (.cells #[.int .i64 0, .int .i64 0, .int .i64 0, .slice none 0 0] 54)
    simpa using this)
  have Kr : Hid (Blk W0 (w.heap.size + 1 + 1) 54 #[.int .i64 0, .int .i64 0, .int .i64 0, .slice none 0 0]) := Lib.hid (by
    rw [hW0]
    have := Blk.new ((w.alloc (.cells #[.int .i64 wh, .slice va vn vc] 27)).alloc (.cells #[.int .i64 out] 3)) 54 #[.int .i64 0, .int .i64 0, .int .i64 0, .slice none 0 0]
    simpa using this)
  have B0 : Hid (Below w.heap.size w W0) := Lib.hid (by rw [hW0]; exact below_al (below_al (below_al (Below.refl _ _) _) _) _)
  have HI := Lib.hid (h.below B0.out)
  have HT := trq.impl_any wh _ xss W0 HI.out hn
  obtain ⟨t0, t1, _⟩ := two_cells Kt.out
  rw [hW0] at t0 t1
  have one : ∀ (W : World) (hb : Below W0.heap.size W0 W), W.cell? ⟨w.heap.size + 1, 0, none⟩ = some (.int .i64 out) := fun W hb => by
    have := Joins.cell_of_block (Ko.out.below hb) 0
    rw [this]; rfl
  have ONE := Lib.hid one
  clear one h
  by_cases hok : okTrio wh xss
  · rw [resQ_yes hok] at HT
    by_cases hq : quiet xss
    · rw [quB_yes hq] at HT
      have HT' := Lib.hid HT
      clear HT
      by_cases ho : 0 ≤ out ∧ out ≤ 2
      · obtain ⟨p, rfl⟩ : ∃ p : Nat, out = p := ⟨out.toNat, by omega⟩
        have HPY := Lib.hid (fun W => player_yes (p : Int) W ho)
        have HR := Lib.hid (res_yes ⟨hok, hq, ho⟩)
        have hp : p < 3 := by omega
        have HM := Lib.hid (fun (W1 : World) (hW1 : Below W0.heap.size W0 W1) => makes w.heap.size (w.heap.size + 1) 2 2 wh (NP xss p) W1 (by omega) (by omega) (fun i j W hi hj hW => closure w.heap.size (w.heap.size + 1) p wh _ xss i j W hp hi hj (below_cell (below_tr hW1 hW) _ _ (two_cells Kt.out).1) (below_cell (below_tr hW1 hW) _ _ (two_cells Kt.out).2.1) (ONE.out W (below_tr hW1 hW)) ((HI.out.below hW1).below hW) hok))
        clear hok hq ho hp
        go_enter Try.func47, Try.ntmps47
        go_wp2_with fail
        rw [← hW0]
        clear hW0 t0 t1
        refine HT'.out.mono ?_
        rintro e w1 ⟨rfl, hb⟩
        have E1 := Lib.hid hb
        obtain ⟨t0, t1, _⟩ := two_cells (Kt.out.below hb)
        have o0 := ONE.out w1 hb
        clear hb HT'
        go_wp2_with fail
        refine (HPY.out _).mono ?_
        rintro e w' ⟨rfl, rfl⟩
        go_wp2_with fail
        refine (HM.out w1 E1.out).mono ?_
        rintro e w2 ⟨u, rfl, hu, hb⟩
        obtain ⟨ua, un, uc, rfl⟩ := hu.rows.shape
        have K1 := Lib.hid (Kr.out.below (below_tr E1.out hb))
        have U1 := Lib.hid hu
        have B1 := Lib.hid (below_tr B0.out (below_tr E1.out hb))
        have Z1 : Hid (w.heap.size + 1 + 1 < w1.heap.size) := Lib.hid (Kr.out.below E1.out).lt
        obtain ⟨r0, r1, r2, r3, rl⟩ := four_cells K1.out
        have rf : ∀ k, w2.frozen? ⟨w.heap.size + 1 + 1, k, none⟩ = false := fun k => Joins.unfrozen_of_block K1.out k
        clear hu hb HM t0 t1 o0
        go_wp2_with fail
        refine bodyPost_ret (v := .tuple #[.agg #[.int .i64 2, .int .i64 2, .int .i64 wh, .slice ua un uc], .bool true]) (by simp [results, Try.results47, go_sem, r0, r1, r2, r3]) rfl ?_
        rw [HR.out]
        refine ⟨_, rfl, ?_, ?_⟩
        · have h8 := U1.out
          refine (h8.wrote (S := fun p => p.block = w.heap.size + 1 + 1) ?_ (fun p hp => .inl (by have e : p.block = w.heap.size + 1 + 1 := hp; have := Z1.out; omega))).mono (by have := Z1.out; omega) (by simp [World.setCell])
          repeat (first | exact Wrote.refl _ _ | refine Wrote.setCell ?_ (by simp) _)
        · repeat (first | (with_reducible exact B1.out) | (with_reducible refine Below.setCell ?_ (by simp <;> omega) _))
      · have HPY := Lib.hid (fun W => player_no out W ho)
        have HR := Lib.hid (res_no (wh := wh) (xss := xss) (fun h => ho h.2.2))
        clear hok hq ho
        go_enter Try.func47, Try.ntmps47
        go_wp2_with fail
        rw [← hW0]
        clear hW0 t0 t1
        refine HT'.out.mono ?_
        rintro e w1 ⟨rfl, hb⟩
        have o0 := ONE.out w1 hb
        have K1 := Lib.hid (Kr.out.below hb)
        have B1 := Lib.hid (below_tr B0.out hb)
        clear hb HT'
        go_wp2_with fail
        refine (HPY.out _).mono ?_
        rintro e w' ⟨rfl, rfl⟩
        obtain ⟨r0, r1, r2, r3, rl⟩ := four_cells K1.out
        have rf : ∀ k, w1.frozen? ⟨w.heap.size + 1 + 1, k, none⟩ = false := fun k => Joins.unfrozen_of_block K1.out k
        go_wp2_with fail
        refine bodyPost_ret (v := .tuple #[.agg #[.int .i64 0, .int .i64 0, .int .i64 0, .slice none 0 0], .bool false]) (by simp [results, Try.results47, go_sem, r0, r1, r2, r3]) rfl ?_
        rw [HR.out]
        refine ⟨_, rfl, OwnRows.nil _ _ _, ?_⟩
        repeat (first | (with_reducible exact B1.out) | (with_reducible refine Below.setCell ?_ (by simp <;> omega) _))
    · rw [quB_no hq] at HT
      have HT' := Lib.hid HT
      have HR := Lib.hid (res_no (wh := wh) (xss := xss) (out := out) (fun h => hq h.2.1))
      clear HT hok hq
      go_enter Try.func47, Try.ntmps47
      go_wp2_with fail
      rw [← hW0]
      clear hW0 t0 t1
      refine HT'.out.mono ?_
      rintro e w1 ⟨rfl, hb⟩
      have K1 := Lib.hid (Kr.out.below hb)
      have B1 := Lib.hid (below_tr B0.out hb)
      clear hb HT'
      obtain ⟨r0, r1, r2, r3, rl⟩ := four_cells K1.out
      have rf : ∀ k, w1.frozen? ⟨w.heap.size + 1 + 1, k, none⟩ = false := fun k => Joins.unfrozen_of_block K1.out k
      go_wp2_with fail
      refine bodyPost_ret (v := .tuple #[.agg #[.int .i64 0, .int .i64 0, .int .i64 0, .slice none 0 0], .bool false]) (by simp [results, Try.results47, go_sem, r0, r1, r2, r3]) rfl ?_
      rw [HR.out]
      refine ⟨_, rfl, OwnRows.nil _ _ _, ?_⟩
      repeat (first | (with_reducible exact B1.out) | (with_reducible refine Below.setCell ?_ (by simp <;> omega) _))
  · rw [resQ_no hok] at HT
    have HT' := Lib.hid HT
    have HR := Lib.hid (res_no (wh := wh) (xss := xss) (out := out) (fun h => hok h.1))
    clear HT hok
    go_enter Try.func47, Try.ntmps47
    go_wp2_with fail
    rw [← hW0]
    clear hW0 t0 t1
    refine HT'.out.mono ?_
    rintro e w1 ⟨rfl, hb⟩
    have K1 := Lib.hid (Kr.out.below hb)
    have B1 := Lib.hid (below_tr B0.out hb)
    clear hb HT'
    obtain ⟨r0, r1, r2, r3, rl⟩ := four_cells K1.out
    have rf : ∀ k, w1.frozen? ⟨w.heap.size + 1 + 1, k, none⟩ = false := fun k => Joins.unfrozen_of_block K1.out k
    go_wp2_with fail
    refine bodyPost_ret (v := .tuple #[.agg #[.int .i64 0, .int .i64 0, .int .i64 0, .slice none 0 0], .bool false]) (by simp [results, Try.results47, go_sem, r0, r1, r2, r3]) rfl ?_
    rw [HR.out]
    refine ⟨_, rfl, OwnRows.nil _ _ _, ?_⟩
    repeat (first | (with_reducible exact B1.out) | (with_reducible refine Below.setCell ?_ (by simp <;> omega) _))

end Go.Proofs.Ytomofmmecpdalaa.tpa
