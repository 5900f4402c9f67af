/- The questions and the answers of three players as arrays of bits: contracts of the program's methods over them. -/
import Derived.Test.YtomofmmecpdalabTri
import Derived.Test.YtomofmmecpdalabRow
import Derived.Laws.CopyOwn
import Derived.Deep.RegionLaw
namespace Go.Proofs.Ytomofmmecpdalab.trb
open Go.RowKit Go.Deep Go.Proofs.Ytomofmmecpdalab.base
open Go.Proofs.Ytomofmmecpdalab.tri (two_cells)

def b3 (a b c : Int) : Value := .agg #[.int .i64 a, .int .i64 b, .int .i64 c]
def b2 (a b : Int) : Value := .agg #[.int .i64 a, .int .i64 b]
/-- the bits of a place of three, of two -/
def tb (k : Nat) : Value := b3 ((k / 4 % 2 : Nat) : Int) ((k / 2 % 2 : Nat) : Int) ((k % 2 : Nat) : Int)
def tw (k : Nat) : Value := b2 ((k / 2 % 2 : Nat) : Int) ((k % 2 : Nat) : Int)
theorem three_cells {w : World} {b : Nat} {t : TypeId} {c0 c1 c2 : Value} (h : Blk w b t #[c0, c1, c2]) : w.cell? ⟨b, 0, none⟩ = some c0 ∧ w.cell? ⟨b, 1, none⟩ = some c1 ∧ w.cell? ⟨b, 2, none⟩ = some c2 ∧ b < w.heap.size := by
  have hl := h.lt
  unfold Blk at h
  refine ⟨?_, ?_, ?_, hl⟩ <;> simp only [World.cell?, h] <;> rfl
theorem ret_i {a b : Int} (h : a = b) : Ending.returned (.int .i64 a) = .returned (.int .i64 b) := by rw [h]
theorem below_n (w : World) : Below w.heap.size w w := Below.refl _ _


theorem at3 (k : Nat) (hk : k < 8) (w : World) : Calls Try.prog 55 #[.int .i64 (k : Int)] w fun e w' => e = .returned (tb k) ∧ Below w.heap.size w w' := by
  obtain rfl | rfl | rfl | rfl | rfl | rfl | rfl | rfl : k = 0 ∨ k = 1 ∨ k = 2 ∨ k = 3 ∨ k = 4 ∨ k = 5 ∨ k = 6 ∨ k = 7 := by omega
  · go_enter Try.func55, Try.ntmps55
    go_wp2
    refine bodyPost_ret (v := b3 0 0 0) (by simp [results, Try.results55, go_sem, b3] <;> decide) rfl ⟨rfl, ?_⟩
    repeat (first | exact Below.refl _ _ | (refine below_al ?_ _) | (refine Below.setCell ?_ (by simp <;> omega) _))
  · go_enter Try.func55, Try.ntmps55
    go_wp2
    refine bodyPost_ret (v := b3 0 0 1) (by simp [results, Try.results55, go_sem, b3] <;> decide) rfl ⟨rfl, ?_⟩
    repeat (first | exact Below.refl _ _ | (refine below_al ?_ _) | (refine Below.setCell ?_ (by simp <;> omega) _))
  · go_enter Try.func55, Try.ntmps55
    go_wp2
    refine bodyPost_ret (v := b3 0 1 0) (by simp [results, Try.results55, go_sem, b3] <;> decide) rfl ⟨rfl, ?_⟩
    repeat (first | exact Below.refl _ _ | (refine below_al ?_ _) | (refine Below.setCell ?_ (by simp <;> omega) _))
  · go_enter Try.func55, Try.ntmps55
    go_wp2
    refine bodyPost_ret (v := b3 0 1 1) (by simp [results, Try.results55, go_sem, b3] <;> decide) rfl ⟨rfl, ?_⟩
    repeat (first | exact Below.refl _ _ | (refine below_al ?_ _) | (refine Below.setCell ?_ (by simp <;> omega) _))
  · go_enter Try.func55, Try.ntmps55
    go_wp2
    refine bodyPost_ret (v := b3 1 0 0) (by simp [results, Try.results55, go_sem, b3] <;> decide) rfl ⟨rfl, ?_⟩
    repeat (first | exact Below.refl _ _ | (refine below_al ?_ _) | (refine Below.setCell ?_ (by simp <;> omega) _))
  · go_enter Try.func55, Try.ntmps55
    go_wp2
    refine bodyPost_ret (v := b3 1 0 1) (by simp [results, Try.results55, go_sem, b3] <;> decide) rfl ⟨rfl, ?_⟩
    repeat (first | exact Below.refl _ _ | (refine below_al ?_ _) | (refine Below.setCell ?_ (by simp <;> omega) _))
  · go_enter Try.func55, Try.ntmps55
    go_wp2
    refine bodyPost_ret (v := b3 1 1 0) (by simp [results, Try.results55, go_sem, b3] <;> decide) rfl ⟨rfl, ?_⟩
    repeat (first | exact Below.refl _ _ | (refine below_al ?_ _) | (refine Below.setCell ?_ (by simp <;> omega) _))
  · go_enter Try.func55, Try.ntmps55
    go_wp2
    refine bodyPost_ret (v := b3 1 1 1) (by simp [results, Try.results55, go_sem, b3] <;> decide) rfl ⟨rfl, ?_⟩
    repeat (first | exact Below.refl _ _ | (refine below_al ?_ _) | (refine Below.setCell ?_ (by simp <;> omega) _))







theorem place2_g (a b : Int) (w : World) (ha : 0 ≤ a ∧ a ≤ 1) (hb : 0 ≤ b ∧ b ≤ 1) : Calls Try.prog 37 #[b2 a b] w fun e w' => e = .returned (.int .i64 (2 * a + b)) ∧ Below w.heap.size w w' := by
  obtain ⟨a0, a1⟩ := ha
  obtain ⟨b0, b1⟩ := hb
  have w1 : IntKind.i64.wrap (2 * a) = 2 * a := IntWalk.i64_in _ (by omega)
  have w2 : IntKind.i64.wrap (2 * a + b) = 2 * a + b := IntWalk.i64_in _ (by omega)
  unfold b2
  go_enter Try.func37, Try.ntmps37
  go_wp2
  go_ret
  refine ⟨rfl, ?_⟩
  repeat (first | exact Below.refl _ _ | (refine below_al ?_ _) | (refine Below.setCell ?_ (by simp <;> omega) _))






def par (k : Nat) : Nat := (k / 4 % 2 + k / 2 % 2 + k % 2) % 2
def sgn (k : Nat) : Int := if k / 4 % 2 + k / 2 % 2 + k % 2 = 0 then 1 else if k / 4 % 2 + k / 2 % 2 + k % 2 = 2 then -1 else 0
def grp (k : Nat) : Int := if k / 4 % 2 + k / 2 % 2 + k % 2 ≤ 1 then 1 else -1













set_option maxHeartbeats 2000000 in
theorem without0 (x y z : Int) (w : World) : Calls Try.prog 36 #[b3 x y z, .int .i64 0] w fun e w' => e = .returned (b2 y z) ∧ Below w.heap.size w w' := by
  obtain ⟨W0, hW0⟩ : ∃ W, W = ((w.alloc (.cells #[.int .i64 x, .int .i64 y, .int .i64 z] 60)).alloc (.cells #[.int .i64 0, .int .i64 0] 65)).alloc (.cells #[.int .i64 0, .int .i64 0] 65) := ⟨_, rfl⟩
  have KS0 : Hid (Blk W0 w.heap.size 60 #[.int .i64 x, .int .i64 y, .int .i64 z]) := Lib.hid (by rw [hW0]; exact ((Blk.new w 60 #[.int .i64 x, .int .i64 y, .int .i64 z]).alloc _).alloc _)
  have KR0 : Hid (Blk W0 (w.heap.size + 1) 65 #[.int .i64 0, .int .i64 0]) := Lib.hid (by rw [hW0]; have := (Blk.new (w.alloc (.cells #[.int .i64 x, .int .i64 y, .int .i64 z] 60)) 65 #[.int .i64 0, .int .i64 0]).alloc (.cells #[.int .i64 0, .int .i64 0] 65); simpa using this)
  have KG0 : Hid (Blk W0 (w.heap.size + 1 + 1) 65 #[.int .i64 0, .int .i64 0]) := Lib.hid (by rw [hW0]; have := (Blk.new ((w.alloc (.cells #[.int .i64 x, .int .i64 y, .int .i64 z] 60)).alloc (.cells #[.int .i64 0, .int .i64 0] 65)) 65 #[.int .i64 0, .int .i64 0]); simpa using this)
  have BW0 : Hid (Below w.heap.size w W0) := Lib.hid (by rw [hW0]; exact below_al (below_al (below_al (Below.refl _ _) _) _) _)
  show Calls Try.prog 36 #[.agg #[.int .i64 x, .int .i64 y, .int .i64 z], .int .i64 0] w _
  go_enter Try.func36, Try.ntmps36
  go_wp2_with fail
  rw [← hW0]
  clear hW0
  go_region_law (refine step_copy_splice rfl (.tmp 7) (.tmp 9) 25 25 rfl 3 Try.underlying25 (by kernel_rfl) (some ⟨(w.heap.size + 1 + 1), 0, none⟩) (some ⟨w.heap.size, 0, none⟩) 0 2 0 3 (by simp [Act.eval, Act.put]) (by simp [Act.eval, Act.put]) (w.heap.size + 1 + 1) 0 [.int .i64 0, .int .i64 0] 65 (by exact KG0.out) [] rfl (fun h => absurd h (by decide)) (by simp) (by intro v hv; cases hv) (w.heap.size + 1 + 1) W0 (by exact (Below.refl _ _).drew) (Nat.le_refl _) ?_; intro w4 hg4 hb4)
  have KG1 : Hid (Blk w4 (w.heap.size + 1 + 1) 65 #[.int .i64 0, .int .i64 0]) := Lib.hid hg4.out
  have KS1 := Lib.hid (KS0.out.belowB hb4 (by omega))
  have KR1 := Lib.hid (KR0.out.belowB hb4 (by omega))
  have BW1 := Lib.hid (BW0.out.trans (hb4.mono (by omega)))
  clear hg4 hb4 KG0 KS0 KR0 BW0
  go_wp2_with fail
  have hw1 : IntKind.i64.wrap 1 = 1 := rfl
  go_region_law (refine step_copy_splice rfl (.tmp 12) (.tmp 15) 25 25 rfl 3 Try.underlying25 (by kernel_rfl) (some ⟨(w.heap.size + 1 + 1), 0, none⟩) (some ⟨w.heap.size, 1, none⟩) 2 2 2 2 (by simp [Act.eval, Act.put]) (by simp [Act.eval, Act.put]) (w.heap.size + 1 + 1) 0 [.int .i64 0, .int .i64 0] 65 (by exact KG1.out) [.int .i64 y, .int .i64 z] rfl (fun _ => ⟨rfl, _, rfl, fun j v hj => by
      rw [row.opn_add]
      obtain ⟨s0, s1, s2, _⟩ := three_cells KS1.out
      match j, hj with
      | 0, hj => injection hj with hj; subst hj; exact s1
      | 1, hj => injection hj with hj; subst hj; exact s2
      | _ + 2, hj => cases hj⟩) (by simp) (by intro v hv; simp at hv; rcases hv with rfl | rfl <;> rfl) (w.heap.size + 1 + 1) w4 (by exact (Below.refl _ _).drew) (Nat.le_refl _) ?_; intro w4 hg4 hb4)
  have KG2 : Hid (Blk w4 (w.heap.size + 1 + 1) 65 #[.int .i64 y, .int .i64 z]) := Lib.hid hg4.out
  have KS2 := Lib.hid (KS1.out.belowB hb4 (by omega))
  have KR2 := Lib.hid (KR1.out.belowB hb4 (by omega))
  have BW2 := Lib.hid (BW1.out.trans (hb4.mono (by omega)))
  clear hg4 hb4 KG1 KS1 KR1 BW1
  obtain ⟨g0, g1, gl⟩ := two_cells KG2.out
  obtain ⟨r0, r1, rl⟩ := two_cells KR2.out
  have rf : ∀ k, w4.frozen? ⟨w.heap.size + 1, k, none⟩ = false := fun k => Joins.unfrozen_of_block KR2.out k
  go_wp2_with fail
  refine bodyPost_ret (v := .agg #[.int .i64 y, .int .i64 z]) (by simp [results, Try.results36, go_sem, r0, r1]) rfl ⟨rfl, ?_⟩
  repeat (first | exact BW2.out | (refine Below.setCell ?_ (by simp <;> omega) _))



set_option maxHeartbeats 2000000 in
theorem without1 (x y z : Int) (w : World) : Calls Try.prog 36 #[b3 x y z, .int .i64 1] w fun e w' => e = .returned (b2 x z) ∧ Below w.heap.size w w' := by
  obtain ⟨W0, hW0⟩ : ∃ W, W = ((w.alloc (.cells #[.int .i64 x, .int .i64 y, .int .i64 z] 60)).alloc (.cells #[.int .i64 0, .int .i64 0] 65)).alloc (.cells #[.int .i64 0, .int .i64 0] 65) := ⟨_, rfl⟩
  have KS0 : Hid (Blk W0 w.heap.size 60 #[.int .i64 x, .int .i64 y, .int .i64 z]) := Lib.hid (by rw [hW0]; exact ((Blk.new w 60 #[.int .i64 x, .int .i64 y, .int .i64 z]).alloc _).alloc _)
  have KR0 : Hid (Blk W0 (w.heap.size + 1) 65 #[.int .i64 0, .int .i64 0]) := Lib.hid (by rw [hW0]; have := (Blk.new (w.alloc (.cells #[.int .i64 x, .int .i64 y, .int .i64 z] 60)) 65 #[.int .i64 0, .int .i64 0]).alloc (.cells #[.int .i64 0, .int .i64 0] 65); simpa using this)
  have KG0 : Hid (Blk W0 (w.heap.size + 1 + 1) 65 #[.int .i64 0, .int .i64 0]) := Lib.hid (by rw [hW0]; have := (Blk.new ((w.alloc (.cells #[.int .i64 x, .int .i64 y, .int .i64 z] 60)).alloc (.cells #[.int .i64 0, .int .i64 0] 65)) 65 #[.int .i64 0, .int .i64 0]); simpa using this)
  have BW0 : Hid (Below w.heap.size w W0) := Lib.hid (by rw [hW0]; exact below_al (below_al (below_al (Below.refl _ _) _) _) _)
  show Calls Try.prog 36 #[.agg #[.int .i64 x, .int .i64 y, .int .i64 z], .int .i64 1] w _
  go_enter Try.func36, Try.ntmps36
  go_wp2_with fail
  rw [← hW0]
  clear hW0
  go_region_law (refine step_copy_splice rfl (.tmp 7) (.tmp 9) 25 25 rfl 3 Try.underlying25 (by kernel_rfl) (some ⟨(w.heap.size + 1 + 1), 0, none⟩) (some ⟨w.heap.size, 0, none⟩) 1 2 1 3 (by simp [Act.eval, Act.put]) (by simp [Act.eval, Act.put]) (w.heap.size + 1 + 1) 0 [.int .i64 0, .int .i64 0] 65 (by exact KG0.out) [.int .i64 x] rfl (fun _ => ⟨rfl, _, rfl, fun j v hj => by
      rw [row.opn_add]
      obtain ⟨s0, s1, s2, _⟩ := three_cells KS0.out
      match j, hj with
      | 0, hj => injection hj with hj; subst hj; exact s0
      | _ + 1, hj => cases hj⟩) (by simp) (by intro v hv; simp at hv; subst hv; rfl) (w.heap.size + 1 + 1) W0 (by exact (Below.refl _ _).drew) (Nat.le_refl _) ?_; intro w4 hg4 hb4)
  have KG1 : Hid (Blk w4 (w.heap.size + 1 + 1) 65 #[.int .i64 x, .int .i64 0]) := Lib.hid hg4.out
  have KS1 := Lib.hid (KS0.out.belowB hb4 (by omega))
  have KR1 := Lib.hid (KR0.out.belowB hb4 (by omega))
  have BW1 := Lib.hid (BW0.out.trans (hb4.mono (by omega)))
  clear hg4 hb4 KG0 KS0 KR0 BW0
  go_wp2_with fail
  have hw1 : IntKind.i64.wrap 2 = 2 := rfl
  go_region_law (refine step_copy_splice rfl (.tmp 12) (.tmp 15) 25 25 rfl 3 Try.underlying25 (by kernel_rfl) (some ⟨(w.heap.size + 1 + 1), 1, none⟩) (some ⟨w.heap.size, 2, none⟩) 1 1 1 1 (by simp [Act.eval, Act.put]) (by simp [Act.eval, Act.put]) (w.heap.size + 1 + 1) 1 [.int .i64 x, .int .i64 0] 65 (by exact KG1.out) [.int .i64 z] rfl (fun _ => ⟨rfl, _, rfl, fun j v hj => by
      rw [row.opn_add]
      obtain ⟨s0, s1, s2, _⟩ := three_cells KS1.out
      match j, hj with
      | 0, hj => injection hj with hj; subst hj; exact s2
      | _ + 1, hj => cases hj⟩) (by simp) (by intro v hv; simp at hv; subst hv; rfl) (w.heap.size + 1 + 1) w4 (by exact (Below.refl _ _).drew) (Nat.le_refl _) ?_; intro w4 hg4 hb4)
  have KG2 : Hid (Blk w4 (w.heap.size + 1 + 1) 65 #[.int .i64 x, .int .i64 z]) := Lib.hid hg4.out
  have KS2 := Lib.hid (KS1.out.belowB hb4 (by omega))
  have KR2 := Lib.hid (KR1.out.belowB hb4 (by omega))
  have BW2 := Lib.hid (BW1.out.trans (hb4.mono (by omega)))
  clear hg4 hb4 KG1 KS1 KR1 BW1
  obtain ⟨g0, g1, gl⟩ := two_cells KG2.out
  obtain ⟨r0, r1, rl⟩ := two_cells KR2.out
  have rf : ∀ k, w4.frozen? ⟨w.heap.size + 1, k, none⟩ = false := fun k => Joins.unfrozen_of_block KR2.out k
  go_wp2_with fail
  refine bodyPost_ret (v := .agg #[.int .i64 x, .int .i64 z]) (by simp [results, Try.results36, go_sem, r0, r1]) rfl ⟨rfl, ?_⟩
  repeat (first | exact BW2.out | (refine Below.setCell ?_ (by simp <;> omega) _))



set_option maxHeartbeats 2000000 in
theorem without2 (x y z : Int) (w : World) : Calls Try.prog 36 #[b3 x y z, .int .i64 2] w fun e w' => e = .returned (b2 x y) ∧ Below w.heap.size w w' := by
  obtain ⟨W0, hW0⟩ : ∃ W, W = ((w.alloc (.cells #[.int .i64 x, .int .i64 y, .int .i64 z] 60)).alloc (.cells #[.int .i64 0, .int .i64 0] 65)).alloc (.cells #[.int .i64 0, .int .i64 0] 65) := ⟨_, rfl⟩
  have KS0 : Hid (Blk W0 w.heap.size 60 #[.int .i64 x, .int .i64 y, .int .i64 z]) := Lib.hid (by rw [hW0]; exact ((Blk.new w 60 #[.int .i64 x, .int .i64 y, .int .i64 z]).alloc _).alloc _)
  have KR0 : Hid (Blk W0 (w.heap.size + 1) 65 #[.int .i64 0, .int .i64 0]) := Lib.hid (by rw [hW0]; have := (Blk.new (w.alloc (.cells #[.int .i64 x, .int .i64 y, .int .i64 z] 60)) 65 #[.int .i64 0, .int .i64 0]).alloc (.cells #[.int .i64 0, .int .i64 0] 65); simpa using this)
  have KG0 : Hid (Blk W0 (w.heap.size + 1 + 1) 65 #[.int .i64 0, .int .i64 0]) := Lib.hid (by rw [hW0]; have := (Blk.new ((w.alloc (.cells #[.int .i64 x, .int .i64 y, .int .i64 z] 60)).alloc (.cells #[.int .i64 0, .int .i64 0] 65)) 65 #[.int .i64 0, .int .i64 0]); simpa using this)
  have BW0 : Hid (Below w.heap.size w W0) := Lib.hid (by rw [hW0]; exact below_al (below_al (below_al (Below.refl _ _) _) _) _)
  show Calls Try.prog 36 #[.agg #[.int .i64 x, .int .i64 y, .int .i64 z], .int .i64 2] w _
  go_enter Try.func36, Try.ntmps36
  go_wp2_with fail
  rw [← hW0]
  clear hW0
  go_region_law (refine step_copy_splice rfl (.tmp 7) (.tmp 9) 25 25 rfl 3 Try.underlying25 (by kernel_rfl) (some ⟨(w.heap.size + 1 + 1), 0, none⟩) (some ⟨w.heap.size, 0, none⟩) 2 2 2 3 (by simp [Act.eval, Act.put]) (by simp [Act.eval, Act.put]) (w.heap.size + 1 + 1) 0 [.int .i64 0, .int .i64 0] 65 (by exact KG0.out) [.int .i64 x, .int .i64 y] rfl (fun _ => ⟨rfl, _, rfl, fun j v hj => by
      rw [row.opn_add]
      obtain ⟨s0, s1, s2, _⟩ := three_cells KS0.out
      match j, hj with
      | 0, hj => injection hj with hj; subst hj; exact s0
      | 1, hj => injection hj with hj; subst hj; exact s1
      | _ + 2, hj => cases hj⟩) (by simp) (by intro v hv; simp at hv; rcases hv with rfl | rfl <;> rfl) (w.heap.size + 1 + 1) W0 (by exact (Below.refl _ _).drew) (Nat.le_refl _) ?_; intro w4 hg4 hb4)
  have KG1 : Hid (Blk w4 (w.heap.size + 1 + 1) 65 #[.int .i64 x, .int .i64 y]) := Lib.hid hg4.out
  have KS1 := Lib.hid (KS0.out.belowB hb4 (by omega))
  have KR1 := Lib.hid (KR0.out.belowB hb4 (by omega))
  have BW1 := Lib.hid (BW0.out.trans (hb4.mono (by omega)))
  clear hg4 hb4 KG0 KS0 KR0 BW0
  go_wp2_with fail
  have hw1 : IntKind.i64.wrap 3 = 3 := rfl
  go_region_law (refine step_copy_splice rfl (.tmp 12) (.tmp 15) 25 25 rfl 3 Try.underlying25 (by kernel_rfl) _ _ _ _ _ _ rfl rfl (w.heap.size + 1 + 1) 2 [.int .i64 x, .int .i64 y] 65 (by exact KG1.out) [] rfl (fun h => absurd h (by decide)) (by simp) (by intro v hv; cases hv) (w.heap.size + 1 + 1) w4 (by exact (Below.refl _ _).drew) (Nat.le_refl _) ?_; intro w4 hg4 hb4)
  have KG2 : Hid (Blk w4 (w.heap.size + 1 + 1) 65 #[.int .i64 x, .int .i64 y]) := Lib.hid hg4.out
  have KS2 := Lib.hid (KS1.out.belowB hb4 (by omega))
  have KR2 := Lib.hid (KR1.out.belowB hb4 (by omega))
  have BW2 := Lib.hid (BW1.out.trans (hb4.mono (by omega)))
  clear hg4 hb4 KG1 KS1 KR1 BW1
  obtain ⟨g0, g1, gl⟩ := two_cells KG2.out
  obtain ⟨r0, r1, rl⟩ := two_cells KR2.out
  have rf : ∀ k, w4.frozen? ⟨w.heap.size + 1, k, none⟩ = false := fun k => Joins.unfrozen_of_block KR2.out k
  go_wp2_with fail
  refine bodyPost_ret (v := .agg #[.int .i64 x, .int .i64 y]) (by simp [results, Try.results36, go_sem, r0, r1]) rfl ⟨rfl, ?_⟩
  repeat (first | exact BW2.out | (refine Below.setCell ?_ (by simp <;> omega) _))


end Go.Proofs.Ytomofmmecpdalab.trb
