/- The questions and the answers of three players as arrays of bits: contracts of the program's methods over them. -/
import Derived.Test.YtomofmmecpdalaaTri
import Derived.Test.YtomofmmecpdalaaRow
import Derived.Laws.CopyOwn
import Derived.Deep.RegionLaw
namespace Go.Proofs.Ytomofmmecpdalaa.trb
open Go.RowKit Go.Deep Go.Proofs.Ytomofmmecpdalaa.base
open Go.Proofs.Ytomofmmecpdalaa.tri (two_cells)

def b3 (a b c : Int) : Value := .agg #[.int .i64 a, .int .i64 b, .int .i64 c]
def b2 (a b : Int) : Value := .agg #[.int .i64 a, .int .i64 b]
/-- the bits of a place of three, of two -/
def tb (k : Nat) : Value := b3 ((k / 4 % 2 : Nat) : Int) ((k / 2 % 2 : Nat) : Int) ((k % 2 : Nat) : Int)
def tw (k : Nat) : Value := b2 ((k / 2 % 2 : Nat) : Int) ((k % 2 : Nat) : Int)
theorem three_cells {w : World} {b : Nat} {t : TypeId} {c0 c1 c2 : Value} (h : Blk w b t #[c0, c1, c2]) : w.cell? ⟨b, 0, none⟩ = some c0 ∧ w.cell? ⟨b, 1, none⟩ = some c1 ∧ w.cell? ⟨b, 2, none⟩ = some c2 ∧ b < w.heap.size := by
  have hl := h.lt
  unfold Blk at h
  refine ⟨?_, ?_, ?_, hl⟩ <;> simp only [World.cell?, h] <;> rfl
theorem ret_i {a b : Int} (h : a = b) : Ending.returned (.int .i64 a) = .returned (.int .i64 b) := by rw [h]
theorem below_n (w : World) : Below w.heap.size w w := Below.refl _ _


theorem at3 (k : Nat) (hk : k < 8) (w : World) : Calls Try.prog 80 #[.int .i64 (k : Int)] w fun e w' => e = .returned (tb k) ∧ Below w.heap.size w w' := by
  obtain rfl | rfl | rfl | rfl | rfl | rfl | rfl | rfl : k = 0 ∨ k = 1 ∨ k = 2 ∨ k = 3 ∨ k = 4 ∨ k = 5 ∨ k = 6 ∨ k = 7 := by omega
  · go_enter Try.func80, Try.ntmps80
    go_wp2
    refine bodyPost_ret (v := b3 0 0 0) (by simp [results, Try.results80, go_sem, b3] <;> decide) rfl ⟨rfl, ?_⟩
    repeat (first | exact Below.refl _ _ | (refine below_al ?_ _) | (refine Below.setCell ?_ (by simp <;> omega) _))
  · go_enter Try.func80, Try.ntmps80
    go_wp2
    refine bodyPost_ret (v := b3 0 0 1) (by simp [results, Try.results80, go_sem, b3] <;> decide) rfl ⟨rfl, ?_⟩
    repeat (first | exact Below.refl _ _ | (refine below_al ?_ _) | (refine Below.setCell ?_ (by simp <;> omega) _))
  · go_enter Try.func80, Try.ntmps80
    go_wp2
    refine bodyPost_ret (v := b3 0 1 0) (by simp [results, Try.results80, go_sem, b3] <;> decide) rfl ⟨rfl, ?_⟩
    repeat (first | exact Below.refl _ _ | (refine below_al ?_ _) | (refine Below.setCell ?_ (by simp <;> omega) _))
  · go_enter Try.func80, Try.ntmps80
    go_wp2
    refine bodyPost_ret (v := b3 0 1 1) (by simp [results, Try.results80, go_sem, b3] <;> decide) rfl ⟨rfl, ?_⟩
    repeat (first | exact Below.refl _ _ | (refine below_al ?_ _) | (refine Below.setCell ?_ (by simp <;> omega) _))
  · go_enter Try.func80, Try.ntmps80
    go_wp2
    refine bodyPost_ret (v := b3 1 0 0) (by simp [results, Try.results80, go_sem, b3] <;> decide) rfl ⟨rfl, ?_⟩
    repeat (first | exact Below.refl _ _ | (refine below_al ?_ _) | (refine Below.setCell ?_ (by simp <;> omega) _))
  · go_enter Try.func80, Try.ntmps80
    go_wp2
    refine bodyPost_ret (v := b3 1 0 1) (by simp [results, Try.results80, go_sem, b3] <;> decide) rfl ⟨rfl, ?_⟩
    repeat (first | exact Below.refl _ _ | (refine below_al ?_ _) | (refine Below.setCell ?_ (by simp <;> omega) _))
  · go_enter Try.func80, Try.ntmps80
    go_wp2
    refine bodyPost_ret (v := b3 1 1 0) (by simp [results, Try.results80, go_sem, b3] <;> decide) rfl ⟨rfl, ?_⟩
    repeat (first | exact Below.refl _ _ | (refine below_al ?_ _) | (refine Below.setCell ?_ (by simp <;> omega) _))
  · go_enter Try.func80, Try.ntmps80
    go_wp2
    refine bodyPost_ret (v := b3 1 1 1) (by simp [results, Try.results80, go_sem, b3] <;> decide) rfl ⟨rfl, ?_⟩
    repeat (first | exact Below.refl _ _ | (refine below_al ?_ _) | (refine Below.setCell ?_ (by simp <;> omega) _))



theorem at2 (k : Nat) (hk : k < 4) (w : World) : Calls Try.prog 99 #[.int .i64 (k : Int)] w fun e w' => e = .returned (tw k) ∧ Below w.heap.size w w' := by
  obtain rfl | rfl | rfl | rfl : k = 0 ∨ k = 1 ∨ k = 2 ∨ k = 3 := by omega
  · go_enter Try.func99, Try.ntmps99
    go_wp2
    refine bodyPost_ret (v := b2 0 0) (by simp [results, Try.results99, go_sem, b2] <;> decide) rfl ⟨rfl, ?_⟩
    repeat (first | exact Below.refl _ _ | (refine below_al ?_ _) | (refine Below.setCell ?_ (by simp <;> omega) _))
  · go_enter Try.func99, Try.ntmps99
    go_wp2
    refine bodyPost_ret (v := b2 0 1) (by simp [results, Try.results99, go_sem, b2] <;> decide) rfl ⟨rfl, ?_⟩
    repeat (first | exact Below.refl _ _ | (refine below_al ?_ _) | (refine Below.setCell ?_ (by simp <;> omega) _))
  · go_enter Try.func99, Try.ntmps99
    go_wp2
    refine bodyPost_ret (v := b2 1 0) (by simp [results, Try.results99, go_sem, b2] <;> decide) rfl ⟨rfl, ?_⟩
    repeat (first | exact Below.refl _ _ | (refine below_al ?_ _) | (refine Below.setCell ?_ (by simp <;> omega) _))
  · go_enter Try.func99, Try.ntmps99
    go_wp2
    refine bodyPost_ret (v := b2 1 1) (by simp [results, Try.results99, go_sem, b2] <;> decide) rfl ⟨rfl, ?_⟩
    repeat (first | exact Below.refl _ _ | (refine below_al ?_ _) | (refine Below.setCell ?_ (by simp <;> omega) _))



theorem place3_g (a b c : Int) (w : World) (ha : 0 ≤ a ∧ a ≤ 1) (hb : 0 ≤ b ∧ b ≤ 1) (hc : 0 ≤ c ∧ c ≤ 1) : Calls Try.prog 74 #[b3 a b c] w fun e w' => e = .returned (.int .i64 (4 * a + 2 * b + c)) ∧ Below w.heap.size w w' := by
  obtain ⟨a0, a1⟩ := ha
  obtain ⟨b0, b1⟩ := hb
  obtain ⟨c0, c1⟩ := hc
  have w1 : IntKind.i64.wrap (4 * a) = 4 * a := IntWalk.i64_in _ (by omega)
  have w2 : IntKind.i64.wrap (2 * b) = 2 * b := IntWalk.i64_in _ (by omega)
  have w3 : IntKind.i64.wrap (4 * a + 2 * b) = 4 * a + 2 * b := IntWalk.i64_in _ (by omega)
  have w4 : IntKind.i64.wrap (4 * a + 2 * b + c) = 4 * a + 2 * b + c := IntWalk.i64_in _ (by omega)
  unfold b3
  go_enter Try.func74, Try.ntmps74
  go_wp2
  go_ret
  refine ⟨rfl, ?_⟩
  repeat (first | exact Below.refl _ _ | (refine below_al ?_ _) | (refine Below.setCell ?_ (by simp <;> omega) _))



theorem place2_g (a b : Int) (w : World) (ha : 0 ≤ a ∧ a ≤ 1) (hb : 0 ≤ b ∧ b ≤ 1) : Calls Try.prog 103 #[b2 a b] w fun e w' => e = .returned (.int .i64 (2 * a + b)) ∧ Below w.heap.size w w' := by
  obtain ⟨a0, a1⟩ := ha
  obtain ⟨b0, b1⟩ := hb
  have w1 : IntKind.i64.wrap (2 * a) = 2 * a := IntWalk.i64_in _ (by omega)
  have w2 : IntKind.i64.wrap (2 * a + b) = 2 * a + b := IntWalk.i64_in _ (by omega)
  unfold b2
  go_enter Try.func103, Try.ntmps103
  go_wp2
  go_ret
  refine ⟨rfl, ?_⟩
  repeat (first | exact Below.refl _ _ | (refine below_al ?_ _) | (refine Below.setCell ?_ (by simp <;> omega) _))



theorem sum_g (a b c : Int) (w : World) (ha : 0 ≤ a ∧ a ≤ 1) (hb : 0 ≤ b ∧ b ≤ 1) (hc : 0 ≤ c ∧ c ≤ 1) : Calls Try.prog 105 #[b3 a b c] w fun e w' => e = .returned (.int .i64 (a + b + c)) ∧ Below w.heap.size w w' := by
  obtain ⟨a0, a1⟩ := ha
  obtain ⟨b0, b1⟩ := hb
  obtain ⟨c0, c1⟩ := hc
  have w1 : IntKind.i64.wrap (a + b) = a + b := IntWalk.i64_in _ (by omega)
  have w2 : IntKind.i64.wrap (a + b + c) = a + b + c := IntWalk.i64_in _ (by omega)
  unfold b3
  go_enter Try.func105, Try.ntmps105
  go_wp2
  go_ret
  refine ⟨rfl, ?_⟩
  repeat (first | exact Below.refl _ _ | (refine below_al ?_ _) | (refine Below.setCell ?_ (by simp <;> omega) _))



theorem turn_g (a b c : Int) (w : World) : Calls Try.prog 106 #[b3 a b c] w fun e w' => e = .returned (b3 b c a) ∧ Below w.heap.size w w' := by
  unfold b3
  go_enter Try.func106, Try.ntmps106
  go_wp2
  refine bodyPost_ret (v := b3 b c a) (by simp [results, Try.results106, go_sem, b3]) rfl ⟨rfl, ?_⟩
  repeat (first | exact Below.refl _ _ | (refine below_al ?_ _) | (refine Below.setCell ?_ (by simp <;> omega) _))


def par (k : Nat) : Nat := (k / 4 % 2 + k / 2 % 2 + k % 2) % 2
def sgn (k : Nat) : Int := if k / 4 % 2 + k / 2 % 2 + k % 2 = 0 then 1 else if k / 4 % 2 + k / 2 % 2 + k % 2 = 2 then -1 else 0
def grp (k : Nat) : Int := if k / 4 % 2 + k / 2 % 2 + k % 2 ≤ 1 then 1 else -1

theorem parity_k (k : Nat) (hk : k < 8) (w : World) : Calls Try.prog 73 #[tb k] w fun e w' => e = .returned (.int .i64 (par k : Int)) ∧ Below w.heap.size w w' := by
  obtain rfl | rfl | rfl | rfl | rfl | rfl | rfl | rfl : k = 0 ∨ k = 1 ∨ k = 2 ∨ k = 3 ∨ k = 4 ∨ k = 5 ∨ k = 6 ∨ k = 7 := by omega
  · show Calls Try.prog 73 #[.agg #[.int .i64 0, .int .i64 0, .int .i64 0]] w _
    go_enter Try.func73, Try.ntmps73
    go_wp2_with fail
    refine (sum_g 0 0 0 _ (by omega) (by omega) (by omega)).mono ?_
    rintro e w1 ⟨rfl, hb⟩
    go_wp2_with fail
    go_ret
    exact ⟨rfl, below_tr (below_al (Below.refl _ _) _) hb⟩
  · show Calls Try.prog 73 #[.agg #[.int .i64 0, .int .i64 0, .int .i64 1]] w _
    go_enter Try.func73, Try.ntmps73
    go_wp2_with fail
    refine (sum_g 0 0 1 _ (by omega) (by omega) (by omega)).mono ?_
    rintro e w1 ⟨rfl, hb⟩
    go_wp2_with fail
    go_ret
    exact ⟨rfl, below_tr (below_al (Below.refl _ _) _) hb⟩
  · show Calls Try.prog 73 #[.agg #[.int .i64 0, .int .i64 1, .int .i64 0]] w _
    go_enter Try.func73, Try.ntmps73
    go_wp2_with fail
    refine (sum_g 0 1 0 _ (by omega) (by omega) (by omega)).mono ?_
    rintro e w1 ⟨rfl, hb⟩
    go_wp2_with fail
    go_ret
    exact ⟨rfl, below_tr (below_al (Below.refl _ _) _) hb⟩
  · show Calls Try.prog 73 #[.agg #[.int .i64 0, .int .i64 1, .int .i64 1]] w _
    go_enter Try.func73, Try.ntmps73
    go_wp2_with fail
    refine (sum_g 0 1 1 _ (by omega) (by omega) (by omega)).mono ?_
    rintro e w1 ⟨rfl, hb⟩
    go_wp2_with fail
    go_ret
    exact ⟨rfl, below_tr (below_al (Below.refl _ _) _) hb⟩
  · show Calls Try.prog 73 #[.agg #[.int .i64 1, .int .i64 0, .int .i64 0]] w _
    go_enter Try.func73, Try.ntmps73
    go_wp2_with fail
    refine (sum_g 1 0 0 _ (by omega) (by omega) (by omega)).mono ?_
    rintro e w1 ⟨rfl, hb⟩
    go_wp2_with fail
    go_ret
    exact ⟨rfl, below_tr (below_al (Below.refl _ _) _) hb⟩
  · show Calls Try.prog 73 #[.agg #[.int .i64 1, .int .i64 0, .int .i64 1]] w _
    go_enter Try.func73, Try.ntmps73
    go_wp2_with fail
    refine (sum_g 1 0 1 _ (by omega) (by omega) (by omega)).mono ?_
    rintro e w1 ⟨rfl, hb⟩
    go_wp2_with fail
    go_ret
    exact ⟨rfl, below_tr (below_al (Below.refl _ _) _) hb⟩
  · show Calls Try.prog 73 #[.agg #[.int .i64 1, .int .i64 1, .int .i64 0]] w _
    go_enter Try.func73, Try.ntmps73
    go_wp2_with fail
    refine (sum_g 1 1 0 _ (by omega) (by omega) (by omega)).mono ?_
    rintro e w1 ⟨rfl, hb⟩
    go_wp2_with fail
    go_ret
    exact ⟨rfl, below_tr (below_al (Below.refl _ _) _) hb⟩
  · show Calls Try.prog 73 #[.agg #[.int .i64 1, .int .i64 1, .int .i64 1]] w _
    go_enter Try.func73, Try.ntmps73
    go_wp2_with fail
    refine (sum_g 1 1 1 _ (by omega) (by omega) (by omega)).mono ?_
    rintro e w1 ⟨rfl, hb⟩
    go_wp2_with fail
    go_ret
    exact ⟨rfl, below_tr (below_al (Below.refl _ _) _) hb⟩



theorem sign_k (k : Nat) (hk : k < 8) (w : World) : Calls Try.prog 82 #[tb k] w fun e w' => e = .returned (.int .i64 (sgn k)) ∧ Below w.heap.size w w' := by
  obtain rfl | rfl | rfl | rfl | rfl | rfl | rfl | rfl : k = 0 ∨ k = 1 ∨ k = 2 ∨ k = 3 ∨ k = 4 ∨ k = 5 ∨ k = 6 ∨ k = 7 := by omega
  · show Calls Try.prog 82 #[.agg #[.int .i64 0, .int .i64 0, .int .i64 0]] w _
    go_enter Try.func82, Try.ntmps82
    go_wp2_with fail
    refine (sum_g 0 0 0 _ (by omega) (by omega) (by omega)).mono ?_
    rintro e w1 ⟨rfl, hb⟩
    go_wp2_with fail
    go_ret
    exact ⟨rfl, below_tr (below_al (Below.refl _ _) _) hb⟩
  · show Calls Try.prog 82 #[.agg #[.int .i64 0, .int .i64 0, .int .i64 1]] w _
    go_enter Try.func82, Try.ntmps82
    go_wp2_with fail
    refine (sum_g 0 0 1 _ (by omega) (by omega) (by omega)).mono ?_
    rintro e w1 ⟨rfl, hb⟩
    go_wp2_with fail
    go_ret
    exact ⟨rfl, below_tr (below_al (Below.refl _ _) _) hb⟩
  · show Calls Try.prog 82 #[.agg #[.int .i64 0, .int .i64 1, .int .i64 0]] w _
    go_enter Try.func82, Try.ntmps82
    go_wp2_with fail
    refine (sum_g 0 1 0 _ (by omega) (by omega) (by omega)).mono ?_
    rintro e w1 ⟨rfl, hb⟩
    go_wp2_with fail
    go_ret
    exact ⟨rfl, below_tr (below_al (Below.refl _ _) _) hb⟩
  · show Calls Try.prog 82 #[.agg #[.int .i64 0, .int .i64 1, .int .i64 1]] w _
    go_enter Try.func82, Try.ntmps82
    go_wp2_with fail
    refine (sum_g 0 1 1 _ (by omega) (by omega) (by omega)).mono ?_
    rintro e w1 ⟨rfl, hb⟩
    go_wp2_with fail
    go_ret
    exact ⟨rfl, below_tr (below_al (Below.refl _ _) _) hb⟩
  · show Calls Try.prog 82 #[.agg #[.int .i64 1, .int .i64 0, .int .i64 0]] w _
    go_enter Try.func82, Try.ntmps82
    go_wp2_with fail
    refine (sum_g 1 0 0 _ (by omega) (by omega) (by omega)).mono ?_
    rintro e w1 ⟨rfl, hb⟩
    go_wp2_with fail
    go_ret
    exact ⟨rfl, below_tr (below_al (Below.refl _ _) _) hb⟩
  · show Calls Try.prog 82 #[.agg #[.int .i64 1, .int .i64 0, .int .i64 1]] w _
    go_enter Try.func82, Try.ntmps82
    go_wp2_with fail
    refine (sum_g 1 0 1 _ (by omega) (by omega) (by omega)).mono ?_
    rintro e w1 ⟨rfl, hb⟩
    go_wp2_with fail
    go_ret
    exact ⟨rfl, below_tr (below_al (Below.refl _ _) _) hb⟩
  · show Calls Try.prog 82 #[.agg #[.int .i64 1, .int .i64 1, .int .i64 0]] w _
    go_enter Try.func82, Try.ntmps82
    go_wp2_with fail
    refine (sum_g 1 1 0 _ (by omega) (by omega) (by omega)).mono ?_
    rintro e w1 ⟨rfl, hb⟩
    go_wp2_with fail
    go_ret
    exact ⟨rfl, below_tr (below_al (Below.refl _ _) _) hb⟩
  · show Calls Try.prog 82 #[.agg #[.int .i64 1, .int .i64 1, .int .i64 1]] w _
    go_enter Try.func82, Try.ntmps82
    go_wp2_with fail
    refine (sum_g 1 1 1 _ (by omega) (by omega) (by omega)).mono ?_
    rintro e w1 ⟨rfl, hb⟩
    go_wp2_with fail
    go_ret
    exact ⟨rfl, below_tr (below_al (Below.refl _ _) _) hb⟩



theorem group_k (k : Nat) (hk : k < 8) (w : World) : Calls Try.prog 83 #[tb k] w fun e w' => e = .returned (.int .i64 (grp k)) ∧ Below w.heap.size w w' := by
  obtain rfl | rfl | rfl | rfl | rfl | rfl | rfl | rfl : k = 0 ∨ k = 1 ∨ k = 2 ∨ k = 3 ∨ k = 4 ∨ k = 5 ∨ k = 6 ∨ k = 7 := by omega
  · show Calls Try.prog 83 #[.agg #[.int .i64 0, .int .i64 0, .int .i64 0]] w _
    go_enter Try.func83, Try.ntmps83
    go_wp2_with fail
    refine (sum_g 0 0 0 _ (by omega) (by omega) (by omega)).mono ?_
    rintro e w1 ⟨rfl, hb⟩
    go_wp2_with fail
    go_ret
    exact ⟨rfl, below_tr (below_al (Below.refl _ _) _) hb⟩
  · show Calls Try.prog 83 #[.agg #[.int .i64 0, .int .i64 0, .int .i64 1]] w _
    go_enter Try.func83, Try.ntmps83
    go_wp2_with fail
    refine (sum_g 0 0 1 _ (by omega) (by omega) (by omega)).mono ?_
    rintro e w1 ⟨rfl, hb⟩
    go_wp2_with fail
    go_ret
    exact ⟨rfl, below_tr (below_al (Below.refl _ _) _) hb⟩
  · show Calls Try.prog 83 #[.agg #[.int .i64 0, .int .i64 1, .int .i64 0]] w _
    go_enter Try.func83, Try.ntmps83
    go_wp2_with fail
    refine (sum_g 0 1 0 _ (by omega) (by omega) (by omega)).mono ?_
    rintro e w1 ⟨rfl, hb⟩
    go_wp2_with fail
    go_ret
    exact ⟨rfl, below_tr (below_al (Below.refl _ _) _) hb⟩
  · show Calls Try.prog 83 #[.agg #[.int .i64 0, .int .i64 1, .int .i64 1]] w _
    go_enter Try.func83, Try.ntmps83
    go_wp2_with fail
    refine (sum_g 0 1 1 _ (by omega) (by omega) (by omega)).mono ?_
    rintro e w1 ⟨rfl, hb⟩
    go_wp2_with fail
    go_ret
    exact ⟨rfl, below_tr (below_al (Below.refl _ _) _) hb⟩
  · show Calls Try.prog 83 #[.agg #[.int .i64 1, .int .i64 0, .int .i64 0]] w _
    go_enter Try.func83, Try.ntmps83
    go_wp2_with fail
    refine (sum_g 1 0 0 _ (by omega) (by omega) (by omega)).mono ?_
    rintro e w1 ⟨rfl, hb⟩
    go_wp2_with fail
    go_ret
    exact ⟨rfl, below_tr (below_al (Below.refl _ _) _) hb⟩
  · show Calls Try.prog 83 #[.agg #[.int .i64 1, .int .i64 0, .int .i64 1]] w _
    go_enter Try.func83, Try.ntmps83
    go_wp2_with fail
    refine (sum_g 1 0 1 _ (by omega) (by omega) (by omega)).mono ?_
    rintro e w1 ⟨rfl, hb⟩
    go_wp2_with fail
    go_ret
    exact ⟨rfl, below_tr (below_al (Below.refl _ _) _) hb⟩
  · show Calls Try.prog 83 #[.agg #[.int .i64 1, .int .i64 1, .int .i64 0]] w _
    go_enter Try.func83, Try.ntmps83
    go_wp2_with fail
    refine (sum_g 1 1 0 _ (by omega) (by omega) (by omega)).mono ?_
    rintro e w1 ⟨rfl, hb⟩
    go_wp2_with fail
    go_ret
    exact ⟨rfl, below_tr (below_al (Below.refl _ _) _) hb⟩
  · show Calls Try.prog 83 #[.agg #[.int .i64 1, .int .i64 1, .int .i64 1]] w _
    go_enter Try.func83, Try.ntmps83
    go_wp2_with fail
    refine (sum_g 1 1 1 _ (by omega) (by omega) (by omega)).mono ?_
    rintro e w1 ⟨rfl, hb⟩
    go_wp2_with fail
    go_ret
    exact ⟨rfl, below_tr (below_al (Below.refl _ _) _) hb⟩



set_option maxHeartbeats 2000000 in
theorem with0 (x y b : Int) (w : World) : Calls Try.prog 104 #[b2 x y, .int .i64 0, .int .i64 b] w fun e w' => e = .returned (b3 b x y) ∧ Below w.heap.size w w' := by
  obtain ⟨W0, hW0⟩ : ∃ W, W = ((w.alloc (.cells #[.int .i64 x, .int .i64 y] 95)).alloc (.cells #[.int .i64 0, .int .i64 0, .int .i64 0] 76)).alloc (.cells #[.int .i64 0, .int .i64 0, .int .i64 0] 76) := ⟨_, rfl⟩
  have KS0 : Hid (Blk W0 w.heap.size 95 #[.int .i64 x, .int .i64 y]) := Lib.hid (by rw [hW0]; exact ((Blk.new w 95 #[.int .i64 x, .int .i64 y]).alloc _).alloc _)
  have KR0 : Hid (Blk W0 (w.heap.size + 1) 76 #[.int .i64 0, .int .i64 0, .int .i64 0]) := Lib.hid (by rw [hW0]; have := (Blk.new (w.alloc (.cells #[.int .i64 x, .int .i64 y] 95)) 76 #[.int .i64 0, .int .i64 0, .int .i64 0]).alloc (.cells #[.int .i64 0, .int .i64 0, .int .i64 0] 76); simpa using this)
  have KG0 : Hid (Blk W0 (w.heap.size + 1 + 1) 76 #[.int .i64 0, .int .i64 0, .int .i64 0]) := Lib.hid (by rw [hW0]; have := (Blk.new ((w.alloc (.cells #[.int .i64 x, .int .i64 y] 95)).alloc (.cells #[.int .i64 0, .int .i64 0, .int .i64 0] 76)) 76 #[.int .i64 0, .int .i64 0, .int .i64 0]); simpa using this)
  have BW0 : Hid (Below w.heap.size w W0) := Lib.hid (by rw [hW0]; exact below_al (below_al (below_al (Below.refl _ _) _) _) _)
  show Calls Try.prog 104 #[.agg #[.int .i64 x, .int .i64 y], .int .i64 0, .int .i64 b] w _
  go_enter Try.func104, Try.ntmps104
  go_wp2_with fail
  rw [← hW0]
  clear hW0
  go_region_law (refine step_copy_splice rfl (.tmp 9) (.tmp 11) 33 33 rfl 3 Try.underlying33 (by kernel_rfl) (some ⟨(w.heap.size + 1 + 1), 0, none⟩) (some ⟨w.heap.size, 0, none⟩) 0 3 0 2 (by simp [Act.eval, Act.put]) (by simp [Act.eval, Act.put]) (w.heap.size + 1 + 1) 0 [.int .i64 0, .int .i64 0, .int .i64 0] 76 (by exact KG0.out) [] rfl (fun h => absurd h (by decide)) (by simp) (by intro v hv; cases hv) (w.heap.size + 1 + 1) W0 (by exact (Below.refl _ _).drew) (Nat.le_refl _) ?_; intro w4 hg4 hb4)
  have KG1 : Hid (Blk w4 (w.heap.size + 1 + 1) 76 #[.int .i64 0, .int .i64 0, .int .i64 0]) := Lib.hid hg4.out
  have KS1 := Lib.hid (KS0.out.belowB hb4 (by omega))
  have KR1 := Lib.hid (KR0.out.belowB hb4 (by omega))
  have BW1 := Lib.hid (BW0.out.trans (hb4.mono (by omega)))
  clear hg4 hb4 KG0 KS0 KR0 BW0
  obtain ⟨g0, g1, g2, gl⟩ := three_cells KG1.out
  have gf : ∀ k, w4.frozen? ⟨(w.heap.size + 1 + 1), k, none⟩ = false := fun k => Joins.unfrozen_of_block KG1.out k
  go_wp2_with fail
  have KG2 : Hid (Blk (w4.setCell ⟨(w.heap.size + 1 + 1), 0, none⟩ (.int .i64 b)) (w.heap.size + 1 + 1) 76 #[.int .i64 b, .int .i64 0, .int .i64 0]) := Lib.hid (by have := Joins.block_setCell (i := 0) KG1.out (.int .i64 b); simpa [Blk] using this)
  have HB2 : Below (w.heap.size + 1 + 1) w4 (w4.setCell ⟨(w.heap.size + 1 + 1), 0, none⟩ (.int .i64 b)) := Below.setCell (Below.refl _ _) (show (w.heap.size + 1 + 1) ≤ (⟨(w.heap.size + 1 + 1), 0, none⟩ : Addr).block from Nat.le_refl _) _
  have KS2 := Lib.hid (KS1.out.belowB HB2 (by omega))
  have KR2 := Lib.hid (KR1.out.belowB HB2 (by omega))
  have BW2 := Lib.hid (BW1.out.trans (HB2.mono (by omega)))
  generalize w4.setCell ⟨(w.heap.size + 1 + 1), 0, none⟩ (.int .i64 b) = w5 at *
  clear g0 g1 g2 gl gf HB2 KG1 KS1 KR1 BW1
  have hw1 : IntKind.i64.wrap 1 = 1 := rfl
  go_region_law (refine step_copy_splice rfl (.tmp 18) (.tmp 20) 33 33 rfl 3 Try.underlying33 (by kernel_rfl) (some ⟨(w.heap.size + 1 + 1), 1, none⟩) (some ⟨w.heap.size, 0, none⟩) 2 2 2 2 (by simp [Act.eval, Act.put]) (by simp [Act.eval, Act.put]) (w.heap.size + 1 + 1) 1 [.int .i64 b, .int .i64 0, .int .i64 0] 76 (by exact KG2.out) [.int .i64 x, .int .i64 y] rfl (fun _ => ⟨rfl, _, rfl, fun j v hj => by
      rw [row.opn_add]
      obtain ⟨s0, s1, _⟩ := two_cells KS2.out
      match j, hj with
      | 0, hj => injection hj with hj; subst hj; exact s0
      | 1, hj => injection hj with hj; subst hj; exact s1
      | _ + 2, hj => cases hj⟩) (by simp) (by intro v hv; simp at hv; rcases hv with rfl | rfl <;> rfl) (w.heap.size + 1 + 1) w5 (by exact (Below.refl _ _).drew) (Nat.le_refl _) ?_; intro w4 hg4 hb4)
  have KG3 : Hid (Blk w4 (w.heap.size + 1 + 1) 76 #[.int .i64 b, .int .i64 x, .int .i64 y]) := Lib.hid hg4.out
  have KS3 := Lib.hid (KS2.out.belowB hb4 (by omega))
  have KR3 := Lib.hid (KR2.out.belowB hb4 (by omega))
  have BW3 := Lib.hid (BW2.out.trans (hb4.mono (by omega)))
  clear hg4 hb4 KG2 KS2 KR2 BW2
  obtain ⟨g0, g1, g2, gl⟩ := three_cells KG3.out
  obtain ⟨r0, r1, r2, rl⟩ := three_cells KR3.out
  have rf : ∀ k, w4.frozen? ⟨w.heap.size + 1, k, none⟩ = false := fun k => Joins.unfrozen_of_block KR3.out k
  go_wp2_with fail
  refine bodyPost_ret (v := .agg #[.int .i64 b, .int .i64 x, .int .i64 y]) (by simp [results, Try.results104, go_sem, r0, r1, r2]) rfl ⟨rfl, ?_⟩
  repeat (first | exact BW3.out | (refine Below.setCell ?_ (by simp <;> omega) _))



set_option maxHeartbeats 2000000 in
theorem with1 (x y b : Int) (w : World) : Calls Try.prog 104 #[b2 x y, .int .i64 1, .int .i64 b] w fun e w' => e = .returned (b3 x b y) ∧ Below w.heap.size w w' := by
  obtain ⟨W0, hW0⟩ : ∃ W, W = ((w.alloc (.cells #[.int .i64 x, .int .i64 y] 95)).alloc (.cells #[.int .i64 0, .int .i64 0, .int .i64 0] 76)).alloc (.cells #[.int .i64 0, .int .i64 0, .int .i64 0] 76) := ⟨_, rfl⟩
  have KS0 : Hid (Blk W0 w.heap.size 95 #[.int .i64 x, .int .i64 y]) := Lib.hid (by rw [hW0]; exact ((Blk.new w 95 #[.int .i64 x, .int .i64 y]).alloc _).alloc _)
  have KR0 : Hid (Blk W0 (w.heap.size + 1) 76 #[.int .i64 0, .int .i64 0, .int .i64 0]) := Lib.hid (by rw [hW0]; have := (Blk.new (w.alloc (.cells #[.int .i64 x, .int .i64 y] 95)) 76 #[.int .i64 0, .int .i64 0, .int .i64 0]).alloc (.cells #[.int .i64 0, .int .i64 0, .int .i64 0] 76); simpa using this)
  have KG0 : Hid (Blk W0 (w.heap.size + 1 + 1) 76 #[.int .i64 0, .int .i64 0, .int .i64 0]) := Lib.hid (by rw [hW0]; have := (Blk.new ((w.alloc (.cells #[.int .i64 x, .int .i64 y] 95)).alloc (.cells #[.int .i64 0, .int .i64 0, .int .i64 0] 76)) 76 #[.int .i64 0, .int .i64 0, .int .i64 0]); simpa using this)
  have BW0 : Hid (Below w.heap.size w W0) := Lib.hid (by rw [hW0]; exact below_al (below_al (below_al (Below.refl _ _) _) _) _)
  show Calls Try.prog 104 #[.agg #[.int .i64 x, .int .i64 y], .int .i64 1, .int .i64 b] w _
  go_enter Try.func104, Try.ntmps104
  go_wp2_with fail
  rw [← hW0]
  clear hW0
  go_region_law (refine step_copy_splice rfl (.tmp 9) (.tmp 11) 33 33 rfl 3 Try.underlying33 (by kernel_rfl) (some ⟨(w.heap.size + 1 + 1), 0, none⟩) (some ⟨w.heap.size, 0, none⟩) 1 3 1 2 (by simp [Act.eval, Act.put]) (by simp [Act.eval, Act.put]) (w.heap.size + 1 + 1) 0 [.int .i64 0, .int .i64 0, .int .i64 0] 76 (by exact KG0.out) [.int .i64 x] rfl (fun _ => ⟨rfl, _, rfl, fun j v hj => by
      rw [row.opn_add]
      obtain ⟨s0, s1, _⟩ := two_cells KS0.out
      match j, hj with
      | 0, hj => injection hj with hj; subst hj; exact s0
      | _ + 1, hj => cases hj⟩) (by simp) (by intro v hv; simp at hv; subst hv; rfl) (w.heap.size + 1 + 1) W0 (by exact (Below.refl _ _).drew) (Nat.le_refl _) ?_; intro w4 hg4 hb4)
  have KG1 : Hid (Blk w4 (w.heap.size + 1 + 1) 76 #[.int .i64 x, .int .i64 0, .int .i64 0]) := Lib.hid hg4.out
  have KS1 := Lib.hid (KS0.out.belowB hb4 (by omega))
  have KR1 := Lib.hid (KR0.out.belowB hb4 (by omega))
  have BW1 := Lib.hid (BW0.out.trans (hb4.mono (by omega)))
  clear hg4 hb4 KG0 KS0 KR0 BW0
  obtain ⟨g0, g1, g2, gl⟩ := three_cells KG1.out
  have gf : ∀ k, w4.frozen? ⟨(w.heap.size + 1 + 1), k, none⟩ = false := fun k => Joins.unfrozen_of_block KG1.out k
  go_wp2_with fail
  have KG2 : Hid (Blk (w4.setCell ⟨(w.heap.size + 1 + 1), 1, none⟩ (.int .i64 b)) (w.heap.size + 1 + 1) 76 #[.int .i64 x, .int .i64 b, .int .i64 0]) := Lib.hid (by have := Joins.block_setCell (i := 1) KG1.out (.int .i64 b); simpa [Blk] using this)
  have HB2 : Below (w.heap.size + 1 + 1) w4 (w4.setCell ⟨(w.heap.size + 1 + 1), 1, none⟩ (.int .i64 b)) := Below.setCell (Below.refl _ _) (show (w.heap.size + 1 + 1) ≤ (⟨(w.heap.size + 1 + 1), 1, none⟩ : Addr).block from Nat.le_refl _) _
  have KS2 := Lib.hid (KS1.out.belowB HB2 (by omega))
  have KR2 := Lib.hid (KR1.out.belowB HB2 (by omega))
  have BW2 := Lib.hid (BW1.out.trans (HB2.mono (by omega)))
  generalize w4.setCell ⟨(w.heap.size + 1 + 1), 1, none⟩ (.int .i64 b) = w5 at *
  clear g0 g1 g2 gl gf HB2 KG1 KS1 KR1 BW1
  have hw1 : IntKind.i64.wrap 2 = 2 := rfl
  go_region_law (refine step_copy_splice rfl (.tmp 18) (.tmp 20) 33 33 rfl 3 Try.underlying33 (by kernel_rfl) (some ⟨(w.heap.size + 1 + 1), 2, none⟩) (some ⟨w.heap.size, 1, none⟩) 1 1 1 1 (by simp [Act.eval, Act.put]) (by simp [Act.eval, Act.put]) (w.heap.size + 1 + 1) 2 [.int .i64 x, .int .i64 b, .int .i64 0] 76 (by exact KG2.out) [.int .i64 y] rfl (fun _ => ⟨rfl, _, rfl, fun j v hj => by
      rw [row.opn_add]
      obtain ⟨s0, s1, _⟩ := two_cells KS2.out
      match j, hj with
      | 0, hj => injection hj with hj; subst hj; exact s1
      | _ + 1, hj => cases hj⟩) (by simp) (by intro v hv; simp at hv; subst hv; rfl) (w.heap.size + 1 + 1) w5 (by exact (Below.refl _ _).drew) (Nat.le_refl _) ?_; intro w4 hg4 hb4)
  have KG3 : Hid (Blk w4 (w.heap.size + 1 + 1) 76 #[.int .i64 x, .int .i64 b, .int .i64 y]) := Lib.hid hg4.out
  have KS3 := Lib.hid (KS2.out.belowB hb4 (by omega))
  have KR3 := Lib.hid (KR2.out.belowB hb4 (by omega))
  have BW3 := Lib.hid (BW2.out.trans (hb4.mono (by omega)))
  clear hg4 hb4 KG2 KS2 KR2 BW2
  obtain ⟨g0, g1, g2, gl⟩ := three_cells KG3.out
  obtain ⟨r0, r1, r2, rl⟩ := three_cells KR3.out
  have rf : ∀ k, w4.frozen? ⟨w.heap.size + 1, k, none⟩ = false := fun k => Joins.unfrozen_of_block KR3.out k
  go_wp2_with fail
  refine bodyPost_ret (v := .agg #[.int .i64 x, .int .i64 b, .int .i64 y]) (by simp [results, Try.results104, go_sem, r0, r1, r2]) rfl ⟨rfl, ?_⟩
  repeat (first | exact BW3.out | (refine Below.setCell ?_ (by simp <;> omega) _))



set_option maxHeartbeats 2000000 in
theorem with2 (x y b : Int) (w : World) : Calls Try.prog 104 #[b2 x y, .int .i64 2, .int .i64 b] w fun e w' => e = .returned (b3 x y b) ∧ Below w.heap.size w w' := by
  obtain ⟨W0, hW0⟩ : ∃ W, W = ((w.alloc (.cells #[.int .i64 x, .int .i64 y] 95)).alloc (.cells #[.int .i64 0, .int .i64 0, .int .i64 0] 76)).alloc (.cells #[.int .i64 0, .int .i64 0, .int .i64 0] 76) := ⟨_, rfl⟩
  have KS0 : Hid (Blk W0 w.heap.size 95 #[.int .i64 x, .int .i64 y]) := Lib.hid (by rw [hW0]; exact ((Blk.new w 95 #[.int .i64 x, .int .i64 y]).alloc _).alloc _)
  have KR0 : Hid (Blk W0 (w.heap.size + 1) 76 #[.int .i64 0, .int .i64 0, .int .i64 0]) := Lib.hid (by rw [hW0]; have := (Blk.new (w.alloc (.cells #[.int .i64 x, .int .i64 y] 95)) 76 #[.int .i64 0, .int .i64 0, .int .i64 0]).alloc (.cells #[.int .i64 0, .int .i64 0, .int .i64 0] 76); simpa using this)
  have KG0 : Hid (Blk W0 (w.heap.size + 1 + 1) 76 #[.int .i64 0, .int .i64 0, .int .i64 0]) := Lib.hid (by rw [hW0]; have := (Blk.new ((w.alloc (.cells #[.int .i64 x, .int .i64 y] 95)).alloc (.cells #[.int .i64 0, .int .i64 0, .int .i64 0] 76)) 76 #[.int .i64 0, .int .i64 0, .int .i64 0]); simpa using this)
  have BW0 : Hid (Below w.heap.size w W0) := Lib.hid (by rw [hW0]; exact below_al (below_al (below_al (Below.refl _ _) _) _) _)
  show Calls Try.prog 104 #[.agg #[.int .i64 x, .int .i64 y], .int .i64 2, .int .i64 b] w _
  go_enter Try.func104, Try.ntmps104
  go_wp2_with fail
  rw [← hW0]
  clear hW0
  go_region_law (refine step_copy_splice rfl (.tmp 9) (.tmp 11) 33 33 rfl 3 Try.underlying33 (by kernel_rfl) (some ⟨(w.heap.size + 1 + 1), 0, none⟩) (some ⟨w.heap.size, 0, none⟩) 2 3 2 2 (by simp [Act.eval, Act.put]) (by simp [Act.eval, Act.put]) (w.heap.size + 1 + 1) 0 [.int .i64 0, .int .i64 0, .int .i64 0] 76 (by exact KG0.out) [.int .i64 x, .int .i64 y] rfl (fun _ => ⟨rfl, _, rfl, fun j v hj => by
      rw [row.opn_add]
      obtain ⟨s0, s1, _⟩ := two_cells KS0.out
      match j, hj with
      | 0, hj => injection hj with hj; subst hj; exact s0
      | 1, hj => injection hj with hj; subst hj; exact s1
      | _ + 2, hj => cases hj⟩) (by simp) (by intro v hv; simp at hv; rcases hv with rfl | rfl <;> rfl) (w.heap.size + 1 + 1) W0 (by exact (Below.refl _ _).drew) (Nat.le_refl _) ?_; intro w4 hg4 hb4)
  have KG1 : Hid (Blk w4 (w.heap.size + 1 + 1) 76 #[.int .i64 x, .int .i64 y, .int .i64 0]) := Lib.hid hg4.out
  have KS1 := Lib.hid (KS0.out.belowB hb4 (by omega))
  have KR1 := Lib.hid (KR0.out.belowB hb4 (by omega))
  have BW1 := Lib.hid (BW0.out.trans (hb4.mono (by omega)))
  clear hg4 hb4 KG0 KS0 KR0 BW0
  obtain ⟨g0, g1, g2, gl⟩ := three_cells KG1.out
  have gf : ∀ k, w4.frozen? ⟨(w.heap.size + 1 + 1), k, none⟩ = false := fun k => Joins.unfrozen_of_block KG1.out k
  go_wp2_with fail
  have KG2 : Hid (Blk (w4.setCell ⟨(w.heap.size + 1 + 1), 2, none⟩ (.int .i64 b)) (w.heap.size + 1 + 1) 76 #[.int .i64 x, .int .i64 y, .int .i64 b]) := Lib.hid (by have := Joins.block_setCell (i := 2) KG1.out (.int .i64 b); simpa [Blk] using this)
  have HB2 : Below (w.heap.size + 1 + 1) w4 (w4.setCell ⟨(w.heap.size + 1 + 1), 2, none⟩ (.int .i64 b)) := Below.setCell (Below.refl _ _) (show (w.heap.size + 1 + 1) ≤ (⟨(w.heap.size + 1 + 1), 2, none⟩ : Addr).block from Nat.le_refl _) _
  have KS2 := Lib.hid (KS1.out.belowB HB2 (by omega))
  have KR2 := Lib.hid (KR1.out.belowB HB2 (by omega))
  have BW2 := Lib.hid (BW1.out.trans (HB2.mono (by omega)))
  generalize w4.setCell ⟨(w.heap.size + 1 + 1), 2, none⟩ (.int .i64 b) = w5 at *
  clear g0 g1 g2 gl gf HB2 KG1 KS1 KR1 BW1
  have hw1 : IntKind.i64.wrap 3 = 3 := rfl
  go_region_law (refine step_copy_splice rfl (.tmp 18) (.tmp 20) 33 33 rfl 3 Try.underlying33 (by kernel_rfl) _ _ _ _ _ _ rfl rfl (w.heap.size + 1 + 1) 3 [.int .i64 x, .int .i64 y, .int .i64 b] 76 (by exact KG2.out) [] rfl (fun h => absurd h (by decide)) (by simp) (by intro v hv; cases hv) (w.heap.size + 1 + 1) w5 (by exact (Below.refl _ _).drew) (Nat.le_refl _) ?_; intro w4 hg4 hb4)
  have KG3 : Hid (Blk w4 (w.heap.size + 1 + 1) 76 #[.int .i64 x, .int .i64 y, .int .i64 b]) := Lib.hid hg4.out
  have KS3 := Lib.hid (KS2.out.belowB hb4 (by omega))
  have KR3 := Lib.hid (KR2.out.belowB hb4 (by omega))
  have BW3 := Lib.hid (BW2.out.trans (hb4.mono (by omega)))
  clear hg4 hb4 KG2 KS2 KR2 BW2
  obtain ⟨g0, g1, g2, gl⟩ := three_cells KG3.out
  obtain ⟨r0, r1, r2, rl⟩ := three_cells KR3.out
  have rf : ∀ k, w4.frozen? ⟨w.heap.size + 1, k, none⟩ = false := fun k => Joins.unfrozen_of_block KR3.out k
  go_wp2_with fail
  refine bodyPost_ret (v := .agg #[.int .i64 x, .int .i64 y, .int .i64 b]) (by simp [results, Try.results104, go_sem, r0, r1, r2]) rfl ⟨rfl, ?_⟩
  repeat (first | exact BW3.out | (refine Below.setCell ?_ (by simp <;> omega) _))



set_option maxHeartbeats 2000000 in
theorem without0 (x y z : Int) (w : World) : Calls Try.prog 102 #[b3 x y z, .int .i64 0] w fun e w' => e = .returned (b2 y z) ∧ Below w.heap.size w w' := by
  obtain ⟨W0, hW0⟩ : ∃ W, W = ((w.alloc (.cells #[.int .i64 x, .int .i64 y, .int .i64 z] 76)).alloc (.cells #[.int .i64 0, .int .i64 0] 95)).alloc (.cells #[.int .i64 0, .int .i64 0] 95) := ⟨_, rfl⟩
  have KS0 : Hid (Blk W0 w.heap.size 76 #[.int .i64 x, .int .i64 y, .int .i64 z]) := Lib.hid (by rw [hW0]; exact ((Blk.new w 76 #[.int .i64 x, .int .i64 y, .int .i64 z]).alloc _).alloc _)
  have KR0 : Hid (Blk W0 (w.heap.size + 1) 95 #[.int .i64 0, .int .i64 0]) := Lib.hid (by rw [hW0]; have := (Blk.new (w.alloc (.cells #[.int .i64 x, .int .i64 y, .int .i64 z] 76)) 95 #[.int .i64 0, .int .i64 0]).alloc (.cells #[.int .i64 0, .int .i64 0] 95); simpa using this)
  have KG0 : Hid (Blk W0 (w.heap.size + 1 + 1) 95 #[.int .i64 0, .int .i64 0]) := Lib.hid (by rw [hW0]; have := (Blk.new ((w.alloc (.cells #[.int .i64 x, .int .i64 y, .int .i64 z] 76)).alloc (.cells #[.int .i64 0, .int .i64 0] 95)) 95 #[.int .i64 0, .int .i64 0]); simpa using this)
  have BW0 : Hid (Below w.heap.size w W0) := Lib.hid (by rw [hW0]; exact below_al (below_al (below_al (Below.refl _ _) _) _) _)
  show Calls Try.prog 102 #[.agg #[.int .i64 x, .int .i64 y, .int .i64 z], .int .i64 0] w _
  go_enter Try.func102, Try.ntmps102
  go_wp2_with fail
  rw [← hW0]
  clear hW0
  go_region_law (refine step_copy_splice rfl (.tmp 7) (.tmp 9) 33 33 rfl 3 Try.underlying33 (by kernel_rfl) (some ⟨(w.heap.size + 1 + 1), 0, none⟩) (some ⟨w.heap.size, 0, none⟩) 0 2 0 3 (by simp [Act.eval, Act.put]) (by simp [Act.eval, Act.put]) (w.heap.size + 1 + 1) 0 [.int .i64 0, .int .i64 0] 95 (by exact KG0.out) [] rfl (fun h => absurd h (by decide)) (by simp) (by intro v hv; cases hv) (w.heap.size + 1 + 1) W0 (by exact (Below.refl _ _).drew) (Nat.le_refl _) ?_; intro w4 hg4 hb4)
  have KG1 : Hid (Blk w4 (w.heap.size + 1 + 1) 95 #[.int .i64 0, .int .i64 0]) := Lib.hid hg4.out
  have KS1 := Lib.hid (KS0.out.belowB hb4 (by omega))
  have KR1 := Lib.hid (KR0.out.belowB hb4 (by omega))
  have BW1 := Lib.hid (BW0.out.trans (hb4.mono (by omega)))
  clear hg4 hb4 KG0 KS0 KR0 BW0
  go_wp2_with fail
  have hw1 : IntKind.i64.wrap 1 = 1 := rfl
  go_region_law (refine step_copy_splice rfl (.tmp 12) (.tmp 15) 33 33 rfl 3 Try.underlying33 (by kernel_rfl) (some ⟨(w.heap.size + 1 + 1), 0, none⟩) (some ⟨w.heap.size, 1, none⟩) 2 2 2 2 (by simp [Act.eval, Act.put]) (by simp [Act.eval, Act.put]) (w.heap.size + 1 + 1) 0 [.int .i64 0, .int .i64 0] 95 (by exact KG1.out) [.int .i64 y, .int .i64 z] rfl (fun _ => ⟨rfl, _, rfl, fun j v hj => by
      rw [row.opn_add]
      obtain ⟨s0, s1, s2, _⟩ := three_cells KS1.out
      match j, hj with
      | 0, hj => injection hj with hj; subst hj; exact s1
      | 1, hj => injection hj with hj; subst hj; exact s2
      | _ + 2, hj => cases hj⟩) (by simp) (by intro v hv; simp at hv; rcases hv with rfl | rfl <;> rfl) (w.heap.size + 1 + 1) w4 (by exact (Below.refl _ _).drew) (Nat.le_refl _) ?_; intro w4 hg4 hb4)
  have KG2 : Hid (Blk w4 (w.heap.size + 1 + 1) 95 #[.int .i64 y, .int .i64 z]) := Lib.hid hg4.out
  have KS2 := Lib.hid (KS1.out.belowB hb4 (by omega))
  have KR2 := Lib.hid (KR1.out.belowB hb4 (by omega))
  have BW2 := Lib.hid (BW1.out.trans (hb4.mono (by omega)))
  clear hg4 hb4 KG1 KS1 KR1 BW1
  obtain ⟨g0, g1, gl⟩ := two_cells KG2.out
  obtain ⟨r0, r1, rl⟩ := two_cells KR2.out
  have rf : ∀ k, w4.frozen? ⟨w.heap.size + 1, k, none⟩ = false := fun k => Joins.unfrozen_of_block KR2.out k
  go_wp2_with fail
  refine bodyPost_ret (v := .agg #[.int .i64 y, .int .i64 z]) (by simp [results, Try.results102, go_sem, r0, r1]) rfl ⟨rfl, ?_⟩
  repeat (first | exact BW2.out | (refine Below.setCell ?_ (by simp <;> omega) _))



set_option maxHeartbeats 2000000 in
theorem without1 (x y z : Int) (w : World) : Calls Try.prog 102 #[b3 x y z, .int .i64 1] w fun e w' => e = .returned (b2 x z) ∧ Below w.heap.size w w' := by
  obtain ⟨W0, hW0⟩ : ∃ W, W = ((w.alloc (.cells #[.int .i64 x, .int .i64 y, .int .i64 z] 76)).alloc (.cells #[.int .i64 0, .int .i64 0] 95)).alloc (.cells #[.int .i64 0, .int .i64 0] 95) := ⟨_, rfl⟩
  have KS0 : Hid (Blk W0 w.heap.size 76 #[.int .i64 x, .int .i64 y, .int .i64 z]) := Lib.hid (by rw [hW0]; exact ((Blk.new w 76 #[.int .i64 x, .int .i64 y, .int .i64 z]).alloc _).alloc _)
  have KR0 : Hid (Blk W0 (w.heap.size + 1) 95 #[.int .i64 0, .int .i64 0]) := Lib.hid (by rw [hW0]; have := (Blk.new (w.alloc (.cells #[.int .i64 x, .int .i64 y, .int .i64 z] 76)) 95 #[.int .i64 0, .int .i64 0]).alloc (.cells #[.int .i64 0, .int .i64 0] 95); simpa using this)
  have KG0 : Hid (Blk W0 (w.heap.size + 1 + 1) 95 #[.int .i64 0, .int .i64 0]) := Lib.hid (by rw [hW0]; have := (Blk.new ((w.alloc (.cells #[.int .i64 x, .int .i64 y, .int .i64 z] 76)).alloc (.cells #[.int .i64 0, .int .i64 0] 95)) 95 #[.int .i64 0, .int .i64 0]); simpa using this)
  have BW0 : Hid (Below w.heap.size w W0) := Lib.hid (by rw [hW0]; exact below_al (below_al (below_al (Below.refl _ _) _) _) _)
  show Calls Try.prog 102 #[.agg #[.int .i64 x, .int .i64 y, .int .i64 z], .int .i64 1] w _
  go_enter Try.func102, Try.ntmps102
  go_wp2_with fail
  rw [← hW0]
  clear hW0
  go_region_law (refine step_copy_splice rfl (.tmp 7) (.tmp 9) 33 33 rfl 3 Try.underlying33 (by kernel_rfl) (some ⟨(w.heap.size + 1 + 1), 0, none⟩) (some ⟨w.heap.size, 0, none⟩) 1 2 1 3 (by simp [Act.eval, Act.put]) (by simp [Act.eval, Act.put]) (w.heap.size + 1 + 1) 0 [.int .i64 0, .int .i64 0] 95 (by exact KG0.out) [.int .i64 x] rfl (fun _ => ⟨rfl, _, rfl, fun j v hj => by
      rw [row.opn_add]
      obtain ⟨s0, s1, s2, _⟩ := three_cells KS0.out
      match j, hj with
      | 0, hj => injection hj with hj; subst hj; exact s0
      | _ + 1, hj => cases hj⟩) (by simp) (by intro v hv; simp at hv; subst hv; rfl) (w.heap.size + 1 + 1) W0 (by exact (Below.refl _ _).drew) (Nat.le_refl _) ?_; intro w4 hg4 hb4)
  have KG1 : Hid (Blk w4 (w.heap.size + 1 + 1) 95 #[.int .i64 x, .int .i64 0]) := Lib.hid hg4.out
  have KS1 := Lib.hid (KS0.out.belowB hb4 (by omega))
  have KR1 := Lib.hid (KR0.out.belowB hb4 (by omega))
  have BW1 := Lib.hid (BW0.out.trans (hb4.mono (by omega)))
  clear hg4 hb4 KG0 KS0 KR0 BW0
  go_wp2_with fail
  have hw1 : IntKind.i64.wrap 2 = 2 := rfl
  go_region_law (refine step_copy_splice rfl (.tmp 12) (.tmp 15) 33 33 rfl 3 Try.underlying33 (by kernel_rfl) (some ⟨(w.heap.size + 1 + 1), 1, none⟩) (some ⟨w.heap.size, 2, none⟩) 1 1 1 1 (by simp [Act.eval, Act.put]) (by simp [Act.eval, Act.put]) (w.heap.size + 1 + 1) 1 [.int .i64 x, .int .i64 0] 95 (by exact KG1.out) [.int .i64 z] rfl (fun _ => ⟨rfl, _, rfl, fun j v hj => by
      rw [row.opn_add]
      obtain ⟨s0, s1, s2, _⟩ := three_cells KS1.out
      match j, hj with
      | 0, hj => injection hj with hj; subst hj; exact s2
      | _ + 1, hj => cases hj⟩) (by simp) (by intro v hv; simp at hv; subst hv; rfl) (w.heap.size + 1 + 1) w4 (by exact (Below.refl _ _).drew) (Nat.le_refl _) ?_; intro w4 hg4 hb4)
  have KG2 : Hid (Blk w4 (w.heap.size + 1 + 1) 95 #[.int .i64 x, .int .i64 z]) := Lib.hid hg4.out
  have KS2 := Lib.hid (KS1.out.belowB hb4 (by omega))
  have KR2 := Lib.hid (KR1.out.belowB hb4 (by omega))
  have BW2 := Lib.hid (BW1.out.trans (hb4.mono (by omega)))
  clear hg4 hb4 KG1 KS1 KR1 BW1
  obtain ⟨g0, g1, gl⟩ := two_cells KG2.out
  obtain ⟨r0, r1, rl⟩ := two_cells KR2.out
  have rf : ∀ k, w4.frozen? ⟨w.heap.size + 1, k, none⟩ = false := fun k => Joins.unfrozen_of_block KR2.out k
  go_wp2_with fail
  refine bodyPost_ret (v := .agg #[.int .i64 x, .int .i64 z]) (by simp [results, Try.results102, go_sem, r0, r1]) rfl ⟨rfl, ?_⟩
  repeat (first | exact BW2.out | (refine Below.setCell ?_ (by simp <;> omega) _))



set_option maxHeartbeats 2000000 in
theorem without2 (x y z : Int) (w : World) : Calls Try.prog 102 #[b3 x y z, .int .i64 2] w fun e w' => e = .returned (b2 x y) ∧ Below w.heap.size w w' := by
  obtain ⟨W0, hW0⟩ : ∃ W, W = ((w.alloc (.cells #[.int .i64 x, .int .i64 y, .int .i64 z] 76)).alloc (.cells #[.int .i64 0, .int .i64 0] 95)).alloc (.cells #[.int .i64 0, .int .i64 0] 95) := ⟨_, rfl⟩
  have KS0 : Hid (Blk W0 w.heap.size 76 #[.int .i64 x, .int .i64 y, .int .i64 z]) := Lib.hid (by rw [hW0]; exact ((Blk.new w 76 #[.int .i64 x, .int .i64 y, .int .i64 z]).alloc _).alloc _)
  have KR0 : Hid (Blk W0 (w.heap.size + 1) 95 #[.int .i64 0, .int .i64 0]) := Lib.hid (by rw [hW0]; have := (Blk.new (w.alloc (.cells #[.int .i64 x, .int .i64 y, .int .i64 z] 76)) 95 #[.int .i64 0, .int .i64 0]).alloc (.cells #[.int .i64 0, .int .i64 0] 95); simpa using this)
  have KG0 : Hid (Blk W0 (w.heap.size + 1 + 1) 95 #[.int .i64 0, .int .i64 0]) := Lib.hid (by rw [hW0]; have := (Blk.new ((w.alloc (.cells #[.int .i64 x, .int .i64 y, .int .i64 z] 76)).alloc (.cells #[.int .i64 0, .int .i64 0] 95)) 95 #[.int .i64 0, .int .i64 0]); simpa using this)
  have BW0 : Hid (Below w.heap.size w W0) := Lib.hid (by rw [hW0]; exact below_al (below_al (below_al (Below.refl _ _) _) _) _)
  show Calls Try.prog 102 #[.agg #[.int .i64 x, .int .i64 y, .int .i64 z], .int .i64 2] w _
  go_enter Try.func102, Try.ntmps102
  go_wp2_with fail
  rw [← hW0]
  clear hW0
  go_region_law (refine step_copy_splice rfl (.tmp 7) (.tmp 9) 33 33 rfl 3 Try.underlying33 (by kernel_rfl) (some ⟨(w.heap.size + 1 + 1), 0, none⟩) (some ⟨w.heap.size, 0, none⟩) 2 2 2 3 (by simp [Act.eval, Act.put]) (by simp [Act.eval, Act.put]) (w.heap.size + 1 + 1) 0 [.int .i64 0, .int .i64 0] 95 (by exact KG0.out) [.int .i64 x, .int .i64 y] rfl (fun _ => ⟨rfl, _, rfl, fun j v hj => by
      rw [row.opn_add]
      obtain ⟨s0, s1, s2, _⟩ := three_cells KS0.out
      match j, hj with
      | 0, hj => injection hj with hj; subst hj; exact s0
      | 1, hj => injection hj with hj; subst hj; exact s1
      | _ + 2, hj => cases hj⟩) (by simp) (by intro v hv; simp at hv; rcases hv with rfl | rfl <;> rfl) (w.heap.size + 1 + 1) W0 (by exact (Below.refl _ _).drew) (Nat.le_refl _) ?_; intro w4 hg4 hb4)
  have KG1 : Hid (Blk w4 (w.heap.size + 1 + 1) 95 #[.int .i64 x, .int .i64 y]) := Lib.hid hg4.out
  have KS1 := Lib.hid (KS0.out.belowB hb4 (by omega))
  have KR1 := Lib.hid (KR0.out.belowB hb4 (by omega))
  have BW1 := Lib.hid (BW0.out.trans (hb4.mono (by omega)))
  clear hg4 hb4 KG0 KS0 KR0 BW0
  go_wp2_with fail
  have hw1 : IntKind.i64.wrap 3 = 3 := rfl
  go_region_law (refine step_copy_splice rfl (.tmp 12) (.tmp 15) 33 33 rfl 3 Try.underlying33 (by kernel_rfl) _ _ _ _ _ _ rfl rfl (w.heap.size + 1 + 1) 2 [.int .i64 x, .int .i64 y] 95 (by exact KG1.out) [] rfl (fun h => absurd h (by decide)) (by simp) (by intro v hv; cases hv) (w.heap.size + 1 + 1) w4 (by exact (Below.refl _ _).drew) (Nat.le_refl _) ?_; intro w4 hg4 hb4)
  have KG2 : Hid (Blk w4 (w.heap.size + 1 + 1) 95 #[.int .i64 x, .int .i64 y]) := Lib.hid hg4.out
  have KS2 := Lib.hid (KS1.out.belowB hb4 (by omega))
  have KR2 := Lib.hid (KR1.out.belowB hb4 (by omega))
  have BW2 := Lib.hid (BW1.out.trans (hb4.mono (by omega)))
  clear hg4 hb4 KG1 KS1 KR1 BW1
  obtain ⟨g0, g1, gl⟩ := two_cells KG2.out
  obtain ⟨r0, r1, rl⟩ := two_cells KR2.out
  have rf : ∀ k, w4.frozen? ⟨w.heap.size + 1, k, none⟩ = false := fun k => Joins.unfrozen_of_block KR2.out k
  go_wp2_with fail
  refine bodyPost_ret (v := .agg #[.int .i64 x, .int .i64 y]) (by simp [results, Try.results102, go_sem, r0, r1]) rfl ⟨rfl, ?_⟩
  repeat (first | exact BW2.out | (refine Below.setCell ?_ (by simp <;> omega) _))


end Go.Proofs.Ytomofmmecpdalaa.trb
