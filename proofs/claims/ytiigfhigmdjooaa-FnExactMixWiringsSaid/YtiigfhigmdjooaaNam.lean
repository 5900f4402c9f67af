/- SumRuleBy and NamedRule of the program. -/
import Derived.Test.YtiigfhigmdjooaaRby
namespace Go.Proofs.Ytiigfhigmdjooaa.rby
open Go.RowKit Go.Deep Go.Proofs.Ytiigfhigmdjooaa.base
open Go.Proofs.Ytiigfhigmdjooaa.ints (ret_int)
open Go.Proofs.Ytiigfhigmdjooaa.play (within withinB withinB_yes withinB_no)
open Go.Proofs.Ytiigfhigmdjooaa.scene (three_cells)
open Go.Proofs.Ytiigfhigmdjooaa.rule (RV OR)

/-- a Rule that is answered -/
structure RR where
  f : List Int
  k : List (List Int)
  s : List (List Int)
  ok : Bool
def RR.zero : RR := ⟨[], [], [], false⟩
def made (xs ys : List Int) : RR := ⟨[0, 1], halves xs, [ys, ys], true⟩
open Classical in
noncomputable def sumR (xs : List Int) : RR := if within 4 0 1 xs then made xs [0, 1, 1, 0] else RR.zero
theorem sumR_yes {xs : List Int} (h : within 4 0 1 xs) : sumR xs = made xs [0, 1, 1, 0] := if_pos h
theorem sumR_no {xs : List Int} (h : ¬ within 4 0 1 xs) : sumR xs = RR.zero := if_neg h
def say (a : Int) : List Int := if a = 1 then [0, 0, 1, 1] else if a = 2 then [0, 1, 0, 1] else [0, 1, 1, 0]
def named (a : Int) : RR := if 1 ≤ a ∧ a ≤ 3 then made [0, 0, 1, 1] (say a) else RR.zero
theorem len_say (a : Int) : (say a).length = 4 := by
  unfold say
  split
  · rfl
  · split <;> rfl
theorem lens (r : RR) (h : r = RR.zero ∨ ∃ xs ys, ys.length = 4 ∧ r = made xs ys) : r.f.length ≤ 1048576 ∧ rws.total r.k ≤ 1048576 ∧ rws.total r.s ≤ 1048576 := by
  rcases h with rfl | ⟨xs, ys, hy, rfl⟩
  · exact ⟨by decide, by decide, by decide⟩
  · refine ⟨by show (2 : Nat) ≤ _; decide, by simp [made, halves, rws.total], by simp [made, rws.total, hy]⟩
theorem len_sumR (xs : List Int) : (sumR xs).f.length ≤ 1048576 ∧ rws.total (sumR xs).k ≤ 1048576 ∧ rws.total (sumR xs).s ≤ 1048576 := lens _ (by
  by_cases h : within 4 0 1 xs
  · exact .inr ⟨xs, _, rfl, sumR_yes h⟩
  · exact .inl (sumR_no h))
theorem len_named (a : Int) : (named a).f.length ≤ 1048576 ∧ rws.total (named a).k ≤ 1048576 ∧ rws.total (named a).s ≤ 1048576 := lens _ (by
  by_cases h : 1 ≤ a ∧ a ≤ 3
  · exact .inr ⟨_, _, len_say a, if_pos h⟩
  · exact .inl (if_neg h))

/-- four numbers just built -/
theorem four_new (w : World) (xs : List Int) (a b c d : Int) (h : xs = [a, b, c, d]) : Ints (w.alloc (.cells #[.int .i64 a, .int .i64 b, .int .i64 c, .int .i64 d] 3)) (.slice (some ⟨w.heap.size, 0, none⟩) 4 4) xs := by
  subst h
  exact (st3.ints_blk (xs := [a, b, c, d]) rfl (Blk.new w _ _) (by unfold maxLen; exact (show (4 : Nat) ≤ 2 ^ 63 - 1 by decide))).ints





end Go.Proofs.Ytiigfhigmdjooaa.rby
