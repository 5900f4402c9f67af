/- SumFunctional: what it answers. -/
import Derived.Test.YtimfnhejiiagmaaQfo
import Derived.Test.YtimfnhejiiagmaaMk
import Derived.Test.YtimfnhejiiagmaaPrt
namespace Go.Proofs.Ytimfnhejiiagmaa.sfm
open Go.RowKit Go.Deep Go.Proofs.Ytimfnhejiiagmaa.base
open Go.Proofs.Ytimfnhejiiagmaa.qfo (okFour)
open Go.Proofs.Ytimfnhejiiagmaa.rws (total)

/-- the sign of place k where m has the minus -/
def sg (m k : Int) : Int := if k = m then -1 else 1
theorem sg_yes (k : Int) : sg k k = -1 := if_pos rfl
theorem sg_no {m k : Int} (h : ¬ k = m) : sg m k = 1 := if_neg h
/-- the sign of the row i, j -/
def fs (a b c d m i j : Int) : Int :=
  if i = b ∧ j = d then sg m 3 else if i = b ∧ j = c then sg m 2 else if i = a ∧ j = d then sg m 1 else if i = a ∧ j = c then sg m 0 else 0
theorem sg_bd (m k : Int) : -1 ≤ sg m k ∧ sg m k ≤ 1 := by unfold sg; split <;> omega
theorem fs_bd (a b c d m i j : Int) : -1 ≤ fs a b c d m i j ∧ fs a b c d m i j ≤ 1 := by
  unfold fs
  repeat' split
  all_goals first | exact sg_bd _ _ | omega
/-- the numbers of the row t -/
def N (a b c d m : Int) (Y : Nat) (t k : Nat) : Int := if k = 0 ∨ k = 3 then fs a b c d m ((t / Y : Nat) : Int) ((t % Y : Nat) : Int) else - fs a b c d m ((t / Y : Nat) : Int) ((t % Y : Nat) : Int)
theorem N_at (a b c d m : Int) (Y r s : Nat) (hs : s < Y) : N a b c d m Y (r * Y + s) 0 = fs a b c d m r s ∧ N a b c d m Y (r * Y + s) 1 = - fs a b c d m r s ∧ N a b c d m Y (r * Y + s) 2 = - fs a b c d m r s ∧ N a b c d m Y (r * Y + s) 3 = fs a b c d m r s := by
  have e1 : (r * Y + s) / Y = r := by rw [Nat.add_comm, Nat.add_mul_div_right _ _ (by omega), Nat.div_eq_of_lt hs, Nat.zero_add]
  have e2 : (r * Y + s) % Y = s := by rw [Nat.add_comm, Nat.add_mul_mod_self_right, Nat.mod_eq_of_lt hs]
  unfold N
  rw [e1, e2]
  simp
def rows (a b c d m : Int) (Y n : Nat) : List (List Int) := make.rowsOf (N a b c d m Y) n
theorem rows_succ (a b c d m : Int) (Y t : Nat) : rows a b c d m Y (t + 1) = rows a b c d m Y t ++ [make.quad (N a b c d m Y) t] := by simp [rows, make.rowsOf, List.range_succ]
open Classical in
noncomputable def res (x y a b c d m : Int) : List (List Int) × Bool := if okFour x y a b c d m then (rows a b c d m y.toNat (x.toNat * y.toNat), true) else ([], false)
theorem res_yes {x y a b c d m : Int} (h : okFour x y a b c d m) : res x y a b c d m = (rows a b c d m y.toNat (x.toNat * y.toNat), true) := if_pos h
theorem res_no {x y a b c d m : Int} (h : ¬ okFour x y a b c d m) : res x y a b c d m = ([], false) := if_neg h
theorem mul9 {x y a b c d m : Int} (h : okFour x y a b c d m) : x.toNat * y.toNat ≤ 9 := by
  have h1 : x.toNat ≤ 3 := by have := h.1.1; omega
  have h2 : y.toNat ≤ 3 := by have := h.1.2; omega
  exact Nat.mul_le_mul h1 h2
theorem tot (x y a b c d m : Int) : total (res x y a b c d m).1 ≤ 1048576 := by
  by_cases h : okFour x y a b c d m
  · rw [res_yes h]; exact make.total_rowsOf _ _ (mul9 h)
  · rw [res_no h]; exact Nat.zero_le _
theorem held22 {w w' : World} {p0 p1 p2 p3 : Addr} {u0 u1 u2 u3 : Value} (h0 : w.cell? p0 = some u0) (h1 : w.cell? p1 = some u1) (h2 : w.cell? p2 = some u2) (h3 : w.cell? p3 = some u3) (hb : Below w.heap.size w w') :
    w'.cell? p0 = some u0 ∧ w'.cell? p1 = some u1 ∧ w'.cell? p2 = some u2 ∧ w'.cell? p3 = some u3 ∧ Below w.heap.size w w' :=
  ⟨below_cell hb _ _ h0, below_cell hb _ _ h1, below_cell hb _ _ h2, below_cell hb _ _ h3, hb⟩
/-- the two pairs in memory of the call's own -/
structure Two2 (w wr : World) (a b c d : Int) : Prop where
  below : Below w.heap.size w wr
  one : Blk wr w.heap.size 26 #[.int .i64 a, .int .i64 b]
  two : Blk wr (w.heap.size + 1) 26 #[.int .i64 c, .int .i64 d]
theorem Two2.keep {w wr w' : World} {a b c d : Int} (h : Two2 w wr a b c d) (hb : Below wr.heap.size wr w') : Two2 w w' a b c d := ⟨below_tr h.below hb, h.one.below hb, h.two.below hb⟩
theorem Two2.start (w : World) (a b c d : Int) : Two2 w ((w.alloc (.cells #[.int .i64 a, .int .i64 b] 26)).alloc (.cells #[.int .i64 c, .int .i64 d] 26)) a b c d :=
  ⟨below_al (below_al (Below.refl _ _) _) _, (Blk.new _ _ _).alloc _, by
    have := Blk.new (w.alloc (.cells #[.int .i64 a, .int .i64 b] 26)) 26 #[.int .i64 c, .int .i64 d]
    simpa using this⟩
end Go.Proofs.Ytimfnhejiiagmaa.sfm
