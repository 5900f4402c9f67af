/- BoxCode of the program. -/
import Derived.Test.YtnjaocgciokpaabRlo
import Derived.Test.YtnjaocgciokpaabCdi
import Derived.Test.YtnjaocgciokpaabAsk
namespace Go.Proofs.Ytnjaocgciokpaab.bcd
open Go.RowKit Go.Deep Go.Proofs.Ytnjaocgciokpaab.base
open Go.Proofs.Ytnjaocgciokpaab.ints (ret_int infoInt)
open Go.Proofs.Ytnjaocgciokpaab.val (okBox boxB boxB_yes boxB_no)
open Go.Proofs.Ytnjaocgciokpaab.rws (total)
open Go.Proofs.Ytnjaocgciokpaab.oco
open Go.Proofs.Ytnjaocgciokpaab.ocs (two_cells' three_cells' four_cells' R)
open Go.Proofs.Ytnjaocgciokpaab.rlo
open Go.Proofs.Ytnjaocgciokpaab.cdm (lt lt_le)

/-- the number with which the bit i of the string k is guessed -/
def bc (xss : List (List Int)) (k i : Nat) : Int := rn (lt k i) (pair xss i (k % 2) (k / 2))
def pre (xss : List (List Int)) (n : Nat) : List Int := (List.range n).map fun t => bc xss (t / 2) (t % 2)
theorem pre_succ (xss : List (List Int)) (n : Nat) : pre xss (n + 1) = pre xss n ++ [bc xss (n / 2) (n % 2)] := by simp [pre, List.range_succ]
theorem len_pre (xss : List (List Int)) (n : Nat) : (pre xss n).length = n := by simp [pre]
theorem pre_at (xss : List (List Int)) {k i : Nat} (h : i < 2) : pre xss (2 * k + (i + 1)) = pre xss (2 * k + i) ++ [bc xss k i] := by
  rw [← Nat.add_assoc, pre_succ, show (2 * k + i) / 2 = k by omega, show (2 * k + i) % 2 = i by omega]
def okT (x y wh : Int) (xss : List (List Int)) : Prop := okBox x y wh xss ∧ x = 2 ∧ y = 2
open Classical in
noncomputable def res (x y wh : Int) (xss : List (List Int)) : List Int × Bool := if okT x y wh xss then (pre xss 8, true) else ([], false)
theorem res_yes {x y wh : Int} {xss : List (List Int)} (h : okT x y wh xss) : res x y wh xss = (pre xss 8, true) := if_pos h
theorem res_no {x y wh : Int} {xss : List (List Int)} (h : ¬ okT x y wh xss) : res x y wh xss = ([], false) := if_neg h
theorem len_res (x y wh : Int) (xss : List (List Int)) : (res x y wh xss).1.length ≤ 1048576 := by
  by_cases h : okT x y wh xss
  · rw [res_yes h, len_pre]; decide
  · rw [res_no h]; exact Nat.zero_le _


end Go.Proofs.Ytnjaocgciokpaab.bcd
