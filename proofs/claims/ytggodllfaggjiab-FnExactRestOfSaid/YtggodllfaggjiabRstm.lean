/- RestOf: the mathematics. -/
import Derived.Test.YtggodllfaggjiabPart
import Derived.Test.YtggodllfaggjiabMake
import Derived.Test.YtggodllfaggjiabEqs
namespace Go.Proofs.Ytggodllfaggjiab.rsto
open Go.RowKit Go.Deep Go.Proofs.Ytggodllfaggjiab.base
open Go.Proofs.Ytggodllfaggjiab.rws (total)
open Go.Proofs.Ytggodllfaggjiab.val (okBox okSizes)
open Go.Proofs.Ytggodllfaggjiab.row (nn nn_bd)
open Go.Proofs.Ytggodllfaggjiab.two (qt)
open Go.Proofs.Ytggodllfaggjiab.part (pk ps share pk_lt ps_bd)

/-- the rows of the rest, and its Whole -/
def G (wh : Int) (xss : List (List Int)) (r c : Nat) : Int := nn xss r c * 2 - eqs.N (pk xss) r c * share (ps xss) wh
def W (wh : Int) (xss : List (List Int)) : Int := 2 * wh - 2 * share (ps xss) wh
def M (wh : Int) (xss : List (List Int)) : List (List Int) := make.rowsOf (G wh xss) 4
open Classical in
noncomputable def res (x y wh : Int) (xss : List (List Int)) : make.Res := if qt x y wh xss then (if okBox 2 2 (W wh xss) (M wh xss) then ⟨2, 2, W wh xss, M wh xss, true⟩ else make.Res.zero) else make.Res.zero
theorem res_out {x y wh : Int} {xss : List (List Int)} (h : ¬ qt x y wh xss) : res x y wh xss = make.Res.zero := if_neg h
theorem res_yes {x y wh : Int} {xss : List (List Int)} (h : qt x y wh xss) (k : okBox 2 2 (W wh xss) (M wh xss)) : res x y wh xss = ⟨2, 2, W wh xss, M wh xss, true⟩ := by unfold res; rw [if_pos h, if_pos k]
theorem res_no {x y wh : Int} {xss : List (List Int)} (h : qt x y wh xss) (k : ¬ okBox 2 2 (W wh xss) (M wh xss)) : res x y wh xss = make.Res.zero := by unfold res; rw [if_pos h, if_neg k]
theorem tot (x y wh : Int) (xss : List (List Int)) : total (res x y wh xss).rows ≤ 1048576 := by
  unfold res
  split
  · split
    · exact make.total_rowsOf _ _ (by omega)
    · exact Nat.zero_le _
  · exact Nat.zero_le _
theorem share_bd {wh : Int} {xss : List (List Int)} (h : okBox 2 2 wh xss) : 0 ≤ share (ps xss) wh ∧ share (ps xss) wh ≤ 4000 := by
  have h1 := ps_bd h
  have h2 := h.2.1
  unfold share
  split <;> omega
theorem N_bd (k r c : Nat) : eqs.N k r c = 0 ∨ eqs.N k r c = 1 := by
  have : eqs.odd k r = 0 ∨ eqs.odd k r = 1 := by unfold eqs.odd; omega
  unfold eqs.N
  split <;> omega
end Go.Proofs.Ytggodllfaggjiab.rsto
