/- The total of a Game of both sides; a Game with a play of it. -/
import Derived.Test.YtimfnhejiiagmaaGvali
namespace Go.Proofs.Ytimfnhejiiagmaa.gtot
open Go.RowKit Go.Deep Go.Proofs.Ytimfnhejiiagmaa.base
open Go.Proofs.Ytimfnhejiiagmaa.ints (ret_int)
open Go.Proofs.Ytimfnhejiiagmaa.rws (total)
open Go.Proofs.Ytimfnhejiiagmaa.val (okSizes sum_take_succ ret_b)
open Go.Proofs.Ytimfnhejiiagmaa.gval (okGame gameB gameB_yes gameB_no)
open Go.Proofs.Ytimfnhejiiagmaa.play (within withinB withinB_yes withinB_no)

theorem ws_len {x y : Int} {ws : List Int} {xss : List (List Int)} (h : okGame x y ws xss) : ws.length ≤ 9 ∧ xss.length ≤ 9 := by
  have := (val.mul_small h.1).2
  have := h.2.1; have := h.2.2.1
  omega
theorem sum_bd {x y : Int} {ws : List Int} {xss : List (List Int)} (h : okGame x y ws xss) : ∀ k, k ≤ ws.length → 0 ≤ (ws.take k).sum ∧ (ws.take k).sum ≤ 99 * k := by
  intro k
  induction k with
  | zero => intro _; simp
  | succ k ih =>
    intro hk
    have h1 := ih (by omega)
    have h2 := h.2.2.2.1 k (by omega)
    rw [sum_take_succ ws k (by omega)]
    omega





open Classical in
noncomputable def res (x y : Int) (ws : List Int) (xss : List (List Int)) : Int × Bool := if okGame x y ws xss then (ws.sum, true) else (0, false)
theorem res_yes {x y : Int} {ws : List Int} {xss : List (List Int)} (h : okGame x y ws xss) : res x y ws xss = (ws.sum, true) := if_pos h
theorem res_no {x y : Int} {ws : List Int} {xss : List (List Int)} (h : ¬ okGame x y ws xss) : res x y ws xss = (0, false) := if_neg h





end Go.Proofs.Ytimfnhejiiagmaa.gtot
