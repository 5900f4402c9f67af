/- A Game with a play of it; PlayScore of both sides. -/
import Derived.Test.YtimfnhejiiagmaaGscore
namespace Go.Proofs.Ytimfnhejiiagmaa.gplay
open Go.RowKit Go.Deep Go.Proofs.Ytimfnhejiiagmaa.base
open Go.Proofs.Ytimfnhejiiagmaa.ints (ret_int)
open Go.Proofs.Ytimfnhejiiagmaa.rws (total)
open Go.Proofs.Ytimfnhejiiagmaa.val (okSizes ret_b)
open Go.Proofs.Ytimfnhejiiagmaa.gval (okGame gameB gameB_yes gameB_no)
open Go.Proofs.Ytimfnhejiiagmaa.play (within withinB withinB_yes withinB_no)
open Go.Proofs.Ytimfnhejiiagmaa.gscore (score)

open Classical in
/-- whether there is a valid Game and a play of it -/
noncomputable def plB (x y : Int) (ws : List Int) (xss : List (List Int)) (p : List Int) : Bool := if okGame x y ws xss ∧ within (x + y) 0 1 p then true else false
theorem plB_yes {x y : Int} {ws : List Int} {xss : List (List Int)} {p : List Int} (h : okGame x y ws xss) (h' : within (x + y) 0 1 p) : plB x y ws xss p = true := if_pos ⟨h, h'⟩
theorem plB_no {x y : Int} {ws : List Int} {xss : List (List Int)} {p : List Int} (h : ¬ (okGame x y ws xss ∧ within (x + y) 0 1 p)) : plB x y ws xss p = false := if_neg h
open Classical in
noncomputable def res (x y : Int) (ws : List Int) (xss : List (List Int)) (p : List Int) : Int × Bool := if okGame x y ws xss ∧ within (x + y) 0 1 p then (score x.toNat y.toNat ws xss p, true) else (0, false)
theorem res_yes {x y : Int} {ws : List Int} {xss : List (List Int)} {p : List Int} (h : okGame x y ws xss) (h' : within (x + y) 0 1 p) : res x y ws xss p = (score x.toNat y.toNat ws xss p, true) := if_pos ⟨h, h'⟩
theorem res_no {x y : Int} {ws : List Int} {xss : List (List Int)} {p : List Int} (h : ¬ (okGame x y ws xss ∧ within (x + y) 0 1 p)) : res x y ws xss p = (0, false) := if_neg h









end Go.Proofs.Ytimfnhejiiagmaa.gplay
