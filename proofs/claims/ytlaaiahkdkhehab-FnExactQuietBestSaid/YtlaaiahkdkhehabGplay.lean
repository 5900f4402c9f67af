/- A Game with a play of it; PlayScore of both sides. -/
import Derived.Test.YtlaaiahkdkhehabGscore
namespace Go.Proofs.Ytlaaiahkdkhehab.gplay
open Go.RowKit Go.Deep Go.Proofs.Ytlaaiahkdkhehab.base
open Go.Proofs.Ytlaaiahkdkhehab.ints (ret_int)
open Go.Proofs.Ytlaaiahkdkhehab.rws (total)
open Go.Proofs.Ytlaaiahkdkhehab.val (okSizes ret_b)
open Go.Proofs.Ytlaaiahkdkhehab.gval (okGame gameB gameB_yes gameB_no)
open Go.Proofs.Ytlaaiahkdkhehab.play (within withinB withinB_yes withinB_no)
open Go.Proofs.Ytlaaiahkdkhehab.gscore (score)

open Classical in
/-- whether there is a valid Game and a play of it -/
noncomputable def plB (x y : Int) (ws : List Int) (xss : List (List Int)) (p : List Int) : Bool := if okGame x y ws xss ∧ within (x + y) 0 1 p then true else false
theorem plB_yes {x y : Int} {ws : List Int} {xss : List (List Int)} {p : List Int} (h : okGame x y ws xss) (h' : within (x + y) 0 1 p) : plB x y ws xss p = true := if_pos ⟨h, h'⟩
theorem plB_no {x y : Int} {ws : List Int} {xss : List (List Int)} {p : List Int} (h : ¬ (okGame x y ws xss ∧ within (x + y) 0 1 p)) : plB x y ws xss p = false := if_neg h
open Classical in
noncomputable def res (x y : Int) (ws : List Int) (xss : List (List Int)) (p : List Int) : Int × Bool := if okGame x y ws xss ∧ within (x + y) 0 1 p then (score x.toNat y.toNat ws xss p, true) else (0, false)
theorem res_yes {x y : Int} {ws : List Int} {xss : List (List Int)} {p : List Int} (h : okGame x y ws xss) (h' : within (x + y) 0 1 p) : res x y ws xss p = (score x.toNat y.toNat ws xss p, true) := if_pos ⟨h, h'⟩
theorem res_no {x y : Int} {ws : List Int} {xss : List (List Int)} {p : List Int} (h : ¬ (okGame x y ws xss ∧ within (x + y) 0 1 p)) : res x y ws xss p = (0, false) := if_neg h









end Go.Proofs.Ytlaaiahkdkhehab.gplay
