/- BoxScore of both sides. -/
import Derived.Test.YtlaaiahkdkhehabGfuns
import Derived.Test.YtlaaiahkdkhehabWorthc
namespace Go.Proofs.Ytlaaiahkdkhehab.bsc
open Go.RowKit Go.Deep Go.Proofs.Ytlaaiahkdkhehab.base
open Go.Proofs.Ytlaaiahkdkhehab.rws (total)
open Go.Proofs.Ytlaaiahkdkhehab.val (okSizes okBox boxB boxB_yes boxB_no)
open Go.Proofs.Ytlaaiahkdkhehab.gval (okGame gameB gameB_yes gameB_no)
open Go.Proofs.Ytlaaiahkdkhehab.row (nn)
open Go.Proofs.Ytlaaiahkdkhehab.gwon (wt wt_bd nn_bd)

theorem fun_ok {x y : Int} {ws : List Int} {xss : List (List Int)} (h : okGame x y ws xss) : worth.okFun x y (gfun.rows ws xss (x.toNat * y.toNat)) := by
  refine ⟨h.1, ?_, fun k hk => ?_⟩
  · unfold gfun.rows
    rw [make.len_rowsOf, Int.natCast_mul, Int.toNat_of_nonneg (by have := h.1.1; omega), Int.toNat_of_nonneg (by have := h.1.2; omega)]
  · have e : (gfun.rows ws xss (x.toNat * y.toNat))[k] = make.quad (gfun.N ws xss) k := by simp [gfun.rows, make.rowsOf]
    rw [e]
    have hb : ∀ c, -99 ≤ gfun.N ws xss k c ∧ gfun.N ws xss k c ≤ 99 := fun c => by
      have h1 := wt_bd h k
      have h2 := nn_bd h k c
      unfold gfun.N
      have hx : nn xss k c = 0 ∨ nn xss k c = 1 := by omega
      rcases hx with e | e <;> rw [e] <;> omega
    refine ⟨rfl, fun j hj => ?_⟩
    have hj' : j < 4 := hj
    match j, hj' with
    | 0, _ => exact hb 0
    | 1, _ => exact hb 1
    | 2, _ => exact hb 2
    | 3, _ => exact hb 3
open Classical in
noncomputable def res (x y : Int) (ws : List Int) (wss : List (List Int)) (bx bY wh : Int) (xss : List (List Int)) : Int × Bool := if okGame x y ws wss ∧ bx = x ∧ bY = y then worth.res x y wh (gfun.rows ws wss (x.toNat * y.toNat)) xss else (0, false)
theorem res_yes {x y wh : Int} {ws : List Int} {wss xss : List (List Int)} (h : okGame x y ws wss) : res x y ws wss x y wh xss = worth.res x y wh (gfun.rows ws wss (x.toNat * y.toNat)) xss := if_pos ⟨h, rfl, rfl⟩
theorem res_no {x y bx bY wh : Int} {ws : List Int} {wss xss : List (List Int)} (h : ¬ (okGame x y ws wss ∧ bx = x ∧ bY = y)) : res x y ws wss bx bY wh xss = (0, false) := if_neg h





end Go.Proofs.Ytlaaiahkdkhehab.bsc
