/- What MixWirings answers. -/
import Derived.Test.YtiigfhigmdjooaaRls
import Derived.Test.YtiigfhigmdjooaaWrm
import Derived.Test.YtiigfhigmdjooaaMixt
namespace Go.Proofs.Ytiigfhigmdjooaa.mxw
open Go.RowKit Go.Deep Go.Proofs.Ytiigfhigmdjooaa.base
open Go.Proofs.Ytiigfhigmdjooaa.rws (total)
open Go.Proofs.Ytiigfhigmdjooaa.rls (R3)

def at_ (rs : List R3) (i : Nat) : R3 := rs.getD i ⟨[], [], []⟩
theorem at_get {rs : List R3} {i : Nat} (h : i < rs.length) : at_ rs i = rs[i] := by simp [at_, List.getD, h]
section
variable (x y wh : Int) (xss : List (List Int)) (x' y' wh' : Int) (yss : List (List Int)) (rs ts : List R3)
/-- the wiring by the Rules of one place -/
noncomputable def wi (i : Nat) : make.Res := wrm.res x y wh xss x' y' wh' yss (at_ rs i).f (at_ rs i).k (at_ rs i).s (at_ ts i).f (at_ ts i).k (at_ ts i).s
noncomputable def mx (a b : make.Res) : make.Res := mix.res a.x a.y a.wh a.rows b.x b.y b.wh b.rows
/-- the mixture of the wirings up to a place -/
noncomputable def st : Nat → make.Res
  | 0 => wi x y wh xss x' y' wh' yss rs ts 0
  | i + 1 => mx (st i) (wi x y wh xss x' y' wh' yss rs ts (i + 1))
noncomputable def res : make.Res := if 0 < rs.length ∧ rs.length = ts.length then st x y wh xss x' y' wh' yss rs ts (rs.length - 1) else make.Res.zero
end
variable {x y wh : Int} {xss : List (List Int)} {x' y' wh' : Int} {yss : List (List Int)} {rs ts : List R3}
theorem mx_zero (b : make.Res) : mx make.Res.zero b = make.Res.zero := mix.res_no (fun h => by
  have h1 : (1 : Int) ≤ 0 := h.1.1.1.1.1
  omega)
theorem mx_bad (a b : make.Res) (h : b = make.Res.zero) : mx a b = make.Res.zero := by
  subst h
  exact mix.res_no (fun h => by
    have h1 : (1 : Int) ≤ 0 := h.1.2.1.1.1.1
    omega)
theorem wi_ok (i : Nat) : wi x y wh xss x' y' wh' yss rs ts i = make.Res.zero ∨ (wi x y wh xss x' y' wh' yss rs ts i).ok = true := by
  unfold wi
  by_cases h : (wrm.both x y wh xss x' y' wh' yss ∧ wrm.rule (at_ rs i).f (at_ rs i).k (at_ rs i).s ∧ wrm.rule (at_ ts i).f (at_ ts i).k (at_ ts i).s) ∧ wh * wh' ≤ 1000
  · right; rw [wrm.res_yes h]
  · left; exact wrm.res_no h
theorem mx_ok (a b : make.Res) : mx a b = make.Res.zero ∨ (mx a b).ok = true := by
  unfold mx
  by_cases h : mix.all a.x a.y a.wh a.rows b.x b.y b.wh b.rows
  · right; rw [mix.res_yes h]
  · left; exact mix.res_no h
theorem st_ok : ∀ i, st x y wh xss x' y' wh' yss rs ts i = make.Res.zero ∨ (st x y wh xss x' y' wh' yss rs ts i).ok = true
  | 0 => wi_ok 0
  | _ + 1 => mx_ok _ _
theorem st_stop {i : Nat} (h : st x y wh xss x' y' wh' yss rs ts i = make.Res.zero) : ∀ j, st x y wh xss x' y' wh' yss rs ts (i + j) = make.Res.zero
  | 0 => h
  | j + 1 => by
    show mx (st x y wh xss x' y' wh' yss rs ts (i + j)) _ = _
    rw [st_stop h j, mx_zero]
theorem st_stop' {i n : Nat} (h : st x y wh xss x' y' wh' yss rs ts i = make.Res.zero) (hn : i ≤ n) : st x y wh xss x' y' wh' yss rs ts n = make.Res.zero := by
  have := st_stop h (n - i)
  rwa [show i + (n - i) = n from by omega] at this
theorem tot_wi (i : Nat) : total (wi x y wh xss x' y' wh' yss rs ts i).rows ≤ 1048576 := wrm.tot_res
theorem tot_st : ∀ i, total (st x y wh xss x' y' wh' yss rs ts i).rows ≤ 1048576
  | 0 => tot_wi 0
  | _ + 1 => mix.tot _ _ _ _ _ _ _ _
theorem res_yes (h : 0 < rs.length ∧ rs.length = ts.length) : res x y wh xss x' y' wh' yss rs ts = st x y wh xss x' y' wh' yss rs ts (rs.length - 1) := if_pos h
theorem res_no (h : ¬ (0 < rs.length ∧ rs.length = ts.length)) : res x y wh xss x' y' wh' yss rs ts = make.Res.zero := if_neg h
theorem tot_res : total (res x y wh xss x' y' wh' yss rs ts).rows ≤ 1048576 := by
  by_cases h : 0 < rs.length ∧ rs.length = ts.length
  · rw [res_yes h]; exact tot_st _
  · rw [res_no h]; exact Nat.zero_le _
/-- two Boxes that are none: every wiring is none -/
theorem wi_bad (h : ¬ (wrm.both x y wh xss x' y' wh' yss ∧ wh * wh' ≤ 1000)) (i : Nat) : wi x y wh xss x' y' wh' yss rs ts i = make.Res.zero := wrm.res_no (fun h' => h ⟨h'.1.1, h'.2⟩)
theorem st_bad (h : ¬ (wrm.both x y wh xss x' y' wh' yss ∧ wh * wh' ≤ 1000)) (i : Nat) : st x y wh xss x' y' wh' yss rs ts i = make.Res.zero := st_stop' (i := 0) (wi_bad h 0) (Nat.zero_le _)

end Go.Proofs.Ytiigfhigmdjooaa.mxw
