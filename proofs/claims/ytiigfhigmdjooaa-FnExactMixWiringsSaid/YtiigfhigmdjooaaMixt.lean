/- MixBoxes of the model: the plain words, the whole. -/
import Derived.Test.YtiigfhigmdjooaaMixs
import Derived.Test.YtiigfhigmdjooaaAlike
namespace Go.Proofs.Ytiigfhigmdjooaa.mix
open Go.RowKit Go.Deep Go.Proofs.Ytiigfhigmdjooaa.base
open Go.Proofs.Ytiigfhigmdjooaa.rws (total)
open Go.Proofs.Ytiigfhigmdjooaa.val (okSizes okBox boxB boxB_yes boxB_no)
open Go.Proofs.Ytiigfhigmdjooaa.row (nn nn_bd at_ at_lt)
open Go.Proofs.Ytiigfhigmdjooaa.alike (same sameB sameB_yes sameB_no)

def all (x y wh : Int) (xss : List (List Int)) (x' y' wh' : Int) (yss : List (List Int)) : Prop := same x y wh xss x' y' wh' yss ∧ wh + wh' ≤ 1000
open Classical in
noncomputable def res (x y wh : Int) (xss : List (List Int)) (x' y' wh' : Int) (yss : List (List Int)) : make.Res := if all x y wh xss x' y' wh' yss then ⟨x, y, wh + wh', make.rowsOf (N xss yss) (x * y).toNat, true⟩ else make.Res.zero
theorem res_yes {x y wh : Int} {xss : List (List Int)} {x' y' wh' : Int} {yss : List (List Int)} (h : all x y wh xss x' y' wh' yss) : res x y wh xss x' y' wh' yss = ⟨x, y, wh + wh', make.rowsOf (N xss yss) (x * y).toNat, true⟩ := if_pos h
theorem res_no {x y wh : Int} {xss : List (List Int)} {x' y' wh' : Int} {yss : List (List Int)} (h : ¬ all x y wh xss x' y' wh' yss) : res x y wh xss x' y' wh' yss = make.Res.zero := if_neg h
theorem tot (x y wh : Int) (xss : List (List Int)) (x' y' wh' : Int) (yss : List (List Int)) : total (res x y wh xss x' y' wh' yss).rows ≤ 1048576 := by
  by_cases h : all x y wh xss x' y' wh' yss
  · rw [res_yes h]; exact make.total_rowsOf _ _ (by have := val.mul_small h.1.1.1; omega)
  · rw [res_no h]; exact Nat.zero_le _
theorem sum4 {wh : Int} {row : List Int} (h : val.okRow wh row) : row.getD 0 0 + row.getD 1 0 + row.getD 2 0 + row.getD 3 0 = wh ∧ ∀ k, k < 4 → 0 ≤ row.getD k 0 ∧ row.getD k 0 ≤ wh := by
  obtain ⟨h1, h2, h3⟩ := h
  match row, h1 with
  | [a, b, c, d], _ =>
    have e0 := h2 0 (by simp)
    have e1 := h2 1 (by simp)
    have e2 := h2 2 (by simp)
    have e3 := h2 3 (by simp)
    simp at h3 e0 e1 e2 e3
    refine ⟨by simp; omega, fun k hk => ?_⟩
    match k, hk with
    | 0, _ => simp; omega
    | 1, _ => simp; omega
    | 2, _ => simp; omega
    | 3, _ => simp; omega

theorem box_ok {X Y : Nat} {wh wh' : Int} {xss yss : List (List Int)} (h : okBox X Y wh xss) (h' : okBox X Y wh' yss) (h3 : wh + wh' ≤ 1000) : okBox X Y (wh + wh') (make.rowsOf (N xss yss) (X * Y)) := by
  refine make.ok_rowsOf h.1 ⟨by have := h.2.1; have := h'.2.1; omega, h3⟩ (fun r hr => ?_)
  have hl := h.2.2.1
  have hl' := h'.2.2.1
  have hr1 : r < xss.length := by rw [← Int.natCast_mul] at hl; omega
  have hr2 : r < yss.length := by rw [← Int.natCast_mul] at hl'; omega
  obtain ⟨hs, h4⟩ := sum4 (row.row_ok h hr1)
  obtain ⟨hs', h4'⟩ := sum4 (row.row_ok h' hr2)
  refine make.okRow_quad (fun k hk => ?_) ?_
  · have := h4 k hk
    have := h4' k hk
    unfold N nn; omega
  · show ((xss.getD r []).getD 0 0 + (yss.getD r []).getD 0 0) + ((xss.getD r []).getD 1 0 + (yss.getD r []).getD 1 0) + ((xss.getD r []).getD 2 0 + (yss.getD r []).getD 2 0) + ((xss.getD r []).getD 3 0 + (yss.getD r []).getD 3 0) = wh + wh'
    omega
theorem box_bad {X Y : Nat} {wh wh' : Int} {xss yss : List (List Int)} (h : ¬ wh + wh' ≤ 1000) : ¬ okBox X Y (wh + wh') (make.rowsOf (N xss yss) (X * Y)) := fun h' => h h'.2.1.2

/-- rows in memory of their own from B on, or none at all -/
def Low (w : World) (B : Nat) (r : Value) (xss : List (List Int)) : Prop := (∃ k D, built.Apart w B r k D ∧ (List.range k).map D = xss) ∨ (r = .slice none 0 0 ∧ xss = [])
theorem Low.rows {w : World} {B : Nat} {r : Value} {xss : List (List Int)} (h : Low w B r xss) : IRows w r xss := by
  rcases h with ⟨k, D, h, rfl⟩ | ⟨rfl, rfl⟩
  · exact h.rows
  · exact IRows.nil _
theorem Low.low {w w' : World} {B : Nat} {r : Value} {xss : List (List Int)} (h : Low w B r xss) (hw : Wrote (fun p => p.block < B) w w') : Low w' B r xss := by
  rcases h with ⟨k, D, h, rfl⟩ | ⟨rfl, rfl⟩
  · exact .inl ⟨k, D, h.low hw, rfl⟩
  · exact .inr ⟨rfl, rfl⟩





end Go.Proofs.Ytiigfhigmdjooaa.mix
