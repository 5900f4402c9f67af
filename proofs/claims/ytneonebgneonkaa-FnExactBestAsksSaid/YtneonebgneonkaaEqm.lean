/- EqualSumBox of both sides. -/
import Derived.Test.YtneonebgneonkaaEqr
namespace Go.Proofs.Ytneonebgneonkaa.eqm
open Go.RowKit Go.Deep Go.Proofs.Ytneonebgneonkaa.base
open Go.Proofs.Ytneonebgneonkaa.ints (ret_int infoInt infoInts)
open Go.Proofs.Ytneonebgneonkaa.rws (total)
open Go.Proofs.Ytneonebgneonkaa.val (okSizes okBox)

open Classical in
noncomputable def res (k : Int) : make.Res := if 0 ≤ k ∧ k ≤ 7 then ⟨2, 2, 2, make.rowsOf (eqs.N k.toNat) 4, true⟩ else make.Res.zero
theorem res_yes {k : Nat} (h : k < 8) : res (k : Int) = ⟨2, 2, 2, make.rowsOf (eqs.N k) 4, true⟩ := if_pos (by omega)
theorem res_no {k : Int} (h : ¬ (0 ≤ k ∧ k ≤ 7)) : res k = make.Res.zero := if_neg h
theorem tot (k : Int) : total (res k).rows ≤ 1048576 := by
  by_cases h : 0 ≤ k ∧ k ≤ 7
  · rw [show res k = ⟨2, 2, 2, make.rowsOf (eqs.N k.toNat) 4, true⟩ from if_pos h]; exact make.total_rowsOf _ _ (by omega)
  · rw [res_no h]; exact Nat.zero_le _
theorem ok (k : Nat) : okBox 2 2 2 (make.rowsOf (eqs.N k) 4) :=
  make.ok_rowsOf (x := 2) (y := 2) ⟨by omega, by omega⟩ (by omega) (fun r _ => by
    have h := eqs.odd_lt k r
    refine make.okRow_quad (fun j hj => ?_) ?_
    · unfold eqs.N; split <;> omega
    · show eqs.N k r 0 + eqs.N k r 1 + eqs.N k r 2 + eqs.N k r 3 = 2
      simp only [eqs.N]; simp; omega)



theorem kind_yes (k : Int) (w : World) (h : 0 ≤ k ∧ k ≤ 7) : Calls Try.prog 94 #[.int .i64 k] w fun e w' => e = .returned (.bool true) ∧ w = w' := by
  obtain ⟨h0, h1⟩ := h
  go_enter Try.func94, Try.ntmps94
  go_wp2_with fail
  refine (val.in_yes _ _ _ _ h0 h1).mono ?_
  rintro e w' ⟨rfl, rfl⟩
  go_wp2_with fail
  go_ret
  exact ⟨rfl, rfl⟩
theorem kind_no (k : Int) (w : World) (h : ¬ (0 ≤ k ∧ k ≤ 7)) : Calls Try.prog 94 #[.int .i64 k] w fun e w' => e = .returned (.bool false) ∧ w = w' := by
  have hb : k < 0 ∨ 7 < k := by omega
  clear h
  go_enter Try.func94, Try.ntmps94
  go_wp2_with fail
  refine (val.in_no _ _ _ _ hb).mono ?_
  rintro e w' ⟨rfl, rfl⟩
  clear hb
  go_wp2_with fail
  go_ret
  exact ⟨rfl, rfl⟩


theorem is_yes (k : Int) (w : World) (h : 0 ≤ k ∧ k ≤ 7) : Calls Try.prog 97 #[.int .i64 k] w fun e w' => e = .returned (.bool true) ∧ w = w' := by
  obtain ⟨h0, h1⟩ := h
  have d0 : decide (0 ≤ k) = true := by simp [h0]
  have d1 : decide (k < 8) = true := by simp; omega
  go_enter Try.func97, Try.ntmps97
  go_wp2
  go_ret
  exact ⟨rfl, rfl⟩
theorem is_no (k : Int) (w : World) (h : ¬ (0 ≤ k ∧ k ≤ 7)) : Calls Try.prog 97 #[.int .i64 k] w fun e w' => e = .returned (.bool false) ∧ w = w' := by
  by_cases h0 : 0 ≤ k
  · have d0 : decide (0 ≤ k) = true := by simp [h0]
    have d1 : decide (k < 8) = false := by simp; omega
    clear h h0
    go_enter Try.func97, Try.ntmps97
    go_wp2
    go_ret
    exact ⟨rfl, rfl⟩
  · have d0 : decide (0 ≤ k) = false := by simp; omega
    clear h h0
    go_enter Try.func97, Try.ntmps97
    go_wp2
    go_ret
    exact ⟨rfl, rfl⟩

def Z : Array Value := #[.int .i64 0, .int .i64 0, .int .i64 0, .slice none 0 0]



end Go.Proofs.Ytneonebgneonkaa.eqm
