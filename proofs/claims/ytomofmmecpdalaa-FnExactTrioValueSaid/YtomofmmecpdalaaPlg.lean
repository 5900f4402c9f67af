/- Plays of any small number of questions: playAt of the program, l7Assignment of the model. -/
import Derived.Test.YtomofmmecpdalaaPlays
import Derived.Test.YtomofmmecpdalaaStepw
namespace Go.Proofs.Ytomofmmecpdalaa.plg
open Go.RowKit Go.Deep Go.Proofs.Ytomofmmecpdalaa.base
open Go.Proofs.Ytomofmmecpdalaa.ints (infoInt infoInts)
open Go.Proofs.Ytomofmmecpdalaa.plays (bit at_ len_at get_at at_succ row_done)

theorem and_one (m : Nat) : bits .and .i64 (m : Int) 1 = ((m % 2 : Nat) : Int) := by
  have e : (BitVec.ofInt 64 (m : Int) &&& BitVec.ofInt 64 1).toNat = m % 2 := by
    rw [BitVec.toNat_and]
    have h1 : (BitVec.ofInt 64 1).toNat = 1 := by decide
    have h2 : (BitVec.ofInt 64 (m : Int)).toNat = m % 2 ^ 64 := by
      rw [BitVec.toNat_ofInt]
      omega
    rw [h1, h2, Nat.and_one_is_mod]
    omega
  show IntKind.i64.wrap (((BitVec.ofInt 64 (m : Int) &&& BitVec.ofInt 64 1).toNat : Nat) : Int) = _
  rw [e]
  exact IntWalk.i64_in _ (by omega)
theorem and_bit (n p k : Nat) : bits .and .i64 ((p : Int) / 2 ^ (n - 1 - k)) 1 = bit n p k := by
  have e : ((p : Int) / 2 ^ (n - 1 - k)) = ((p / 2 ^ (n - 1 - k) : Nat) : Int) := by simp
  rw [e, and_one]
  rfl
theorem bit01 (n p k : Nat) : 0 ≤ bit n p k ∧ bit n p k ≤ 1 := by unfold bit; omega


set_option maxHeartbeats 2000000 in
theorem play_at (n p : Nat) (w : World) (hn : n ≤ 16) :
    Calls Try.prog 90 #[.int .i64 (p : Int), .int .i64 (n : Int)] w fun e w' => ∃ u, e = .returned u ∧ OwnInts w' w.heap.size w'.heap.size u (at_ n p) ∧ Below w.heap.size w w' := by
  have hmk := run_make_row' (P := Try.prog) 33 3 (.int .i64 0) 8 Try.underlying33 infoInt rfl .i64 .i64 n (by omega) (by omega)
  go_enter Try.func90, Try.ntmps90
  go_wp2_with fail
  clear hmk
  go_loopw [6, 11] (fun z i wr => ∃ k : Nat, k ≤ n ∧ i = .int .i64 k ∧ (∃ z', z = z') ∧ Hid (Below w.heap.size w wr) ∧ Hid (wr.rowIs w.heap.size 3 n (fun j => if j < k then .int .i64 (bit n p j) else .int .i64 0))) (fun _ i _ => n - (intOf i).toNat)
  case atStart => exact ⟨0, Nat.zero_le _, rfl, ⟨_, rfl⟩, (Below.refl _ _).alloc (Nat.le_refl _) _, (World.rowIs_made w _ _ _).congr (fun j _ => by simp)⟩
  case round =>
    obtain ⟨k, hk, rfl, ⟨z', rfl⟩, hB, hrow⟩ := hrel
    by_cases hlt : k < n
    · have hkz : (k : Int) < (n : Int) := by omega
      have g2 := hrow.out.cell hlt
      have g3 := hrow.out.frozen k
      simp only [Nat.lt_irrefl, if_false] at g2
      have HX := Lib.hid (and_bit n p k)
      go_wp2_with fail
      rw [HX.out]
      refine ⟨⟨k + 1, by omega, by go_num, ⟨_, rfl⟩, hB.out.setCell (Nat.le_refl _) _, Lib.hid ((hrow.out.set k _).congr (fun j hj => ?_))⟩, by simp [intOf]; omega⟩
      by_cases e : j = k
      · subst e; simp
      · rw [if_neg e]
        by_cases h2 : j < k
        · rw [if_pos h2, if_pos (by omega)]
        · rw [if_neg h2, if_neg (by omega)]
    · have hkz : ¬ (k : Int) < (n : Int) := by omega
      obtain rfl : k = n := by omega
      go_wp2_with fail
      go_ret
      refine ⟨_, rfl, ?_, hB.out⟩
      have := ints.own_of_row (row_done hrow.out) (Nat.le_refl _) hrow.out.lt (by rw [len_at]; unfold maxLen; omega)
      rw [len_at] at this
      exact this


end Go.Proofs.Ytomofmmecpdalaa.plg
