/- Plays of any small number of questions: playAt of the program, l7Assignment of the model. -/
import Derived.Test.YtnjaocgciokpaaaPlays
import Derived.Test.YtnjaocgciokpaaaStepw
namespace Go.Proofs.Ytnjaocgciokpaaa.plg
open Go.RowKit Go.Deep Go.Proofs.Ytnjaocgciokpaaa.base
open Go.Proofs.Ytnjaocgciokpaaa.ints (infoInt infoInts)
open Go.Proofs.Ytnjaocgciokpaaa.plays (bit at_ len_at get_at at_succ row_done)

theorem and_one (m : Nat) : bits .and .i64 (m : Int) 1 = ((m % 2 : Nat) : Int) := by
  have e : (BitVec.ofInt 64 (m : Int) &&& BitVec.ofInt 64 1).toNat = m % 2 := by
    rw [BitVec.toNat_and]
    have h1 : (BitVec.ofInt 64 1).toNat = 1 := by decide
    have h2 : (BitVec.ofInt 64 (m : Int)).toNat = m % 2 ^ 64 := by
      rw [BitVec.toNat_ofInt]
      omega
    rw [h1, h2, Nat.and_one_is_mod]
    omega
  show IntKind.i64.wrap (((BitVec.ofInt 64 (m : Int) &&& BitVec.ofInt 64 1).toNat : Nat) : Int) = _
  rw [e]
  exact IntWalk.i64_in _ (by omega)
theorem and_bit (n p k : Nat) : bits .and .i64 ((p : Int) / 2 ^ (n - 1 - k)) 1 = bit n p k := by
  have e : ((p : Int) / 2 ^ (n - 1 - k)) = ((p / 2 ^ (n - 1 - k) : Nat) : Int) := by simp
  rw [e, and_one]
  rfl
theorem bit01 (n p k : Nat) : 0 ≤ bit n p k ∧ bit n p k ≤ 1 := by unfold bit; omega


set_option maxHeartbeats 2000000 in
theorem play_at (n p : Nat) (w : World) (hn : n ≤ 16) :
    Calls Try.prog 94 #[.int .i64 (p : Int), .int .i64 (n : Int)] w fun e w' => ∃ u, e = .returned u ∧ OwnInts w' w.heap.size w'.heap.size u (at_ n p) ∧ Below w.heap.size w w' := by
  have hmk := run_make_row' (P := Try.prog) 22 3 (.int .i64 0) 8 Try.underlying22 infoInt rfl .i64 .i64 n (by omega) (by omega)
  go_enter Try.func94, Try.ntmps94
  go_wp2_with fail
  clear hmk
  go_loopw [6, 11] (fun z i wr => ∃ k : Nat, k ≤ n ∧ i = .int .i64 k ∧ (∃ z', z = z') ∧ Hid (Below w.heap.size w wr) ∧ Hid (wr.rowIs w.heap.size 3 n (fun j => if j < k then .int .i64 (bit n p j) else .int .i64 0))) (fun _ i _ => n - (intOf i).toNat)
  case atStart => exact ⟨0, Nat.zero_le _, rfl, ⟨_, rfl⟩, (Below.refl _ _).alloc (Nat.le_refl _) _, (World.rowIs_made w _ _ _).congr (fun j _ => by simp)⟩
  case round =>
    obtain ⟨k, hk, rfl, ⟨z', rfl⟩, hB, hrow⟩ := hrel
    by_cases hlt : k < n
    · have hkz : (k : Int) < (n : Int) := by omega
      have g2 := hrow.out.cell hlt
      have g3 := hrow.out.frozen k
      simp only [Nat.lt_irrefl, if_false] at g2
      have HX := Lib.hid (and_bit n p k)
      go_wp2_with fail
      rw [HX.out]
      refine ⟨⟨k + 1, by omega, by go_num, ⟨_, rfl⟩, hB.out.setCell (Nat.le_refl _) _, Lib.hid ((hrow.out.set k _).congr (fun j hj => ?_))⟩, by simp [intOf]; omega⟩
      by_cases e : j = k
      · subst e; simp
      · rw [if_neg e]
        by_cases h2 : j < k
        · rw [if_pos h2, if_pos (by omega)]
        · rw [if_neg h2, if_neg (by omega)]
    · have hkz : ¬ (k : Int) < (n : Int) := by omega
      obtain rfl : k = n := by omega
      go_wp2_with fail
      go_ret
      refine ⟨_, rfl, ?_, hB.out⟩
      have := ints.own_of_row (row_done hrow.out) (Nat.le_refl _) hrow.out.lt (by rw [len_at]; unfold maxLen; omega)
      rw [len_at] at this
      exact this


set_option maxHeartbeats 2000000 in
theorem assign (n p : Nat) (w : World) (hn : n ≤ 16) :
    Calls Try.prog 92 #[.int .i64 (n : Int), .int .i64 (p : Int)] w fun e w' => ∃ u, e = .returned u ∧ OwnInts w' w.heap.size w'.heap.size u (at_ n p) ∧ Below w.heap.size w w' := by
  obtain ⟨i0, hi, hz0, hz1, hz2⟩ := info_parts infoInt
  have hn16 : (n : Int) ≤ 16 := by omega
  have B0 := Lib.hid (below_al (Below.refl w.heap.size w) (.cells #[] 3))
  have O0 : Hid ((w.alloc (.cells #[] 3)).ownsRow w.heap.size 3 1 (.slice (some ⟨w.heap.size, 0, none⟩) 0 0) 0 (i64s ((List.range 0).map (bit n p)))) := Lib.hid (by
    have := World.ownsRow_made (base := w.heap.size) (e := 3) (size := 1) w #[] 0 (Nat.le_refl _) (Nat.zero_le _) rfl
    simpa [i64s] using this)
  go_enter Try.func92, Try.ntmps92
  go_wp2_with fail
  go_loopw [5, 6] (fun out q wr => ∃ k : Nat, k ≤ n ∧ q = .int .i64 k ∧ Hid (wr.ownsRow w.heap.size 3 1 out k (i64s ((List.range k).map (bit n p)))) ∧ Hid (Below w.heap.size w wr)) (fun _ q _ => n - (intOf q).toNat)
  case atStart => exact ⟨0, Nat.zero_le _, rfl, O0, B0⟩
  case round =>
    clear O0 B0
    obtain ⟨k, hk, rfl, hO, hB⟩ := hrel
    obtain ⟨wi, rfl⟩ : ∃ wi : World, wi = wr := ⟨_, rfl⟩
    have hsz := hB.out.size
    by_cases hlt : k < n
    · have hkz : (k : Int) < (n : Int) := by omega
      obtain ⟨y, hy⟩ : ∃ y, bit n p k = y := ⟨_, rfl⟩
      have HY := Lib.hid hy
      have hx : bits .and .i64 ((p : Int) / 2 ^ (n - 1 - k)) 1 = y := (and_bit n p k).trans hy
      clear hy
      go_wp2_with (at_builtin; go_must (refine wpList_append_own _ rfl (.tmp 13) (.tmp 21) 22 rfl (w.heap.size) 3 i0 (.int .i64 0) 1 8 Try.underlying22 hi hz0 hz1 hz2 rfl (by decide) _ _ _ rfl (hO.out.alloc _) ⟨wi.heap.size, 0, none⟩ 1 1 [.int .i64 y] rfl rfl ?c1 ?c2 ?c3 ?c4 ?c5 ?_))
      try (case c1 => first | exact app.one_at _ _ _ | (intro q u hq; have h5 := app.one_at wi (.int .i64 y) 3 q u hq; simpa using h5))
      case c2 => first | rfl | (intro u hu; simp at hu; subst hu; rfl)
      case c3 => unfold maxLen; omega
      case c4 => omega
      try (case c5 => first | omega | (simp; omega))
      intro v9 w9 hown hgrow _
      have B9 := Lib.hid ((below_al hB.out _).grown hgrow (by simp; omega) (fun j hj => by have := (hO.out.lt j hj).1; omega))
      have O9 := Lib.hid hown
      rw [app.i64s_snoc] at O9
      clear hown hgrow
      go_wp2_with fail
      go_roundw
      case rel => exact ⟨k + 1, by omega, by go_num, Lib.hid (by rw [at_succ, HY.out]; exact O9.out), B9⟩
      case measure => simp [intOf]; omega
    · have hkz : ¬ (k : Int) < (n : Int) := by omega
      obtain rfl : k = n := by omega
      go_wp2_with fail
      go_ret
      exact ⟨_, rfl, app.ints_of_owns hO.out, hB.out⟩

end Go.Proofs.Ytnjaocgciokpaaa.plg
