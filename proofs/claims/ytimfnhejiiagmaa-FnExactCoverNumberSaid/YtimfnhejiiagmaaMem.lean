/- l8Members of the model. -/
import Derived.Test.YtimfnhejiiagmaaPlg
import Derived.Test.YtimfnhejiiagmaaApp
namespace Go.Proofs.Ytimfnhejiiagmaa.mem
open Go.RowKit Go.Deep Go.Proofs.Ytimfnhejiiagmaa.base
open Go.Proofs.Ytimfnhejiiagmaa.ints (infoInt)

/-- the numbers below k whose digit in a code is 1 -/
def mem (c k : Nat) : List Int := ((List.range k).filter fun i => decide (c / 2 ^ i % 2 = 1)).map fun (i : Nat) => ((i : Nat) : Int)
theorem mem_yes {c k : Nat} (h : c / 2 ^ k % 2 = 1) : mem c (k + 1) = mem c k ++ [((k : Nat) : Int)] := by
  unfold mem; rw [List.range_succ, List.filter_append]; simp [h]
theorem mem_no {c k : Nat} (h : ¬ c / 2 ^ k % 2 = 1) : mem c (k + 1) = mem c k := by
  unfold mem; rw [List.range_succ, List.filter_append]; simp [h]
theorem mem_len (c k : Nat) : (mem c k).length ≤ k := by
  unfold mem; rw [List.length_map]; exact Nat.le_trans (List.length_filter_le _ _) (by simp)

set_option maxRecDepth 100000 in
set_option maxHeartbeats 4000000 in
theorem members (n c : Nat) (hn : n ≤ 16) (w : World) : Calls Try.prog 166 #[.int .i64 (n : Int), .int .i64 (c : Int)] w fun e w' => ∃ u, e = .returned u ∧ OwnInts w' w.heap.size w'.heap.size u (mem c n) ∧ Below w.heap.size w w' := by
  obtain ⟨i0, hi, hz0, hz1, hz2⟩ := info_parts infoInt
  have B0 := Lib.hid (below_al (Below.refl w.heap.size w) (.cells #[] 3))
  have O0 : Hid ((w.alloc (.cells #[] 3)).ownsRow w.heap.size 3 1 (.slice (some ⟨w.heap.size, 0, none⟩) 0 0) (mem c 0).length (i64s (mem c 0))) := Lib.hid (by
    have := World.ownsRow_made (base := w.heap.size) (e := 3) (size := 1) w #[] 0 (Nat.le_refl _) (Nat.zero_le _) rfl
    simpa [i64s, mem] using this)
  have nz : (n : Int) ≤ 16 := by omega
  go_enter Try.func166, Try.ntmps166
  go_wp2_with fail
  go_loopw [5, 6] (fun v j wr => ∃ k : Nat, k ≤ n ∧ j = .int .i64 (k : Nat) ∧ Hid (wr.ownsRow w.heap.size 3 1 v (mem c k).length (i64s (mem c k))) ∧ Hid (Below w.heap.size w wr)) (fun _ j _ => n - (intOf j).toNat)
  case atStart => exact ⟨0, Nat.zero_le _, rfl, O0, B0⟩
  case round =>
    clear O0 B0
    obtain ⟨k, hk, rfl, hO, hB⟩ := hrel
    obtain ⟨wi, rfl⟩ : ∃ wi : World, wi = wr := ⟨_, rfl⟩
    have hsz := hB.out.size
    by_cases hlt : k < n
    · have hkz : (k : Int) < (n : Int) := by omega
      have hb : bits .and .i64 ((c : Int) / 2 ^ k) 1 = ((c / 2 ^ k % 2 : Nat) : Int) := by
        have e : ((c : Int) / 2 ^ k) = ((c / 2 ^ k : Nat) : Int) := by simp
        rw [e, plg.and_one]
      have HLT := Lib.hid hlt
      have HCL := Lib.hid (mem_len c k)
      by_cases h0 : c / 2 ^ k % 2 = 1
      · have HY := Lib.hid (mem_yes h0)
        rw [h0] at hb
        have hb : bits .and .i64 ((c : Int) / 2 ^ k) 1 = 1 := hb
        obtain ⟨m, hm⟩ : ∃ m, (mem c k).length = m := ⟨_, rfl⟩
        rw [hm] at hO HCL
        have m15 : m ≤ 16 := by have := HCL.out; omega
        have HN : Hid ((mem c (k + 1)).length = m + 1) := Lib.hid (by rw [HY.out, List.length_append, hm]; rfl)
        clear h0 hm
        go_wp2_with (at_builtin; go_must (refine wpList_append_own _ rfl (.tmp 18) (.tmp 20) 34 rfl (w.heap.size) 3 i0 (.int .i64 0) 1 8 Try.underlying34 hi hz0 hz1 hz2 rfl (by decide) _ _ _ rfl (hO.out.alloc _) ⟨wi.heap.size, 0, none⟩ 1 1 [.int .i64 (k : Int)] rfl rfl ?c1 ?c2 ?c3 ?c4 ?c5 ?_))
        try (case c1 => first | exact app.one_at _ _ _ | (intro q u hq; have h5 := app.one_at wi (.int .i64 (k : Int)) 3 q u hq; simpa using h5))
        case c2 => first | rfl | (intro u hu; simp at hu; subst hu; rfl)
        case c3 => unfold maxLen; omega
        case c4 => omega
        try (case c5 => first | omega | (simp; omega))
        intro v9 w9 hown hgrow _
        have B9 := Lib.hid ((below_al hB.out _).grown hgrow (by simp; omega) (fun j hj => by have := (hO.out.lt j hj).1; omega))
        have O9 := Lib.hid hown
        rw [app.i64s_snoc] at O9
        clear hown hgrow
        go_wp2_with fail
        go_roundw
        case rel => exact ⟨k + 1, by have := HLT.out; omega, by go_num, Lib.hid (by rw [HN.out, HY.out]; exact O9.out), B9⟩
        case measure => have := HLT.out; simp [intOf]; omega
      · have HY := Lib.hid (mem_no h0)
        have hne : (((c / 2 ^ k % 2 : Nat) : Int) == 1) = false := beq_false_of_ne (fun e => h0 (by exact_mod_cast e))
        generalize ((c / 2 ^ k % 2 : Nat) : Int) = q at hb hne
        clear h0
        go_wp2_with fail
        go_roundw
        case rel => exact ⟨k + 1, by have := HLT.out; omega, by go_num, Lib.hid (by rw [HY.out]; exact hO.out), hB⟩
        case measure => have := HLT.out; simp [intOf]; omega
    · have hkz : ¬ (k : Int) < (n : Int) := by omega
      obtain rfl : k = n := by omega
      have HO : Hid (OwnInts wi w.heap.size wi.heap.size u5 (mem c k)) := Lib.hid (app.ints_of_owns hO.out)
      go_wp2_with fail
      go_ret
      exact ⟨_, rfl, HO.out, hB.out⟩

end Go.Proofs.Ytimfnhejiiagmaa.mem
