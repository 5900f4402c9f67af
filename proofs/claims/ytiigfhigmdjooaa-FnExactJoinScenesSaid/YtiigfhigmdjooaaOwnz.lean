/- l1Own of the model: a copy in memory of its own, of any list. -/
import Derived.Test.YtiigfhigmdjooaaOwn
import Derived.Deep.Upon
import Derived.Lib.AppendZerosOnto
namespace Go.Proofs.Ytiigfhigmdjooaa.own
open Go.RowKit Go.Deep Go.Proofs.Ytiigfhigmdjooaa.base
open Go.Proofs.Ytiigfhigmdjooaa.ints (ret_int infoInt infoInts)

set_option maxHeartbeats 1000000 in
theorem l1own_any (v : Value) (xs : List Int) (w : World) (h : Ints w v xs) (hn : xs.length ≤ 1048576) :
    Calls Try.prog 78 #[v] w fun e w' => ∃ r, e = .returned r ∧ w'.ownsRow w.heap.size 3 1 r xs.length (i64s xs) ∧ Below w.heap.size w w' := by
  by_cases z : 0 < xs.length
  · exact l1own v xs w h hn z
  · obtain rfl : xs = [] := List.eq_nil_of_length_eq_zero (by omega)
    obtain ⟨i0, hi, hz0, hz1, hz2⟩ := info_parts infoInt
    obtain ⟨A, cap, rfl, _, _, _⟩ := h
    have hs : Src Try.prog i0.size 39 (.slice A 0 cap) 0 [] (w.alloc (.cells #[] 3)) := by
      cases A with
      | none => exact Src.ofNil _ Try.underlying39 cap
      | some a => exact Src.ofSlice _ Try.underlying39 a 0 cap [] (by simp) (fun j u hu => by simp at hu) (fun u hu => by simp at hu)
    have hrun : ∀ ty, (Builtin.append_ #[39, 39] ty #[.slice (some ⟨w.heap.size, 0, none⟩) 0 0, .slice A 0 cap]).run Try.prog (w.alloc (.cells #[] 3)) = .ok (.slice (some ⟨w.heap.size, 0, none⟩) 0 0) (w.alloc (.cells #[] 3)) := fun ty =>
      run_append_nothing (P := Try.prog) (w.alloc (.cells #[] 3)) 39 39 ty 3 i0 Try.underlying39 hi (some ⟨w.heap.size, 0, none⟩) 0 0 (Nat.le_refl _) _ hs
    have O0 : Hid ((w.alloc (.cells #[] 3)).ownsRow w.heap.size 3 1 (.slice (some ⟨w.heap.size, 0, none⟩) 0 0) 0 (i64s [])) := Lib.hid (by
      have := World.ownsRow_made (base := w.heap.size) (e := 3) (size := 1) w #[] 0 (by simp) (Nat.zero_le _) rfl
      simpa [i64s] using this)
    clear hs
    go_enter Try.func78, Try.ntmps78
    go_wp2_with (at_builtin; refine Lib.wpList_append_run _ rfl _ _ _ _ rfl _ _ rfl rfl _ _ (hrun _) ?_)
    all_goals
      go_ret
      exact ⟨_, rfl, O0.out, below_al (Below.refl _ _) _⟩

end Go.Proofs.Ytiigfhigmdjooaa.own
