/- isOrder of the program. -/
import Derived.Test.YtfkdhdiacelcjaaOrd
namespace Go.Proofs.Ytfkdhdiacelcjaa.ord
open Go.RowKit Go.Deep Go.Proofs.Ytfkdhdiacelcjaa.base
open Go.Proofs.Ytfkdhdiacelcjaa.val (ret_b)
open Go.Proofs.Ytfkdhdiacelcjaa.play (within withinB withinB_yes withinB_no)

/-- has i come among the first k -/
def seen (xs : List Int) (k : Nat) (i : Int) : Bool := (xs.take k).contains i
def marks (xs : List Int) (k : Nat) : Array Value := #[.bool (seen xs k 0), .bool (seen xs k 1), .bool (seen xs k 2)]
theorem seen_succ {xs : List Int} {k : Nat} (h : k < xs.length) (i : Int) : seen xs (k + 1) i = (seen xs k i || (i == xs[k])) := by
  have e : xs.take (k + 1) = xs.take k ++ [xs[k]] := by simp
  unfold seen
  rw [List.contains_eq_mem, List.contains_eq_mem, e]
  simp only [List.mem_append, List.mem_singleton]
  by_cases h1 : i ∈ xs.take k <;> by_cases h2 : i = xs[k]
  · rw [decide_eq_true (.inl h1), decide_eq_true h1]; rfl
  · rw [decide_eq_true (.inl h1), decide_eq_true h1]; rfl
  · rw [decide_eq_true (.inr h2), decide_eq_false h1, beq_iff_eq.2 h2]; rfl
  · rw [decide_eq_false (fun h => h.elim h1 h2), decide_eq_false h1, beq_eq_false_iff_ne.2 h2]; rfl
theorem marks_set {xs : List Int} {k v : Nat} (h : k < xs.length) (hv : v < 3) (e : xs[k] = (v : Int)) : (marks xs k).setIfInBounds v (.bool true) = marks xs (k + 1) := by
  unfold marks
  rw [seen_succ h, seen_succ h, seen_succ h, e]
  obtain rfl | rfl | rfl : v = 0 ∨ v = 1 ∨ v = 2 := by omega
  all_goals simp
theorem marks_get (xs : List Int) (k v : Nat) (hv : v < 3) : (marks xs k)[v]? = some (.bool (seen xs k (v : Int))) := by
  obtain rfl | rfl | rfl : v = 0 ∨ v = 1 ∨ v = 2 := by omega
  all_goals rfl


set_option maxHeartbeats 2000000 in
theorem impl_order (v : Value) (xs : List Int) (n : Nat) (w : World) (h : Ints w v xs) (h1 : 1 ≤ n) (h3 : n ≤ 3) :
    Calls Try.prog 73 #[v, .int .i64 (n : Int)] w fun e w' => e = .returned (.bool (orderB n xs)) ∧ Below w.heap.size w w' := by
  have HW := Lib.hid (play.impl_within v xs n 0 ((n : Int) - 1) w h)
  obtain ⟨A, b, o, cap, rfl, hcap, hmax, hA, hc⟩ := h.form
  have hm : (xs.length : Int) ≤ 9223372036854775807 := by unfold maxLen at hmax; omega
  have kn : IntKind.i64.wrap ((n : Int) - 1) = (n : Int) - 1 := IntWalk.i64_in _ (by omega)
  have HOI := Lib.hid (order_iff (n := n) (xs := xs) (by omega) (by omega))
  clear h hmax
  by_cases hw : within n 0 ((n : Int) - 1) xs
  · have HE := Lib.hid (withinB_yes hw)
    have HWI := Lib.hid hw
    have K0 := Lib.hid (Blk.new w 97 #[.bool false, .bool false, .bool false])
    have KM : Hid (Blk (w.alloc (.cells #[.bool false, .bool false, .bool false] 97)) w.heap.size 97 (marks xs 0)) := Lib.hid (by have := K0.out; simpa [marks, seen] using this)
    clear hw
    go_enter Try.func73, Try.ntmps73
    go_wp2_with fail
    refine HW.out.mono ?_
    rintro e w' ⟨rfl, rfl⟩
    rw [HE.out]
    go_wp2_with fail
    go_loopw [4, 7, 16] (fun q z i wr => ∃ k : Nat, k ≤ xs.length ∧ i = .int .i64 k ∧ q = .bool false ∧ (∃ z', z = z') ∧ Hid (Blk wr w.heap.size 97 (marks xs k) ∧ Below w.heap.size w wr ∧ ∀ j (h : j < xs.length), j < k → seen xs j xs[j] = false)) (fun _ _ i _ => xs.length - (intOf i).toNat)
    case atStart => exact ⟨0, Nat.zero_le _, rfl, rfl, ⟨_, rfl⟩, Lib.hid ⟨KM.out, below_al (Below.refl _ _) _, fun j _ hj => by omega⟩⟩
    case round =>
      clear KM K0
      obtain ⟨k, hk, rfl, rfl, ⟨z', rfl⟩, hH⟩ := hrel
      obtain ⟨wi, rfl⟩ : ∃ wi : World, wi = wr := ⟨_, rfl⟩
      by_cases hlt : k < xs.length
      · have hkz : (k : Int) < (xs.length : Int) := by omega
        obtain rfl := hA (by omega)
        have g0 := below_cell hH.out.2.1 _ _ (hc k hlt)
        have hb := HWI.out.2 k hlt
        obtain ⟨x, hx⟩ : ∃ x : Nat, xs[k] = (x : Int) := ⟨xs[k].toNat, by omega⟩
        have hx3 : x < 3 := by omega
        have hxi : (x : Int) < 3 := by omega
        rw [hx] at g0
        have HXE := Lib.hid hx
        have HC := Lib.hid hc
        have hcell : wi.cell? ⟨w.heap.size, x, none⟩ = some (.bool (seen xs k (x : Int))) := by rw [Joins.cell_of_block hH.out.1]; exact marks_get xs k x hx3
        have rf : ∀ k, wi.frozen? ⟨w.heap.size, k, none⟩ = false := fun k => Joins.unfrozen_of_block hH.out.1 k
        clear hc hA hb hx
        by_cases hs : seen xs k (x : Int) = true
        · rw [hs] at hcell
          have HN : Hid (¬ order n xs) := Lib.hid (fun h => by
            have h2 := (HOI.out.1 h).2 k hlt
            rw [HXE.out] at h2
            unfold seen at hs
            rw [hs] at h2; cases h2)
          clear hs
          go_wp2_with fail
          go_ret
          exact ⟨ret_b (orderB_no HN.out).symm, hH.out.2.1⟩
        · have hs' : seen xs k (x : Int) = false := by simpa using hs
          rw [hs'] at hcell
          have HS := Lib.hid hs'
          have HK : Hid (Blk (wi.setCell ⟨w.heap.size, x, none⟩ (.bool true)) w.heap.size 97 (marks xs (k + 1))) := Lib.hid (by
            have := Joins.block_setCell (i := x) hH.out.1 (.bool true)
            rw [marks_set hlt hx3 HXE.out] at this
            exact this)
          clear hs hs'
          go_wp2_with fail
          go_roundw
          case rel =>
            refine ⟨k + 1, by omega, by go_num, rfl, ⟨_, rfl⟩, Lib.hid ⟨HK.out, hH.out.2.1.setCell (Nat.le_refl _) _, fun j hj hj' => ?_⟩⟩
            by_cases e : j = k
            · subst e; rw [HXE.out]; exact HS.out
            · exact hH.out.2.2 j hj (by omega)
          case measure => simp [intOf]; omega
      · have hkz : ¬ (k : Int) < (xs.length : Int) := by omega
        have HN : Hid (order n xs) := Lib.hid (HOI.out.2 ⟨HWI.out, fun j hj => hH.out.2.2 j hj (by omega)⟩)
        clear hc hA
        go_wp2_with fail
        go_ret
        exact ⟨ret_b (orderB_yes HN.out).symm, hH.out.2.1⟩
  · have HE := Lib.hid (withinB_no hw)
    have HN : Hid (¬ order n xs) := Lib.hid (fun h => hw (HOI.out.1 h).1)
    clear hw hc hA
    go_enter Try.func73, Try.ntmps73
    go_wp2_with fail
    refine HW.out.mono ?_
    rintro e w' ⟨rfl, rfl⟩
    rw [HE.out]
    go_wp2_with fail
    go_ret
    exact ⟨ret_b (orderB_no HN.out).symm, Below.refl _ _⟩


end Go.Proofs.Ytfkdhdiacelcjaa.ord
