/- slices.Repeat of a list of one 1, four times. -/
import Derived.Test.YtlaaiahkdkhehaaRow
import Derived.Laws.CopyOwn
import Derived.Deep.RegionLaw
namespace Go.Proofs.Ytlaaiahkdkhehaa.rep
open Go.RowKit Go.Deep Go.Proofs.Ytlaaiahkdkhehaa.base
open Go.Proofs.Ytlaaiahkdkhehaa.ints (ret_int infoInt infoInts)


theorem mul64 (w : World) : Calls Try.prog 152 #[.int .u64 1, .int .u64 4] w fun e w' => e = .returned (.tuple #[.int .u64 0, .int .u64 4]) ∧ w = w' := by
  have h1 : bits .and .u64 1 4294967295 = 1 := by decide
  have h4 : bits .and .u64 4 4294967295 = 4 := by decide
  have h0 : bits .and .u64 0 4294967295 = 0 := by decide
  go_enter Try.func152, Try.ntmps152
  go_wp2
  refine bodyPost_ret (v := .tuple #[.int .u64 0, .int .u64 4]) (by simp [results, Try.results152, go_sem]; try decide) rfl ⟨rfl, rfl⟩
theorem mul (w : World) : Calls Try.prog 134 #[.int .u64 1, .int .u64 4] w fun e w' => e = .returned (.tuple #[.int .u64 0, .int .u64 4]) ∧ w = w' := by
  go_enter Try.func134, Try.ntmps134
  go_wp2_with fail
  refine (mul64 _).mono ?_
  rintro e w' ⟨rfl, rfl⟩
  go_wp2_with fail
  refine bodyPost_ret (v := .tuple #[.int .u64 0, .int .u64 4]) (by simp [results, Try.results134, go_sem]) rfl ⟨rfl, rfl⟩

/-- the first n are 1 -/
def rn (n : Nat) : List Value := List.replicate n (.int .i64 1) ++ List.replicate (4 - n) (.int .i64 0)
def on (n : Nat) : List Value := List.replicate n (.int .i64 1)
theorem one_on (n : Nat) : ∀ v ∈ on n, v.oneCell' = true := fun v hv => by rw [List.eq_of_mem_replicate hv]; rfl
theorem get_on {n j : Nat} {v : Value} (h : (on n)[j]? = some v) : j < n ∧ v = .int .i64 1 := by
  unfold on at h
  rw [List.getElem?_replicate] at h
  split at h
  · exact ⟨by assumption, by injection h with h; exact h.symm⟩
  · cases h
theorem rn_cell {w : World} {g n j : Nat} {t : TypeId} (h : w.heap[g]? = some (.cells (rn n).toArray t (0, 0))) (hj : j < n) (_hn : n ≤ 4) : w.drew.cell? ⟨g, 0 + j, none⟩ = some (.int .i64 1) := by
  have := Joins.cell_of_block h (0 + j)
  have e : (rn n).toArray[0 + j]? = some (.int .i64 1) := by
    simp only [rn, List.getElem?_toArray, Nat.zero_add]
    rw [List.getElem?_append_left (by simpa using hj), List.getElem?_replicate, if_pos hj]
  exact this.trans e

set_option maxHeartbeats 8000000 in
theorem repeat4 (b o cap : Nat) (w : World) (h : w.cell? ⟨b, o, none⟩ = some (.int .i64 1)) :
    Calls Try.prog 93 #[.slice (some ⟨b, o, none⟩) 1 cap, .int .i64 4] w fun e w' => ∃ u, e = .returned u ∧ OwnInts w' w.heap.size w'.heap.size u [1, 1, 1, 1] ∧ Below w.heap.size w w' := by
  have hmk : ∀ W : World, (Instr.makeSlice 36 (.int .i64 4) (.int .i64 4)).run Try.prog W = .ok (.slice (some ⟨W.heap.size, 0, none⟩) 4 4) (W.alloc (.cells (rn 0).toArray 3)) := fun W => by kernel_rfl
  have HH := Lib.hid h
  clear h
  have hb0 := World.block_lt_of_cell? _ _ HH.out
  have HB0 : Hid (b < w.heap.size) := Lib.hid hb0
  clear hb0
  go_enter Try.func93, Try.ntmps93
  go_wp2_with fail
  refine (mul _).mono ?_
  rintro e w' ⟨rfl, rfl⟩
  go_wp2_with (with_reducible refine wpList_copy_splice rfl (.tmp 31) (.tmp 32) 36 36 rfl 3 Try.underlying36 (by kernel_rfl) (some ⟨w.heap.size, 0, none⟩) (some ⟨b, o, none⟩) 4 4 1 cap rfl rfl w.heap.size 0 (rn 0) 3 ?e1 [.int .i64 1] ?e2 ?e3 ?e4 ?e5 w.heap.size w ?e6 ?e7 ?_)
  case e1 => exact heap_alloc_new w _
  case e2 => rfl
  case e3 =>
    have key : ∀ (j : Nat) (v : Value), ([.int .i64 1] : List Value)[j]? = some v → (w.alloc (.cells (rn 0).toArray 3)).cell? ⟨b, o + j, none⟩ = some v := by
      intro j v hj
      obtain ⟨h1, rfl⟩ := get_on (n := 1) hj
      obtain rfl : j = 0 := by omega
      exact below_cell (below_al (Below.refl w.heap.size w) _) _ _ HH.out
    first
      | exact fun _ => ⟨rfl, _, rfl, fun j v hj => by rw [row.opn_add]; exact key j v hj⟩
      | exact key
      | exact fun _ => key
  case e4 => decide
  case e5 => exact one_on 1
  case e6 => exact below_al (Below.refl _ _) _
  case e7 => exact Nat.le_refl _
  intro w1 HG1 hB1
  have HG : Hid (w1.heap[w.heap.size]? = some (.cells (rn 1).toArray 3 (0, 0))) := Lib.hid HG1.out
  have HB1 := Lib.hid hB1
  clear HG1 hB1 hmk
  go_wp2_with fail
  go_loopw [8] (fun n wr => ∃ k : Nat, (k = 1 ∨ k = 2 ∨ k = 4) ∧ n = .int .i64 k ∧ Hid (wr.heap[w.heap.size]? = some (.cells (rn k).toArray 3 (0, 0))) ∧ Hid (Below w.heap.size w wr)) (fun n _ => 4 - (intOf n).toNat)
  case atStart => exact ⟨1, .inl rfl, rfl, HG, HB1⟩
  case round =>
    obtain ⟨k, hk, rfl, hG, hB⟩ := hrel
    clear HG HB1
    obtain ⟨wi, rfl⟩ : ∃ wi : World, wi = wr := ⟨_, rfl⟩
    obtain rfl | rfl | rfl := hk
    · have hw2 : IntKind.i64.wrap 2 = 2 := rfl
      have hw4 : IntKind.i64.wrap 4 = 4 := rfl
      go_wp2_with fail
      go_region_law (refine step_copy_splice rfl (.tmp 41) (.tmp 44) 36 36 rfl 3 Try.underlying36 (by kernel_rfl) (some ⟨w.heap.size, 1, none⟩) (some ⟨w.heap.size, 0, none⟩) 3 3 1 4 (by simp [Act.eval, Act.put]) (by simp [Act.eval, Act.put]) w.heap.size 1 (rn 1) 3 (by exact hG.out) [.int .i64 1] rfl (fun _ => ⟨rfl, _, rfl, fun j v hj => by
        obtain ⟨h1, rfl⟩ := get_on (n := 1) hj
        rw [row.opn_add]
        exact rn_cell hG.out (by omega) (by omega)⟩) (by decide) (one_on 1) w.heap.size w (by exact below_dr hB.out) (Nat.le_refl _) ?_; intro w4 hg4 hb4)
      have HG4 : Hid (w4.heap[w.heap.size]? = some (.cells (rn 2).toArray 3 (0, 0))) := Lib.hid hg4.out
      have HB4 := Lib.hid hb4
      clear hg4 hb4
      go_wp2_with fail
      go_simp
      all_goals (simp [intOf])
    · have hw2 : IntKind.i64.wrap 2 = 2 := rfl
      have hw4 : IntKind.i64.wrap 4 = 4 := rfl
      go_wp2_with fail
      go_region_law (refine step_copy_splice rfl (.tmp 41) (.tmp 44) 36 36 rfl 3 Try.underlying36 (by kernel_rfl) (some ⟨w.heap.size, 2, none⟩) (some ⟨w.heap.size, 0, none⟩) 2 2 2 4 (by simp [Act.eval, Act.put]) (by simp [Act.eval, Act.put]) w.heap.size 2 (rn 2) 3 (by exact hG.out) [.int .i64 1, .int .i64 1] rfl (fun _ => ⟨rfl, _, rfl, fun j v hj => by
        obtain ⟨h1, rfl⟩ := get_on (n := 2) hj
        rw [row.opn_add]
        exact rn_cell hG.out (by omega) (by omega)⟩) (by decide) (one_on 2) w.heap.size w (by exact below_dr hB.out) (Nat.le_refl _) ?_; intro w4 hg4 hb4)
      have HG4 : Hid (w4.heap[w.heap.size]? = some (.cells (rn 4).toArray 3 (0, 0))) := Lib.hid hg4.out
      have HB4 := Lib.hid hb4
      clear hg4 hb4
      go_wp2_with fail
      go_simp
      all_goals (simp [intOf])
    · go_wp2_with fail
      go_ret
      refine ⟨_, rfl, ?_, hB.out⟩
      have hrow : wi.rowIs w.heap.size 3 [1, 1, 1, 1].length (fun j => .int .i64 (([1, 1, 1, 1] : List Int).getD j 0)) := ⟨_, hG.out, rfl, fun i hi => by
        have hi' : i < 4 := hi
        match i, hi' with
        | 0, _ => rfl
        | 1, _ => rfl
        | 2, _ => rfl
        | 3, _ => rfl⟩
      exact ints.own_of_row (xs := [1, 1, 1, 1]) hrow (Nat.le_refl _) hrow.lt (by simp [maxLen])

end Go.Proofs.Ytlaaiahkdkhehaa.rep
