/- slices.Repeat of a list of one 1, at most ten times. -/
import Derived.Test.YtkikdecepdbbnaaRow
import Derived.Laws.CopyOwn
import Derived.Deep.RegionLaw
namespace Go.Proofs.Ytkikdecepdbbnaa.repn
open Go.RowKit Go.Deep Go.Proofs.Ytkikdecepdbbnaa.base
open Go.Proofs.Ytkikdecepdbbnaa.ints (ret_int infoInt infoInts)

/-- the first n of N are 1 -/
def rn (N n : Nat) : List Value := List.replicate n (.int .i64 1) ++ List.replicate (N - n) (.int .i64 0)
def on (n : Nat) : List Value := List.replicate n (.int .i64 1)
theorem one_on (n : Nat) : ∀ v ∈ on n, v.oneCell' = true := fun v hv => by rw [List.eq_of_mem_replicate hv]; rfl
theorem get_on {n j : Nat} {v : Value} (h : (on n)[j]? = some v) : j < n ∧ v = .int .i64 1 := by
  unfold on at h
  rw [List.getElem?_replicate] at h
  split at h
  · exact ⟨by assumption, by injection h with h; exact h.symm⟩
  · cases h
theorem rn_cell {w : World} {g N n j : Nat} {t : TypeId} (h : w.heap[g]? = some (.cells (rn N n).toArray t (0, 0))) (hj : j < n) : w.drew.cell? ⟨g, 0 + j, none⟩ = some (.int .i64 1) := by
  have := Joins.cell_of_block h (0 + j)
  have e : (rn N n).toArray[0 + j]? = some (.int .i64 1) := by
    simp only [rn, List.getElem?_toArray, Nat.zero_add]
    rw [List.getElem?_append_left (by simpa using hj), List.getElem?_replicate, if_pos hj]
  exact this.trans e
theorem own_ones {w : World} {g N B T : Nat} (h : w.heap[g]? = some (.cells (rn N N).toArray 3 (0, 0))) (hB : B ≤ g) (hT : g < T) (hN : N ≤ 10) : OwnInts w B T (.slice (some ⟨g, 0, none⟩) N N) (List.replicate N 1) := by
  have hrow : w.rowIs g 3 (List.replicate N (1 : Int)).length (fun j => .int .i64 ((List.replicate N (1 : Int)).getD j 0)) := ⟨_, h, by simp [rn], fun i hi => by
    have hi' : i < N := by simpa using hi
    simp [rn, List.getD, hi']⟩
  have := ints.own_of_row hrow hB hT (by simp [maxLen]; omega)
  simpa using this

theorem mul64_0 (w : World) : Calls Try.prog 98 #[.int .u64 1, .int .u64 0] w fun e w' => e = .returned (.tuple #[.int .u64 0, .int .u64 0]) ∧ w = w' := by
  have ha : bits .and .u64 1 4294967295 = 1 := by decide
  have hb : bits .and .u64 0 4294967295 = 0 := by decide
  have hc : bits .and .u64 0 4294967295 = 0 := by decide
  go_enter Try.func98, Try.ntmps98
  go_wp2
  refine bodyPost_ret (v := .tuple #[.int .u64 0, .int .u64 0]) (by simp [results, Try.results98, go_sem]; try decide) rfl ⟨rfl, rfl⟩
theorem mul_0 (w : World) : Calls Try.prog 95 #[.int .u64 1, .int .u64 0] w fun e w' => e = .returned (.tuple #[.int .u64 0, .int .u64 0]) ∧ w = w' := by
  go_enter Try.func95, Try.ntmps95
  go_wp2_with fail
  refine (mul64_0 _).mono ?_
  rintro e w' ⟨rfl, rfl⟩
  go_wp2_with fail
  refine bodyPost_ret (v := .tuple #[.int .u64 0, .int .u64 0]) (by simp [results, Try.results95, go_sem]) rfl ⟨rfl, rfl⟩
set_option maxHeartbeats 8000000 in
theorem repeat_0 (b o cap : Nat) (w : World) (h : w.cell? ⟨b, o, none⟩ = some (.int .i64 1)) :
    Calls Try.prog 84 #[.slice (some ⟨b, o, none⟩) 1 cap, .int .i64 0] w fun e w' => ∃ u, e = .returned u ∧ OwnInts w' w.heap.size w'.heap.size u (List.replicate 0 1) ∧ Below w.heap.size w w' := by
  have hmk : ∀ W : World, (Instr.makeSlice 23 (.int .i64 0) (.int .i64 0)).run Try.prog W = .ok (.slice (some ⟨W.heap.size, 0, none⟩) 0 0) (W.alloc (.cells (rn 0 0).toArray 3)) := fun W => by kernel_rfl
  have HH := Lib.hid h
  clear h
  have hb0 := World.block_lt_of_cell? _ _ HH.out
  have HB0 : Hid (b < w.heap.size) := Lib.hid hb0
  clear hb0
  go_enter Try.func84, Try.ntmps84
  go_wp2_with fail
  refine (mul_0 _).mono ?_
  rintro e w' ⟨rfl, rfl⟩
  go_wp2_with (with_reducible refine wpList_copy_splice rfl (.tmp 31) (.tmp 32) 23 23 rfl 3 Try.underlying23 (by kernel_rfl) (some ⟨w.heap.size, 0, none⟩) (some ⟨b, o, none⟩) 0 0 1 cap rfl rfl w.heap.size 0 (rn 0 0) 3 ?e1 [] ?e2 ?e3 ?e4 ?e5 w.heap.size w ?e6 ?e7 ?_)
  case e1 => exact heap_alloc_new w _
  case e2 => rfl
  case e4 => decide
  try (case e5 => intro v hv; simp at hv)
  case e6 => exact below_al (Below.refl _ _) _
  case e7 => exact Nat.le_refl _
  intro w1 HG1 hB1
  have HG : Hid (w1.heap[w.heap.size]? = some (.cells (rn 0 0).toArray 3 (0, 0))) := Lib.hid HG1.out
  have HB1 := Lib.hid hB1
  clear HG1 hB1 hmk
  go_wp2_with fail
  go_loopw [8] (fun n wr => ∃ k : Nat, (k = 0) ∧ n = .int .i64 k ∧ Hid (wr.heap[w.heap.size]? = some (.cells (rn 0 k).toArray 3 (0, 0))) ∧ Hid (Below w.heap.size w wr)) (fun n _ => 0 - (intOf n).toNat)
  case atStart => exact ⟨0, rfl, rfl, HG, HB1⟩
  case round =>
    obtain ⟨k, hk, rfl, hG, hB⟩ := hrel
    clear HG HB1
    obtain ⟨wi, rfl⟩ : ∃ wi : World, wi = wr := ⟨_, rfl⟩
    obtain rfl := hk
    · go_wp2_with fail
      go_ret
      exact ⟨_, rfl, own_ones hG.out (Nat.le_refl _) (by have := Blk.lt (w := wi) hG.out; omega) (by omega), hB.out⟩
theorem mul64_1 (w : World) : Calls Try.prog 98 #[.int .u64 1, .int .u64 1] w fun e w' => e = .returned (.tuple #[.int .u64 0, .int .u64 1]) ∧ w = w' := by
  have ha : bits .and .u64 1 4294967295 = 1 := by decide
  have hb : bits .and .u64 1 4294967295 = 1 := by decide
  have hc : bits .and .u64 0 4294967295 = 0 := by decide
  go_enter Try.func98, Try.ntmps98
  go_wp2
  refine bodyPost_ret (v := .tuple #[.int .u64 0, .int .u64 1]) (by simp [results, Try.results98, go_sem]; try decide) rfl ⟨rfl, rfl⟩
theorem mul_1 (w : World) : Calls Try.prog 95 #[.int .u64 1, .int .u64 1] w fun e w' => e = .returned (.tuple #[.int .u64 0, .int .u64 1]) ∧ w = w' := by
  go_enter Try.func95, Try.ntmps95
  go_wp2_with fail
  refine (mul64_1 _).mono ?_
  rintro e w' ⟨rfl, rfl⟩
  go_wp2_with fail
  refine bodyPost_ret (v := .tuple #[.int .u64 0, .int .u64 1]) (by simp [results, Try.results95, go_sem]) rfl ⟨rfl, rfl⟩
set_option maxHeartbeats 8000000 in
theorem repeat_1 (b o cap : Nat) (w : World) (h : w.cell? ⟨b, o, none⟩ = some (.int .i64 1)) :
    Calls Try.prog 84 #[.slice (some ⟨b, o, none⟩) 1 cap, .int .i64 1] w fun e w' => ∃ u, e = .returned u ∧ OwnInts w' w.heap.size w'.heap.size u (List.replicate 1 1) ∧ Below w.heap.size w w' := by
  have hmk : ∀ W : World, (Instr.makeSlice 23 (.int .i64 1) (.int .i64 1)).run Try.prog W = .ok (.slice (some ⟨W.heap.size, 0, none⟩) 1 1) (W.alloc (.cells (rn 1 0).toArray 3)) := fun W => by kernel_rfl
  have HH := Lib.hid h
  clear h
  have hb0 := World.block_lt_of_cell? _ _ HH.out
  have HB0 : Hid (b < w.heap.size) := Lib.hid hb0
  clear hb0
  go_enter Try.func84, Try.ntmps84
  go_wp2_with fail
  refine (mul_1 _).mono ?_
  rintro e w' ⟨rfl, rfl⟩
  go_wp2_with (with_reducible refine wpList_copy_splice rfl (.tmp 31) (.tmp 32) 23 23 rfl 3 Try.underlying23 (by kernel_rfl) (some ⟨w.heap.size, 0, none⟩) (some ⟨b, o, none⟩) 1 1 1 cap rfl rfl w.heap.size 0 (rn 1 0) 3 ?e1 [.int .i64 1] ?e2 ?e3 ?e4 ?e5 w.heap.size w ?e6 ?e7 ?_)
  case e1 => exact heap_alloc_new w _
  case e2 => rfl
  case e3 =>
    have key : ∀ (j : Nat) (v : Value), ([.int .i64 1] : List Value)[j]? = some v → (w.alloc (.cells (rn 1 0).toArray 3)).cell? ⟨b, o + j, none⟩ = some v := by
      intro j v hj
      obtain ⟨h1, rfl⟩ := get_on (n := 1) hj
      obtain rfl : j = 0 := by omega
      exact below_cell (below_al (Below.refl w.heap.size w) _) _ _ HH.out
    first
      | exact fun _ => ⟨rfl, _, rfl, fun j v hj => by rw [row.opn_add]; exact key j v hj⟩
      | exact key
      | exact fun _ => key
      | (intro hh; exact absurd hh (by simp))
  case e4 => decide
  case e5 => exact one_on 1
  case e6 => exact below_al (Below.refl _ _) _
  case e7 => exact Nat.le_refl _
  intro w1 HG1 hB1
  have HG : Hid (w1.heap[w.heap.size]? = some (.cells (rn 1 1).toArray 3 (0, 0))) := Lib.hid HG1.out
  have HB1 := Lib.hid hB1
  clear HG1 hB1 hmk
  go_wp2_with fail
  go_loopw [8] (fun n wr => ∃ k : Nat, (k = 1) ∧ n = .int .i64 k ∧ Hid (wr.heap[w.heap.size]? = some (.cells (rn 1 k).toArray 3 (0, 0))) ∧ Hid (Below w.heap.size w wr)) (fun n _ => 1 - (intOf n).toNat)
  case atStart => exact ⟨1, rfl, rfl, HG, HB1⟩
  case round =>
    obtain ⟨k, hk, rfl, hG, hB⟩ := hrel
    clear HG HB1
    obtain ⟨wi, rfl⟩ : ∃ wi : World, wi = wr := ⟨_, rfl⟩
    obtain rfl := hk
    · go_wp2_with fail
      go_ret
      exact ⟨_, rfl, own_ones hG.out (Nat.le_refl _) (by have := Blk.lt (w := wi) hG.out; omega) (by omega), hB.out⟩
theorem mul64_2 (w : World) : Calls Try.prog 98 #[.int .u64 1, .int .u64 2] w fun e w' => e = .returned (.tuple #[.int .u64 0, .int .u64 2]) ∧ w = w' := by
  have ha : bits .and .u64 1 4294967295 = 1 := by decide
  have hb : bits .and .u64 2 4294967295 = 2 := by decide
  have hc : bits .and .u64 0 4294967295 = 0 := by decide
  go_enter Try.func98, Try.ntmps98
  go_wp2
  refine bodyPost_ret (v := .tuple #[.int .u64 0, .int .u64 2]) (by simp [results, Try.results98, go_sem]; try decide) rfl ⟨rfl, rfl⟩
theorem mul_2 (w : World) : Calls Try.prog 95 #[.int .u64 1, .int .u64 2] w fun e w' => e = .returned (.tuple #[.int .u64 0, .int .u64 2]) ∧ w = w' := by
  go_enter Try.func95, Try.ntmps95
  go_wp2_with fail
  refine (mul64_2 _).mono ?_
  rintro e w' ⟨rfl, rfl⟩
  go_wp2_with fail
  refine bodyPost_ret (v := .tuple #[.int .u64 0, .int .u64 2]) (by simp [results, Try.results95, go_sem]) rfl ⟨rfl, rfl⟩
set_option maxHeartbeats 8000000 in
theorem repeat_2 (b o cap : Nat) (w : World) (h : w.cell? ⟨b, o, none⟩ = some (.int .i64 1)) :
    Calls Try.prog 84 #[.slice (some ⟨b, o, none⟩) 1 cap, .int .i64 2] w fun e w' => ∃ u, e = .returned u ∧ OwnInts w' w.heap.size w'.heap.size u (List.replicate 2 1) ∧ Below w.heap.size w w' := by
  have hmk : ∀ W : World, (Instr.makeSlice 23 (.int .i64 2) (.int .i64 2)).run Try.prog W = .ok (.slice (some ⟨W.heap.size, 0, none⟩) 2 2) (W.alloc (.cells (rn 2 0).toArray 3)) := fun W => by kernel_rfl
  have HH := Lib.hid h
  clear h
  have hb0 := World.block_lt_of_cell? _ _ HH.out
  have HB0 : Hid (b < w.heap.size) := Lib.hid hb0
  clear hb0
  go_enter Try.func84, Try.ntmps84
  go_wp2_with fail
  refine (mul_2 _).mono ?_
  rintro e w' ⟨rfl, rfl⟩
  go_wp2_with (with_reducible refine wpList_copy_splice rfl (.tmp 31) (.tmp 32) 23 23 rfl 3 Try.underlying23 (by kernel_rfl) (some ⟨w.heap.size, 0, none⟩) (some ⟨b, o, none⟩) 2 2 1 cap rfl rfl w.heap.size 0 (rn 2 0) 3 ?e1 [.int .i64 1] ?e2 ?e3 ?e4 ?e5 w.heap.size w ?e6 ?e7 ?_)
  case e1 => exact heap_alloc_new w _
  case e2 => rfl
  case e3 =>
    have key : ∀ (j : Nat) (v : Value), ([.int .i64 1] : List Value)[j]? = some v → (w.alloc (.cells (rn 2 0).toArray 3)).cell? ⟨b, o + j, none⟩ = some v := by
      intro j v hj
      obtain ⟨h1, rfl⟩ := get_on (n := 1) hj
      obtain rfl : j = 0 := by omega
      exact below_cell (below_al (Below.refl w.heap.size w) _) _ _ HH.out
    first
      | exact fun _ => ⟨rfl, _, rfl, fun j v hj => by rw [row.opn_add]; exact key j v hj⟩
      | exact key
      | exact fun _ => key
      | (intro hh; exact absurd hh (by simp))
  case e4 => decide
  case e5 => exact one_on 1
  case e6 => exact below_al (Below.refl _ _) _
  case e7 => exact Nat.le_refl _
  intro w1 HG1 hB1
  have HG : Hid (w1.heap[w.heap.size]? = some (.cells (rn 2 1).toArray 3 (0, 0))) := Lib.hid HG1.out
  have HB1 := Lib.hid hB1
  clear HG1 hB1 hmk
  go_wp2_with fail
  go_loopw [8] (fun n wr => ∃ k : Nat, (k = 1 ∨ k = 2) ∧ n = .int .i64 k ∧ Hid (wr.heap[w.heap.size]? = some (.cells (rn 2 k).toArray 3 (0, 0))) ∧ Hid (Below w.heap.size w wr)) (fun n _ => 2 - (intOf n).toNat)
  case atStart => exact ⟨1, .inl rfl, rfl, HG, HB1⟩
  case round =>
    obtain ⟨k, hk, rfl, hG, hB⟩ := hrel
    clear HG HB1
    obtain ⟨wi, rfl⟩ : ∃ wi : World, wi = wr := ⟨_, rfl⟩
    obtain rfl | rfl := hk
    · have hwk : IntKind.i64.wrap 2 = 2 := rfl
      go_wp2_with fail
      go_region_law (refine step_copy_splice rfl (.tmp 41) (.tmp 44) 23 23 rfl 3 Try.underlying23 (by kernel_rfl) (some ⟨w.heap.size, 1, none⟩) (some ⟨w.heap.size, 0, none⟩) 1 1 1 2 (by simp [Act.eval, Act.put]) (by simp [Act.eval, Act.put]) w.heap.size 1 (rn 2 1) 3 (by exact hG.out) [.int .i64 1] rfl (fun _ => ⟨rfl, _, rfl, fun j v hj => by
        obtain ⟨h1, rfl⟩ := get_on (n := 1) hj
        rw [row.opn_add]
        exact rn_cell hG.out (by omega)⟩) (by decide) (one_on 1) w.heap.size w (by exact below_dr hB.out) (Nat.le_refl _) ?_; intro w4 hg4 hb4)
      have HG4 : Hid (w4.heap[w.heap.size]? = some (.cells (rn 2 2).toArray 3 (0, 0))) := Lib.hid hg4.out
      have HB4 := Lib.hid hb4
      clear hg4 hb4
      go_wp2_with fail
      go_simp
      all_goals (simp [intOf])
    · go_wp2_with fail
      go_ret
      exact ⟨_, rfl, own_ones hG.out (Nat.le_refl _) (by have := Blk.lt (w := wi) hG.out; omega) (by omega), hB.out⟩
theorem mul64_3 (w : World) : Calls Try.prog 98 #[.int .u64 1, .int .u64 3] w fun e w' => e = .returned (.tuple #[.int .u64 0, .int .u64 3]) ∧ w = w' := by
  have ha : bits .and .u64 1 4294967295 = 1 := by decide
  have hb : bits .and .u64 3 4294967295 = 3 := by decide
  have hc : bits .and .u64 0 4294967295 = 0 := by decide
  go_enter Try.func98, Try.ntmps98
  go_wp2
  refine bodyPost_ret (v := .tuple #[.int .u64 0, .int .u64 3]) (by simp [results, Try.results98, go_sem]; try decide) rfl ⟨rfl, rfl⟩
theorem mul_3 (w : World) : Calls Try.prog 95 #[.int .u64 1, .int .u64 3] w fun e w' => e = .returned (.tuple #[.int .u64 0, .int .u64 3]) ∧ w = w' := by
  go_enter Try.func95, Try.ntmps95
  go_wp2_with fail
  refine (mul64_3 _).mono ?_
  rintro e w' ⟨rfl, rfl⟩
  go_wp2_with fail
  refine bodyPost_ret (v := .tuple #[.int .u64 0, .int .u64 3]) (by simp [results, Try.results95, go_sem]) rfl ⟨rfl, rfl⟩
set_option maxHeartbeats 8000000 in
theorem repeat_3 (b o cap : Nat) (w : World) (h : w.cell? ⟨b, o, none⟩ = some (.int .i64 1)) :
    Calls Try.prog 84 #[.slice (some ⟨b, o, none⟩) 1 cap, .int .i64 3] w fun e w' => ∃ u, e = .returned u ∧ OwnInts w' w.heap.size w'.heap.size u (List.replicate 3 1) ∧ Below w.heap.size w w' := by
  have hmk : ∀ W : World, (Instr.makeSlice 23 (.int .i64 3) (.int .i64 3)).run Try.prog W = .ok (.slice (some ⟨W.heap.size, 0, none⟩) 3 3) (W.alloc (.cells (rn 3 0).toArray 3)) := fun W => by kernel_rfl
  have HH := Lib.hid h
  clear h
  have hb0 := World.block_lt_of_cell? _ _ HH.out
  have HB0 : Hid (b < w.heap.size) := Lib.hid hb0
  clear hb0
  go_enter Try.func84, Try.ntmps84
  go_wp2_with fail
  refine (mul_3 _).mono ?_
  rintro e w' ⟨rfl, rfl⟩
  go_wp2_with (with_reducible refine wpList_copy_splice rfl (.tmp 31) (.tmp 32) 23 23 rfl 3 Try.underlying23 (by kernel_rfl) (some ⟨w.heap.size, 0, none⟩) (some ⟨b, o, none⟩) 3 3 1 cap rfl rfl w.heap.size 0 (rn 3 0) 3 ?e1 [.int .i64 1] ?e2 ?e3 ?e4 ?e5 w.heap.size w ?e6 ?e7 ?_)
  case e1 => exact heap_alloc_new w _
  case e2 => rfl
  case e3 =>
    have key : ∀ (j : Nat) (v : Value), ([.int .i64 1] : List Value)[j]? = some v → (w.alloc (.cells (rn 3 0).toArray 3)).cell? ⟨b, o + j, none⟩ = some v := by
      intro j v hj
      obtain ⟨h1, rfl⟩ := get_on (n := 1) hj
      obtain rfl : j = 0 := by omega
      exact below_cell (below_al (Below.refl w.heap.size w) _) _ _ HH.out
    first
      | exact fun _ => ⟨rfl, _, rfl, fun j v hj => by rw [row.opn_add]; exact key j v hj⟩
      | exact key
      | exact fun _ => key
      | (intro hh; exact absurd hh (by simp))
  case e4 => decide
  case e5 => exact one_on 1
  case e6 => exact below_al (Below.refl _ _) _
  case e7 => exact Nat.le_refl _
  intro w1 HG1 hB1
  have HG : Hid (w1.heap[w.heap.size]? = some (.cells (rn 3 1).toArray 3 (0, 0))) := Lib.hid HG1.out
  have HB1 := Lib.hid hB1
  clear HG1 hB1 hmk
  go_wp2_with fail
  go_loopw [8] (fun n wr => ∃ k : Nat, (k = 1 ∨ k = 2 ∨ k = 3) ∧ n = .int .i64 k ∧ Hid (wr.heap[w.heap.size]? = some (.cells (rn 3 k).toArray 3 (0, 0))) ∧ Hid (Below w.heap.size w wr)) (fun n _ => 3 - (intOf n).toNat)
  case atStart => exact ⟨1, .inl rfl, rfl, HG, HB1⟩
  case round =>
    obtain ⟨k, hk, rfl, hG, hB⟩ := hrel
    clear HG HB1
    obtain ⟨wi, rfl⟩ : ∃ wi : World, wi = wr := ⟨_, rfl⟩
    obtain rfl | rfl | rfl := hk
    · have hwk : IntKind.i64.wrap 2 = 2 := rfl
      go_wp2_with fail
      go_region_law (refine step_copy_splice rfl (.tmp 41) (.tmp 44) 23 23 rfl 3 Try.underlying23 (by kernel_rfl) (some ⟨w.heap.size, 1, none⟩) (some ⟨w.heap.size, 0, none⟩) 2 2 1 3 (by simp [Act.eval, Act.put]) (by simp [Act.eval, Act.put]) w.heap.size 1 (rn 3 1) 3 (by exact hG.out) [.int .i64 1] rfl (fun _ => ⟨rfl, _, rfl, fun j v hj => by
        obtain ⟨h1, rfl⟩ := get_on (n := 1) hj
        rw [row.opn_add]
        exact rn_cell hG.out (by omega)⟩) (by decide) (one_on 1) w.heap.size w (by exact below_dr hB.out) (Nat.le_refl _) ?_; intro w4 hg4 hb4)
      have HG4 : Hid (w4.heap[w.heap.size]? = some (.cells (rn 3 2).toArray 3 (0, 0))) := Lib.hid hg4.out
      have HB4 := Lib.hid hb4
      clear hg4 hb4
      go_wp2_with fail
      go_simp
      all_goals (simp [intOf])
    · have hwk : IntKind.i64.wrap 3 = 3 := rfl
      go_wp2_with fail
      go_region_law (refine step_copy_splice rfl (.tmp 41) (.tmp 44) 23 23 rfl 3 Try.underlying23 (by kernel_rfl) (some ⟨w.heap.size, 2, none⟩) (some ⟨w.heap.size, 0, none⟩) 1 1 2 3 (by simp [Act.eval, Act.put]) (by simp [Act.eval, Act.put]) w.heap.size 2 (rn 3 2) 3 (by exact hG.out) [.int .i64 1] rfl (fun _ => ⟨rfl, _, rfl, fun j v hj => by
        obtain ⟨h1, rfl⟩ := get_on (n := 1) hj
        rw [row.opn_add]
        exact rn_cell hG.out (by omega)⟩) (by decide) (one_on 1) w.heap.size w (by exact below_dr hB.out) (Nat.le_refl _) ?_; intro w4 hg4 hb4)
      have HG4 : Hid (w4.heap[w.heap.size]? = some (.cells (rn 3 3).toArray 3 (0, 0))) := Lib.hid hg4.out
      have HB4 := Lib.hid hb4
      clear hg4 hb4
      go_wp2_with fail
      go_simp
      all_goals (simp [intOf])
    · go_wp2_with fail
      go_ret
      exact ⟨_, rfl, own_ones hG.out (Nat.le_refl _) (by have := Blk.lt (w := wi) hG.out; omega) (by omega), hB.out⟩
theorem mul64_4 (w : World) : Calls Try.prog 98 #[.int .u64 1, .int .u64 4] w fun e w' => e = .returned (.tuple #[.int .u64 0, .int .u64 4]) ∧ w = w' := by
  have ha : bits .and .u64 1 4294967295 = 1 := by decide
  have hb : bits .and .u64 4 4294967295 = 4 := by decide
  have hc : bits .and .u64 0 4294967295 = 0 := by decide
  go_enter Try.func98, Try.ntmps98
  go_wp2
  refine bodyPost_ret (v := .tuple #[.int .u64 0, .int .u64 4]) (by simp [results, Try.results98, go_sem]; try decide) rfl ⟨rfl, rfl⟩
theorem mul_4 (w : World) : Calls Try.prog 95 #[.int .u64 1, .int .u64 4] w fun e w' => e = .returned (.tuple #[.int .u64 0, .int .u64 4]) ∧ w = w' := by
  go_enter Try.func95, Try.ntmps95
  go_wp2_with fail
  refine (mul64_4 _).mono ?_
  rintro e w' ⟨rfl, rfl⟩
  go_wp2_with fail
  refine bodyPost_ret (v := .tuple #[.int .u64 0, .int .u64 4]) (by simp [results, Try.results95, go_sem]) rfl ⟨rfl, rfl⟩
set_option maxHeartbeats 8000000 in
theorem repeat_4 (b o cap : Nat) (w : World) (h : w.cell? ⟨b, o, none⟩ = some (.int .i64 1)) :
    Calls Try.prog 84 #[.slice (some ⟨b, o, none⟩) 1 cap, .int .i64 4] w fun e w' => ∃ u, e = .returned u ∧ OwnInts w' w.heap.size w'.heap.size u (List.replicate 4 1) ∧ Below w.heap.size w w' := by
  have hmk : ∀ W : World, (Instr.makeSlice 23 (.int .i64 4) (.int .i64 4)).run Try.prog W = .ok (.slice (some ⟨W.heap.size, 0, none⟩) 4 4) (W.alloc (.cells (rn 4 0).toArray 3)) := fun W => by kernel_rfl
  have HH := Lib.hid h
  clear h
  have hb0 := World.block_lt_of_cell? _ _ HH.out
  have HB0 : Hid (b < w.heap.size) := Lib.hid hb0
  clear hb0
  go_enter Try.func84, Try.ntmps84
  go_wp2_with fail
  refine (mul_4 _).mono ?_
  rintro e w' ⟨rfl, rfl⟩
  go_wp2_with (with_reducible refine wpList_copy_splice rfl (.tmp 31) (.tmp 32) 23 23 rfl 3 Try.underlying23 (by kernel_rfl) (some ⟨w.heap.size, 0, none⟩) (some ⟨b, o, none⟩) 4 4 1 cap rfl rfl w.heap.size 0 (rn 4 0) 3 ?e1 [.int .i64 1] ?e2 ?e3 ?e4 ?e5 w.heap.size w ?e6 ?e7 ?_)
  case e1 => exact heap_alloc_new w _
  case e2 => rfl
  case e3 =>
    have key : ∀ (j : Nat) (v : Value), ([.int .i64 1] : List Value)[j]? = some v → (w.alloc (.cells (rn 4 0).toArray 3)).cell? ⟨b, o + j, none⟩ = some v := by
      intro j v hj
      obtain ⟨h1, rfl⟩ := get_on (n := 1) hj
      obtain rfl : j = 0 := by omega
      exact below_cell (below_al (Below.refl w.heap.size w) _) _ _ HH.out
    first
      | exact fun _ => ⟨rfl, _, rfl, fun j v hj => by rw [row.opn_add]; exact key j v hj⟩
      | exact key
      | exact fun _ => key
      | (intro hh; exact absurd hh (by simp))
  case e4 => decide
  case e5 => exact one_on 1
  case e6 => exact below_al (Below.refl _ _) _
  case e7 => exact Nat.le_refl _
  intro w1 HG1 hB1
  have HG : Hid (w1.heap[w.heap.size]? = some (.cells (rn 4 1).toArray 3 (0, 0))) := Lib.hid HG1.out
  have HB1 := Lib.hid hB1
  clear HG1 hB1 hmk
  go_wp2_with fail
  go_loopw [8] (fun n wr => ∃ k : Nat, (k = 1 ∨ k = 2 ∨ k = 4) ∧ n = .int .i64 k ∧ Hid (wr.heap[w.heap.size]? = some (.cells (rn 4 k).toArray 3 (0, 0))) ∧ Hid (Below w.heap.size w wr)) (fun n _ => 4 - (intOf n).toNat)
  case atStart => exact ⟨1, .inl rfl, rfl, HG, HB1⟩
  case round =>
    obtain ⟨k, hk, rfl, hG, hB⟩ := hrel
    clear HG HB1
    obtain ⟨wi, rfl⟩ : ∃ wi : World, wi = wr := ⟨_, rfl⟩
    obtain rfl | rfl | rfl := hk
    · have hwk : IntKind.i64.wrap 2 = 2 := rfl
      go_wp2_with fail
      go_region_law (refine step_copy_splice rfl (.tmp 41) (.tmp 44) 23 23 rfl 3 Try.underlying23 (by kernel_rfl) (some ⟨w.heap.size, 1, none⟩) (some ⟨w.heap.size, 0, none⟩) 3 3 1 4 (by simp [Act.eval, Act.put]) (by simp [Act.eval, Act.put]) w.heap.size 1 (rn 4 1) 3 (by exact hG.out) [.int .i64 1] rfl (fun _ => ⟨rfl, _, rfl, fun j v hj => by
        obtain ⟨h1, rfl⟩ := get_on (n := 1) hj
        rw [row.opn_add]
        exact rn_cell hG.out (by omega)⟩) (by decide) (one_on 1) w.heap.size w (by exact below_dr hB.out) (Nat.le_refl _) ?_; intro w4 hg4 hb4)
      have HG4 : Hid (w4.heap[w.heap.size]? = some (.cells (rn 4 2).toArray 3 (0, 0))) := Lib.hid hg4.out
      have HB4 := Lib.hid hb4
      clear hg4 hb4
      go_wp2_with fail
      go_simp
      all_goals (simp [intOf])
    · have hwk : IntKind.i64.wrap 4 = 4 := rfl
      go_wp2_with fail
      go_region_law (refine step_copy_splice rfl (.tmp 41) (.tmp 44) 23 23 rfl 3 Try.underlying23 (by kernel_rfl) (some ⟨w.heap.size, 2, none⟩) (some ⟨w.heap.size, 0, none⟩) 2 2 2 4 (by simp [Act.eval, Act.put]) (by simp [Act.eval, Act.put]) w.heap.size 2 (rn 4 2) 3 (by exact hG.out) [.int .i64 1, .int .i64 1] rfl (fun _ => ⟨rfl, _, rfl, fun j v hj => by
        obtain ⟨h1, rfl⟩ := get_on (n := 2) hj
        rw [row.opn_add]
        exact rn_cell hG.out (by omega)⟩) (by decide) (one_on 2) w.heap.size w (by exact below_dr hB.out) (Nat.le_refl _) ?_; intro w4 hg4 hb4)
      have HG4 : Hid (w4.heap[w.heap.size]? = some (.cells (rn 4 4).toArray 3 (0, 0))) := Lib.hid hg4.out
      have HB4 := Lib.hid hb4
      clear hg4 hb4
      go_wp2_with fail
      go_simp
      all_goals (simp [intOf])
    · go_wp2_with fail
      go_ret
      exact ⟨_, rfl, own_ones hG.out (Nat.le_refl _) (by have := Blk.lt (w := wi) hG.out; omega) (by omega), hB.out⟩
theorem mul64_5 (w : World) : Calls Try.prog 98 #[.int .u64 1, .int .u64 5] w fun e w' => e = .returned (.tuple #[.int .u64 0, .int .u64 5]) ∧ w = w' := by
  have ha : bits .and .u64 1 4294967295 = 1 := by decide
  have hb : bits .and .u64 5 4294967295 = 5 := by decide
  have hc : bits .and .u64 0 4294967295 = 0 := by decide
  go_enter Try.func98, Try.ntmps98
  go_wp2
  refine bodyPost_ret (v := .tuple #[.int .u64 0, .int .u64 5]) (by simp [results, Try.results98, go_sem]; try decide) rfl ⟨rfl, rfl⟩
theorem mul_5 (w : World) : Calls Try.prog 95 #[.int .u64 1, .int .u64 5] w fun e w' => e = .returned (.tuple #[.int .u64 0, .int .u64 5]) ∧ w = w' := by
  go_enter Try.func95, Try.ntmps95
  go_wp2_with fail
  refine (mul64_5 _).mono ?_
  rintro e w' ⟨rfl, rfl⟩
  go_wp2_with fail
  refine bodyPost_ret (v := .tuple #[.int .u64 0, .int .u64 5]) (by simp [results, Try.results95, go_sem]) rfl ⟨rfl, rfl⟩
set_option maxHeartbeats 8000000 in
theorem repeat_5 (b o cap : Nat) (w : World) (h : w.cell? ⟨b, o, none⟩ = some (.int .i64 1)) :
    Calls Try.prog 84 #[.slice (some ⟨b, o, none⟩) 1 cap, .int .i64 5] w fun e w' => ∃ u, e = .returned u ∧ OwnInts w' w.heap.size w'.heap.size u (List.replicate 5 1) ∧ Below w.heap.size w w' := by
  have hmk : ∀ W : World, (Instr.makeSlice 23 (.int .i64 5) (.int .i64 5)).run Try.prog W = .ok (.slice (some ⟨W.heap.size, 0, none⟩) 5 5) (W.alloc (.cells (rn 5 0).toArray 3)) := fun W => by kernel_rfl
  have HH := Lib.hid h
  clear h
  have hb0 := World.block_lt_of_cell? _ _ HH.out
  have HB0 : Hid (b < w.heap.size) := Lib.hid hb0
  clear hb0
  go_enter Try.func84, Try.ntmps84
  go_wp2_with fail
  refine (mul_5 _).mono ?_
  rintro e w' ⟨rfl, rfl⟩
  go_wp2_with (with_reducible refine wpList_copy_splice rfl (.tmp 31) (.tmp 32) 23 23 rfl 3 Try.underlying23 (by kernel_rfl) (some ⟨w.heap.size, 0, none⟩) (some ⟨b, o, none⟩) 5 5 1 cap rfl rfl w.heap.size 0 (rn 5 0) 3 ?e1 [.int .i64 1] ?e2 ?e3 ?e4 ?e5 w.heap.size w ?e6 ?e7 ?_)
  case e1 => exact heap_alloc_new w _
  case e2 => rfl
  case e3 =>
    have key : ∀ (j : Nat) (v : Value), ([.int .i64 1] : List Value)[j]? = some v → (w.alloc (.cells (rn 5 0).toArray 3)).cell? ⟨b, o + j, none⟩ = some v := by
      intro j v hj
      obtain ⟨h1, rfl⟩ := get_on (n := 1) hj
      obtain rfl : j = 0 := by omega
      exact below_cell (below_al (Below.refl w.heap.size w) _) _ _ HH.out
    first
      | exact fun _ => ⟨rfl, _, rfl, fun j v hj => by rw [row.opn_add]; exact key j v hj⟩
      | exact key
      | exact fun _ => key
      | (intro hh; exact absurd hh (by simp))
  case e4 => decide
  case e5 => exact one_on 1
  case e6 => exact below_al (Below.refl _ _) _
  case e7 => exact Nat.le_refl _
  intro w1 HG1 hB1
  have HG : Hid (w1.heap[w.heap.size]? = some (.cells (rn 5 1).toArray 3 (0, 0))) := Lib.hid HG1.out
  have HB1 := Lib.hid hB1
  clear HG1 hB1 hmk
  go_wp2_with fail
  go_loopw [8] (fun n wr => ∃ k : Nat, (k = 1 ∨ k = 2 ∨ k = 4 ∨ k = 5) ∧ n = .int .i64 k ∧ Hid (wr.heap[w.heap.size]? = some (.cells (rn 5 k).toArray 3 (0, 0))) ∧ Hid (Below w.heap.size w wr)) (fun n _ => 5 - (intOf n).toNat)
  case atStart => exact ⟨1, .inl rfl, rfl, HG, HB1⟩
  case round =>
    obtain ⟨k, hk, rfl, hG, hB⟩ := hrel
    clear HG HB1
    obtain ⟨wi, rfl⟩ : ∃ wi : World, wi = wr := ⟨_, rfl⟩
    obtain rfl | rfl | rfl | rfl := hk
    · have hwk : IntKind.i64.wrap 2 = 2 := rfl
      go_wp2_with fail
      go_region_law (refine step_copy_splice rfl (.tmp 41) (.tmp 44) 23 23 rfl 3 Try.underlying23 (by kernel_rfl) (some ⟨w.heap.size, 1, none⟩) (some ⟨w.heap.size, 0, none⟩) 4 4 1 5 (by simp [Act.eval, Act.put]) (by simp [Act.eval, Act.put]) w.heap.size 1 (rn 5 1) 3 (by exact hG.out) [.int .i64 1] rfl (fun _ => ⟨rfl, _, rfl, fun j v hj => by
        obtain ⟨h1, rfl⟩ := get_on (n := 1) hj
        rw [row.opn_add]
        exact rn_cell hG.out (by omega)⟩) (by decide) (one_on 1) w.heap.size w (by exact below_dr hB.out) (Nat.le_refl _) ?_; intro w4 hg4 hb4)
      have HG4 : Hid (w4.heap[w.heap.size]? = some (.cells (rn 5 2).toArray 3 (0, 0))) := Lib.hid hg4.out
      have HB4 := Lib.hid hb4
      clear hg4 hb4
      go_wp2_with fail
      go_simp
      all_goals (simp [intOf])
    · have hwk : IntKind.i64.wrap 4 = 4 := rfl
      go_wp2_with fail
      go_region_law (refine step_copy_splice rfl (.tmp 41) (.tmp 44) 23 23 rfl 3 Try.underlying23 (by kernel_rfl) (some ⟨w.heap.size, 2, none⟩) (some ⟨w.heap.size, 0, none⟩) 3 3 2 5 (by simp [Act.eval, Act.put]) (by simp [Act.eval, Act.put]) w.heap.size 2 (rn 5 2) 3 (by exact hG.out) [.int .i64 1, .int .i64 1] rfl (fun _ => ⟨rfl, _, rfl, fun j v hj => by
        obtain ⟨h1, rfl⟩ := get_on (n := 2) hj
        rw [row.opn_add]
        exact rn_cell hG.out (by omega)⟩) (by decide) (one_on 2) w.heap.size w (by exact below_dr hB.out) (Nat.le_refl _) ?_; intro w4 hg4 hb4)
      have HG4 : Hid (w4.heap[w.heap.size]? = some (.cells (rn 5 4).toArray 3 (0, 0))) := Lib.hid hg4.out
      have HB4 := Lib.hid hb4
      clear hg4 hb4
      go_wp2_with fail
      go_simp
      all_goals (simp [intOf])
    · have hwk : IntKind.i64.wrap 5 = 5 := rfl
      go_wp2_with fail
      go_region_law (refine step_copy_splice rfl (.tmp 41) (.tmp 44) 23 23 rfl 3 Try.underlying23 (by kernel_rfl) (some ⟨w.heap.size, 4, none⟩) (some ⟨w.heap.size, 0, none⟩) 1 1 4 5 (by simp [Act.eval, Act.put]) (by simp [Act.eval, Act.put]) w.heap.size 4 (rn 5 4) 3 (by exact hG.out) [.int .i64 1] rfl (fun _ => ⟨rfl, _, rfl, fun j v hj => by
        obtain ⟨h1, rfl⟩ := get_on (n := 1) hj
        rw [row.opn_add]
        exact rn_cell hG.out (by omega)⟩) (by decide) (one_on 1) w.heap.size w (by exact below_dr hB.out) (Nat.le_refl _) ?_; intro w4 hg4 hb4)
      have HG4 : Hid (w4.heap[w.heap.size]? = some (.cells (rn 5 5).toArray 3 (0, 0))) := Lib.hid hg4.out
      have HB4 := Lib.hid hb4
      clear hg4 hb4
      go_wp2_with fail
      go_simp
      all_goals (simp [intOf])
    · go_wp2_with fail
      go_ret
      exact ⟨_, rfl, own_ones hG.out (Nat.le_refl _) (by have := Blk.lt (w := wi) hG.out; omega) (by omega), hB.out⟩
theorem mul64_6 (w : World) : Calls Try.prog 98 #[.int .u64 1, .int .u64 6] w fun e w' => e = .returned (.tuple #[.int .u64 0, .int .u64 6]) ∧ w = w' := by
  have ha : bits .and .u64 1 4294967295 = 1 := by decide
  have hb : bits .and .u64 6 4294967295 = 6 := by decide
  have hc : bits .and .u64 0 4294967295 = 0 := by decide
  go_enter Try.func98, Try.ntmps98
  go_wp2
  refine bodyPost_ret (v := .tuple #[.int .u64 0, .int .u64 6]) (by simp [results, Try.results98, go_sem]; try decide) rfl ⟨rfl, rfl⟩
theorem mul_6 (w : World) : Calls Try.prog 95 #[.int .u64 1, .int .u64 6] w fun e w' => e = .returned (.tuple #[.int .u64 0, .int .u64 6]) ∧ w = w' := by
  go_enter Try.func95, Try.ntmps95
  go_wp2_with fail
  refine (mul64_6 _).mono ?_
  rintro e w' ⟨rfl, rfl⟩
  go_wp2_with fail
  refine bodyPost_ret (v := .tuple #[.int .u64 0, .int .u64 6]) (by simp [results, Try.results95, go_sem]) rfl ⟨rfl, rfl⟩
set_option maxHeartbeats 8000000 in
theorem repeat_6 (b o cap : Nat) (w : World) (h : w.cell? ⟨b, o, none⟩ = some (.int .i64 1)) :
    Calls Try.prog 84 #[.slice (some ⟨b, o, none⟩) 1 cap, .int .i64 6] w fun e w' => ∃ u, e = .returned u ∧ OwnInts w' w.heap.size w'.heap.size u (List.replicate 6 1) ∧ Below w.heap.size w w' := by
  have hmk : ∀ W : World, (Instr.makeSlice 23 (.int .i64 6) (.int .i64 6)).run Try.prog W = .ok (.slice (some ⟨W.heap.size, 0, none⟩) 6 6) (W.alloc (.cells (rn 6 0).toArray 3)) := fun W => by kernel_rfl
  have HH := Lib.hid h
  clear h
  have hb0 := World.block_lt_of_cell? _ _ HH.out
  have HB0 : Hid (b < w.heap.size) := Lib.hid hb0
  clear hb0
  go_enter Try.func84, Try.ntmps84
  go_wp2_with fail
  refine (mul_6 _).mono ?_
  rintro e w' ⟨rfl, rfl⟩
  go_wp2_with (with_reducible refine wpList_copy_splice rfl (.tmp 31) (.tmp 32) 23 23 rfl 3 Try.underlying23 (by kernel_rfl) (some ⟨w.heap.size, 0, none⟩) (some ⟨b, o, none⟩) 6 6 1 cap rfl rfl w.heap.size 0 (rn 6 0) 3 ?e1 [.int .i64 1] ?e2 ?e3 ?e4 ?e5 w.heap.size w ?e6 ?e7 ?_)
  case e1 => exact heap_alloc_new w _
  case e2 => rfl
  case e3 =>
    have key : ∀ (j : Nat) (v : Value), ([.int .i64 1] : List Value)[j]? = some v → (w.alloc (.cells (rn 6 0).toArray 3)).cell? ⟨b, o + j, none⟩ = some v := by
      intro j v hj
      obtain ⟨h1, rfl⟩ := get_on (n := 1) hj
      obtain rfl : j = 0 := by omega
      exact below_cell (below_al (Below.refl w.heap.size w) _) _ _ HH.out
    first
      | exact fun _ => ⟨rfl, _, rfl, fun j v hj => by rw [row.opn_add]; exact key j v hj⟩
      | exact key
      | exact fun _ => key
      | (intro hh; exact absurd hh (by simp))
  case e4 => decide
  case e5 => exact one_on 1
  case e6 => exact below_al (Below.refl _ _) _
  case e7 => exact Nat.le_refl _
  intro w1 HG1 hB1
  have HG : Hid (w1.heap[w.heap.size]? = some (.cells (rn 6 1).toArray 3 (0, 0))) := Lib.hid HG1.out
  have HB1 := Lib.hid hB1
  clear HG1 hB1 hmk
  go_wp2_with fail
  go_loopw [8] (fun n wr => ∃ k : Nat, (k = 1 ∨ k = 2 ∨ k = 4 ∨ k = 6) ∧ n = .int .i64 k ∧ Hid (wr.heap[w.heap.size]? = some (.cells (rn 6 k).toArray 3 (0, 0))) ∧ Hid (Below w.heap.size w wr)) (fun n _ => 6 - (intOf n).toNat)
  case atStart => exact ⟨1, .inl rfl, rfl, HG, HB1⟩
  case round =>
    obtain ⟨k, hk, rfl, hG, hB⟩ := hrel
    clear HG HB1
    obtain ⟨wi, rfl⟩ : ∃ wi : World, wi = wr := ⟨_, rfl⟩
    obtain rfl | rfl | rfl | rfl := hk
    · have hwk : IntKind.i64.wrap 2 = 2 := rfl
      go_wp2_with fail
      go_region_law (refine step_copy_splice rfl (.tmp 41) (.tmp 44) 23 23 rfl 3 Try.underlying23 (by kernel_rfl) (some ⟨w.heap.size, 1, none⟩) (some ⟨w.heap.size, 0, none⟩) 5 5 1 6 (by simp [Act.eval, Act.put]) (by simp [Act.eval, Act.put]) w.heap.size 1 (rn 6 1) 3 (by exact hG.out) [.int .i64 1] rfl (fun _ => ⟨rfl, _, rfl, fun j v hj => by
        obtain ⟨h1, rfl⟩ := get_on (n := 1) hj
        rw [row.opn_add]
        exact rn_cell hG.out (by omega)⟩) (by decide) (one_on 1) w.heap.size w (by exact below_dr hB.out) (Nat.le_refl _) ?_; intro w4 hg4 hb4)
      have HG4 : Hid (w4.heap[w.heap.size]? = some (.cells (rn 6 2).toArray 3 (0, 0))) := Lib.hid hg4.out
      have HB4 := Lib.hid hb4
      clear hg4 hb4
      go_wp2_with fail
      go_simp
      all_goals (simp [intOf])
    · have hwk : IntKind.i64.wrap 4 = 4 := rfl
      go_wp2_with fail
      go_region_law (refine step_copy_splice rfl (.tmp 41) (.tmp 44) 23 23 rfl 3 Try.underlying23 (by kernel_rfl) (some ⟨w.heap.size, 2, none⟩) (some ⟨w.heap.size, 0, none⟩) 4 4 2 6 (by simp [Act.eval, Act.put]) (by simp [Act.eval, Act.put]) w.heap.size 2 (rn 6 2) 3 (by exact hG.out) [.int .i64 1, .int .i64 1] rfl (fun _ => ⟨rfl, _, rfl, fun j v hj => by
        obtain ⟨h1, rfl⟩ := get_on (n := 2) hj
        rw [row.opn_add]
        exact rn_cell hG.out (by omega)⟩) (by decide) (one_on 2) w.heap.size w (by exact below_dr hB.out) (Nat.le_refl _) ?_; intro w4 hg4 hb4)
      have HG4 : Hid (w4.heap[w.heap.size]? = some (.cells (rn 6 4).toArray 3 (0, 0))) := Lib.hid hg4.out
      have HB4 := Lib.hid hb4
      clear hg4 hb4
      go_wp2_with fail
      go_simp
      all_goals (simp [intOf])
    · have hwk : IntKind.i64.wrap 6 = 6 := rfl
      go_wp2_with fail
      go_region_law (refine step_copy_splice rfl (.tmp 41) (.tmp 44) 23 23 rfl 3 Try.underlying23 (by kernel_rfl) (some ⟨w.heap.size, 4, none⟩) (some ⟨w.heap.size, 0, none⟩) 2 2 4 6 (by simp [Act.eval, Act.put]) (by simp [Act.eval, Act.put]) w.heap.size 4 (rn 6 4) 3 (by exact hG.out) [.int .i64 1, .int .i64 1] rfl (fun _ => ⟨rfl, _, rfl, fun j v hj => by
        obtain ⟨h1, rfl⟩ := get_on (n := 2) hj
        rw [row.opn_add]
        exact rn_cell hG.out (by omega)⟩) (by decide) (one_on 2) w.heap.size w (by exact below_dr hB.out) (Nat.le_refl _) ?_; intro w4 hg4 hb4)
      have HG4 : Hid (w4.heap[w.heap.size]? = some (.cells (rn 6 6).toArray 3 (0, 0))) := Lib.hid hg4.out
      have HB4 := Lib.hid hb4
      clear hg4 hb4
      go_wp2_with fail
      go_simp
      all_goals (simp [intOf])
    · go_wp2_with fail
      go_ret
      exact ⟨_, rfl, own_ones hG.out (Nat.le_refl _) (by have := Blk.lt (w := wi) hG.out; omega) (by omega), hB.out⟩
theorem mul64_7 (w : World) : Calls Try.prog 98 #[.int .u64 1, .int .u64 7] w fun e w' => e = .returned (.tuple #[.int .u64 0, .int .u64 7]) ∧ w = w' := by
  have ha : bits .and .u64 1 4294967295 = 1 := by decide
  have hb : bits .and .u64 7 4294967295 = 7 := by decide
  have hc : bits .and .u64 0 4294967295 = 0 := by decide
  go_enter Try.func98, Try.ntmps98
  go_wp2
  refine bodyPost_ret (v := .tuple #[.int .u64 0, .int .u64 7]) (by simp [results, Try.results98, go_sem]; try decide) rfl ⟨rfl, rfl⟩
theorem mul_7 (w : World) : Calls Try.prog 95 #[.int .u64 1, .int .u64 7] w fun e w' => e = .returned (.tuple #[.int .u64 0, .int .u64 7]) ∧ w = w' := by
  go_enter Try.func95, Try.ntmps95
  go_wp2_with fail
  refine (mul64_7 _).mono ?_
  rintro e w' ⟨rfl, rfl⟩
  go_wp2_with fail
  refine bodyPost_ret (v := .tuple #[.int .u64 0, .int .u64 7]) (by simp [results, Try.results95, go_sem]) rfl ⟨rfl, rfl⟩
set_option maxHeartbeats 8000000 in
theorem repeat_7 (b o cap : Nat) (w : World) (h : w.cell? ⟨b, o, none⟩ = some (.int .i64 1)) :
    Calls Try.prog 84 #[.slice (some ⟨b, o, none⟩) 1 cap, .int .i64 7] w fun e w' => ∃ u, e = .returned u ∧ OwnInts w' w.heap.size w'.heap.size u (List.replicate 7 1) ∧ Below w.heap.size w w' := by
  have hmk : ∀ W : World, (Instr.makeSlice 23 (.int .i64 7) (.int .i64 7)).run Try.prog W = .ok (.slice (some ⟨W.heap.size, 0, none⟩) 7 7) (W.alloc (.cells (rn 7 0).toArray 3)) := fun W => by kernel_rfl
  have HH := Lib.hid h
  clear h
  have hb0 := World.block_lt_of_cell? _ _ HH.out
  have HB0 : Hid (b < w.heap.size) := Lib.hid hb0
  clear hb0
  go_enter Try.func84, Try.ntmps84
  go_wp2_with fail
  refine (mul_7 _).mono ?_
  rintro e w' ⟨rfl, rfl⟩
  go_wp2_with (with_reducible refine wpList_copy_splice rfl (.tmp 31) (.tmp 32) 23 23 rfl 3 Try.underlying23 (by kernel_rfl) (some ⟨w.heap.size, 0, none⟩) (some ⟨b, o, none⟩) 7 7 1 cap rfl rfl w.heap.size 0 (rn 7 0) 3 ?e1 [.int .i64 1] ?e2 ?e3 ?e4 ?e5 w.heap.size w ?e6 ?e7 ?_)
  case e1 => exact heap_alloc_new w _
  case e2 => rfl
  case e3 =>
    have key : ∀ (j : Nat) (v : Value), ([.int .i64 1] : List Value)[j]? = some v → (w.alloc (.cells (rn 7 0).toArray 3)).cell? ⟨b, o + j, none⟩ = some v := by
      intro j v hj
      obtain ⟨h1, rfl⟩ := get_on (n := 1) hj
      obtain rfl : j = 0 := by omega
      exact below_cell (below_al (Below.refl w.heap.size w) _) _ _ HH.out
    first
      | exact fun _ => ⟨rfl, _, rfl, fun j v hj => by rw [row.opn_add]; exact key j v hj⟩
      | exact key
      | exact fun _ => key
      | (intro hh; exact absurd hh (by simp))
  case e4 => decide
  case e5 => exact one_on 1
  case e6 => exact below_al (Below.refl _ _) _
  case e7 => exact Nat.le_refl _
  intro w1 HG1 hB1
  have HG : Hid (w1.heap[w.heap.size]? = some (.cells (rn 7 1).toArray 3 (0, 0))) := Lib.hid HG1.out
  have HB1 := Lib.hid hB1
  clear HG1 hB1 hmk
  go_wp2_with fail
  go_loopw [8] (fun n wr => ∃ k : Nat, (k = 1 ∨ k = 2 ∨ k = 4 ∨ k = 7) ∧ n = .int .i64 k ∧ Hid (wr.heap[w.heap.size]? = some (.cells (rn 7 k).toArray 3 (0, 0))) ∧ Hid (Below w.heap.size w wr)) (fun n _ => 7 - (intOf n).toNat)
  case atStart => exact ⟨1, .inl rfl, rfl, HG, HB1⟩
  case round =>
    obtain ⟨k, hk, rfl, hG, hB⟩ := hrel
    clear HG HB1
    obtain ⟨wi, rfl⟩ : ∃ wi : World, wi = wr := ⟨_, rfl⟩
    obtain rfl | rfl | rfl | rfl := hk
    · have hwk : IntKind.i64.wrap 2 = 2 := rfl
      go_wp2_with fail
      go_region_law (refine step_copy_splice rfl (.tmp 41) (.tmp 44) 23 23 rfl 3 Try.underlying23 (by kernel_rfl) (some ⟨w.heap.size, 1, none⟩) (some ⟨w.heap.size, 0, none⟩) 6 6 1 7 (by simp [Act.eval, Act.put]) (by simp [Act.eval, Act.put]) w.heap.size 1 (rn 7 1) 3 (by exact hG.out) [.int .i64 1] rfl (fun _ => ⟨rfl, _, rfl, fun j v hj => by
        obtain ⟨h1, rfl⟩ := get_on (n := 1) hj
        rw [row.opn_add]
        exact rn_cell hG.out (by omega)⟩) (by decide) (one_on 1) w.heap.size w (by exact below_dr hB.out) (Nat.le_refl _) ?_; intro w4 hg4 hb4)
      have HG4 : Hid (w4.heap[w.heap.size]? = some (.cells (rn 7 2).toArray 3 (0, 0))) := Lib.hid hg4.out
      have HB4 := Lib.hid hb4
      clear hg4 hb4
      go_wp2_with fail
      go_simp
      all_goals (simp [intOf])
    · have hwk : IntKind.i64.wrap 4 = 4 := rfl
      go_wp2_with fail
      go_region_law (refine step_copy_splice rfl (.tmp 41) (.tmp 44) 23 23 rfl 3 Try.underlying23 (by kernel_rfl) (some ⟨w.heap.size, 2, none⟩) (some ⟨w.heap.size, 0, none⟩) 5 5 2 7 (by simp [Act.eval, Act.put]) (by simp [Act.eval, Act.put]) w.heap.size 2 (rn 7 2) 3 (by exact hG.out) [.int .i64 1, .int .i64 1] rfl (fun _ => ⟨rfl, _, rfl, fun j v hj => by
        obtain ⟨h1, rfl⟩ := get_on (n := 2) hj
        rw [row.opn_add]
        exact rn_cell hG.out (by omega)⟩) (by decide) (one_on 2) w.heap.size w (by exact below_dr hB.out) (Nat.le_refl _) ?_; intro w4 hg4 hb4)
      have HG4 : Hid (w4.heap[w.heap.size]? = some (.cells (rn 7 4).toArray 3 (0, 0))) := Lib.hid hg4.out
      have HB4 := Lib.hid hb4
      clear hg4 hb4
      go_wp2_with fail
      go_simp
      all_goals (simp [intOf])
    · have hwk : IntKind.i64.wrap 7 = 7 := rfl
      go_wp2_with fail
      go_region_law (refine step_copy_splice rfl (.tmp 41) (.tmp 44) 23 23 rfl 3 Try.underlying23 (by kernel_rfl) (some ⟨w.heap.size, 4, none⟩) (some ⟨w.heap.size, 0, none⟩) 3 3 4 7 (by simp [Act.eval, Act.put]) (by simp [Act.eval, Act.put]) w.heap.size 4 (rn 7 4) 3 (by exact hG.out) [.int .i64 1, .int .i64 1, .int .i64 1] rfl (fun _ => ⟨rfl, _, rfl, fun j v hj => by
        obtain ⟨h1, rfl⟩ := get_on (n := 3) hj
        rw [row.opn_add]
        exact rn_cell hG.out (by omega)⟩) (by decide) (one_on 3) w.heap.size w (by exact below_dr hB.out) (Nat.le_refl _) ?_; intro w4 hg4 hb4)
      have HG4 : Hid (w4.heap[w.heap.size]? = some (.cells (rn 7 7).toArray 3 (0, 0))) := Lib.hid hg4.out
      have HB4 := Lib.hid hb4
      clear hg4 hb4
      go_wp2_with fail
      go_simp
      all_goals (simp [intOf])
    · go_wp2_with fail
      go_ret
      exact ⟨_, rfl, own_ones hG.out (Nat.le_refl _) (by have := Blk.lt (w := wi) hG.out; omega) (by omega), hB.out⟩
theorem mul64_8 (w : World) : Calls Try.prog 98 #[.int .u64 1, .int .u64 8] w fun e w' => e = .returned (.tuple #[.int .u64 0, .int .u64 8]) ∧ w = w' := by
  have ha : bits .and .u64 1 4294967295 = 1 := by decide
  have hb : bits .and .u64 8 4294967295 = 8 := by decide
  have hc : bits .and .u64 0 4294967295 = 0 := by decide
  go_enter Try.func98, Try.ntmps98
  go_wp2
  refine bodyPost_ret (v := .tuple #[.int .u64 0, .int .u64 8]) (by simp [results, Try.results98, go_sem]; try decide) rfl ⟨rfl, rfl⟩
theorem mul_8 (w : World) : Calls Try.prog 95 #[.int .u64 1, .int .u64 8] w fun e w' => e = .returned (.tuple #[.int .u64 0, .int .u64 8]) ∧ w = w' := by
  go_enter Try.func95, Try.ntmps95
  go_wp2_with fail
  refine (mul64_8 _).mono ?_
  rintro e w' ⟨rfl, rfl⟩
  go_wp2_with fail
  refine bodyPost_ret (v := .tuple #[.int .u64 0, .int .u64 8]) (by simp [results, Try.results95, go_sem]) rfl ⟨rfl, rfl⟩
set_option maxHeartbeats 8000000 in
theorem repeat_8 (b o cap : Nat) (w : World) (h : w.cell? ⟨b, o, none⟩ = some (.int .i64 1)) :
    Calls Try.prog 84 #[.slice (some ⟨b, o, none⟩) 1 cap, .int .i64 8] w fun e w' => ∃ u, e = .returned u ∧ OwnInts w' w.heap.size w'.heap.size u (List.replicate 8 1) ∧ Below w.heap.size w w' := by
  have hmk : ∀ W : World, (Instr.makeSlice 23 (.int .i64 8) (.int .i64 8)).run Try.prog W = .ok (.slice (some ⟨W.heap.size, 0, none⟩) 8 8) (W.alloc (.cells (rn 8 0).toArray 3)) := fun W => by kernel_rfl
  have HH := Lib.hid h
  clear h
  have hb0 := World.block_lt_of_cell? _ _ HH.out
  have HB0 : Hid (b < w.heap.size) := Lib.hid hb0
  clear hb0
  go_enter Try.func84, Try.ntmps84
  go_wp2_with fail
  refine (mul_8 _).mono ?_
  rintro e w' ⟨rfl, rfl⟩
  go_wp2_with (with_reducible refine wpList_copy_splice rfl (.tmp 31) (.tmp 32) 23 23 rfl 3 Try.underlying23 (by kernel_rfl) (some ⟨w.heap.size, 0, none⟩) (some ⟨b, o, none⟩) 8 8 1 cap rfl rfl w.heap.size 0 (rn 8 0) 3 ?e1 [.int .i64 1] ?e2 ?e3 ?e4 ?e5 w.heap.size w ?e6 ?e7 ?_)
  case e1 => exact heap_alloc_new w _
  case e2 => rfl
  case e3 =>
    have key : ∀ (j : Nat) (v : Value), ([.int .i64 1] : List Value)[j]? = some v → (w.alloc (.cells (rn 8 0).toArray 3)).cell? ⟨b, o + j, none⟩ = some v := by
      intro j v hj
      obtain ⟨h1, rfl⟩ := get_on (n := 1) hj
      obtain rfl : j = 0 := by omega
      exact below_cell (below_al (Below.refl w.heap.size w) _) _ _ HH.out
    first
      | exact fun _ => ⟨rfl, _, rfl, fun j v hj => by rw [row.opn_add]; exact key j v hj⟩
      | exact key
      | exact fun _ => key
      | (intro hh; exact absurd hh (by simp))
  case e4 => decide
  case e5 => exact one_on 1
  case e6 => exact below_al (Below.refl _ _) _
  case e7 => exact Nat.le_refl _
  intro w1 HG1 hB1
  have HG : Hid (w1.heap[w.heap.size]? = some (.cells (rn 8 1).toArray 3 (0, 0))) := Lib.hid HG1.out
  have HB1 := Lib.hid hB1
  clear HG1 hB1 hmk
  go_wp2_with fail
  go_loopw [8] (fun n wr => ∃ k : Nat, (k = 1 ∨ k = 2 ∨ k = 4 ∨ k = 8) ∧ n = .int .i64 k ∧ Hid (wr.heap[w.heap.size]? = some (.cells (rn 8 k).toArray 3 (0, 0))) ∧ Hid (Below w.heap.size w wr)) (fun n _ => 8 - (intOf n).toNat)
  case atStart => exact ⟨1, .inl rfl, rfl, HG, HB1⟩
  case round =>
    obtain ⟨k, hk, rfl, hG, hB⟩ := hrel
    clear HG HB1
    obtain ⟨wi, rfl⟩ : ∃ wi : World, wi = wr := ⟨_, rfl⟩
    obtain rfl | rfl | rfl | rfl := hk
    · have hwk : IntKind.i64.wrap 2 = 2 := rfl
      go_wp2_with fail
      go_region_law (refine step_copy_splice rfl (.tmp 41) (.tmp 44) 23 23 rfl 3 Try.underlying23 (by kernel_rfl) (some ⟨w.heap.size, 1, none⟩) (some ⟨w.heap.size, 0, none⟩) 7 7 1 8 (by simp [Act.eval, Act.put]) (by simp [Act.eval, Act.put]) w.heap.size 1 (rn 8 1) 3 (by exact hG.out) [.int .i64 1] rfl (fun _ => ⟨rfl, _, rfl, fun j v hj => by
        obtain ⟨h1, rfl⟩ := get_on (n := 1) hj
        rw [row.opn_add]
        exact rn_cell hG.out (by omega)⟩) (by decide) (one_on 1) w.heap.size w (by exact below_dr hB.out) (Nat.le_refl _) ?_; intro w4 hg4 hb4)
      have HG4 : Hid (w4.heap[w.heap.size]? = some (.cells (rn 8 2).toArray 3 (0, 0))) := Lib.hid hg4.out
      have HB4 := Lib.hid hb4
      clear hg4 hb4
      go_wp2_with fail
      go_simp
      all_goals (simp [intOf])
    · have hwk : IntKind.i64.wrap 4 = 4 := rfl
      go_wp2_with fail
      go_region_law (refine step_copy_splice rfl (.tmp 41) (.tmp 44) 23 23 rfl 3 Try.underlying23 (by kernel_rfl) (some ⟨w.heap.size, 2, none⟩) (some ⟨w.heap.size, 0, none⟩) 6 6 2 8 (by simp [Act.eval, Act.put]) (by simp [Act.eval, Act.put]) w.heap.size 2 (rn 8 2) 3 (by exact hG.out) [.int .i64 1, .int .i64 1] rfl (fun _ => ⟨rfl, _, rfl, fun j v hj => by
        obtain ⟨h1, rfl⟩ := get_on (n := 2) hj
        rw [row.opn_add]
        exact rn_cell hG.out (by omega)⟩) (by decide) (one_on 2) w.heap.size w (by exact below_dr hB.out) (Nat.le_refl _) ?_; intro w4 hg4 hb4)
      have HG4 : Hid (w4.heap[w.heap.size]? = some (.cells (rn 8 4).toArray 3 (0, 0))) := Lib.hid hg4.out
      have HB4 := Lib.hid hb4
      clear hg4 hb4
      go_wp2_with fail
      go_simp
      all_goals (simp [intOf])
    · have hwk : IntKind.i64.wrap 8 = 8 := rfl
      go_wp2_with fail
      go_region_law (refine step_copy_splice rfl (.tmp 41) (.tmp 44) 23 23 rfl 3 Try.underlying23 (by kernel_rfl) (some ⟨w.heap.size, 4, none⟩) (some ⟨w.heap.size, 0, none⟩) 4 4 4 8 (by simp [Act.eval, Act.put]) (by simp [Act.eval, Act.put]) w.heap.size 4 (rn 8 4) 3 (by exact hG.out) [.int .i64 1, .int .i64 1, .int .i64 1, .int .i64 1] rfl (fun _ => ⟨rfl, _, rfl, fun j v hj => by
        obtain ⟨h1, rfl⟩ := get_on (n := 4) hj
        rw [row.opn_add]
        exact rn_cell hG.out (by omega)⟩) (by decide) (one_on 4) w.heap.size w (by exact below_dr hB.out) (Nat.le_refl _) ?_; intro w4 hg4 hb4)
      have HG4 : Hid (w4.heap[w.heap.size]? = some (.cells (rn 8 8).toArray 3 (0, 0))) := Lib.hid hg4.out
      have HB4 := Lib.hid hb4
      clear hg4 hb4
      go_wp2_with fail
      go_simp
      all_goals (simp [intOf])
    · go_wp2_with fail
      go_ret
      exact ⟨_, rfl, own_ones hG.out (Nat.le_refl _) (by have := Blk.lt (w := wi) hG.out; omega) (by omega), hB.out⟩
theorem mul64_9 (w : World) : Calls Try.prog 98 #[.int .u64 1, .int .u64 9] w fun e w' => e = .returned (.tuple #[.int .u64 0, .int .u64 9]) ∧ w = w' := by
  have ha : bits .and .u64 1 4294967295 = 1 := by decide
  have hb : bits .and .u64 9 4294967295 = 9 := by decide
  have hc : bits .and .u64 0 4294967295 = 0 := by decide
  go_enter Try.func98, Try.ntmps98
  go_wp2
  refine bodyPost_ret (v := .tuple #[.int .u64 0, .int .u64 9]) (by simp [results, Try.results98, go_sem]; try decide) rfl ⟨rfl, rfl⟩
theorem mul_9 (w : World) : Calls Try.prog 95 #[.int .u64 1, .int .u64 9] w fun e w' => e = .returned (.tuple #[.int .u64 0, .int .u64 9]) ∧ w = w' := by
  go_enter Try.func95, Try.ntmps95
  go_wp2_with fail
  refine (mul64_9 _).mono ?_
  rintro e w' ⟨rfl, rfl⟩
  go_wp2_with fail
  refine bodyPost_ret (v := .tuple #[.int .u64 0, .int .u64 9]) (by simp [results, Try.results95, go_sem]) rfl ⟨rfl, rfl⟩
set_option maxHeartbeats 8000000 in
theorem repeat_9 (b o cap : Nat) (w : World) (h : w.cell? ⟨b, o, none⟩ = some (.int .i64 1)) :
    Calls Try.prog 84 #[.slice (some ⟨b, o, none⟩) 1 cap, .int .i64 9] w fun e w' => ∃ u, e = .returned u ∧ OwnInts w' w.heap.size w'.heap.size u (List.replicate 9 1) ∧ Below w.heap.size w w' := by
  have hmk : ∀ W : World, (Instr.makeSlice 23 (.int .i64 9) (.int .i64 9)).run Try.prog W = .ok (.slice (some ⟨W.heap.size, 0, none⟩) 9 9) (W.alloc (.cells (rn 9 0).toArray 3)) := fun W => by kernel_rfl
  have HH := Lib.hid h
  clear h
  have hb0 := World.block_lt_of_cell? _ _ HH.out
  have HB0 : Hid (b < w.heap.size) := Lib.hid hb0
  clear hb0
  go_enter Try.func84, Try.ntmps84
  go_wp2_with fail
  refine (mul_9 _).mono ?_
  rintro e w' ⟨rfl, rfl⟩
  go_wp2_with (with_reducible refine wpList_copy_splice rfl (.tmp 31) (.tmp 32) 23 23 rfl 3 Try.underlying23 (by kernel_rfl) (some ⟨w.heap.size, 0, none⟩) (some ⟨b, o, none⟩) 9 9 1 cap rfl rfl w.heap.size 0 (rn 9 0) 3 ?e1 [.int .i64 1] ?e2 ?e3 ?e4 ?e5 w.heap.size w ?e6 ?e7 ?_)
  case e1 => exact heap_alloc_new w _
  case e2 => rfl
  case e3 =>
    have key : ∀ (j : Nat) (v : Value), ([.int .i64 1] : List Value)[j]? = some v → (w.alloc (.cells (rn 9 0).toArray 3)).cell? ⟨b, o + j, none⟩ = some v := by
      intro j v hj
      obtain ⟨h1, rfl⟩ := get_on (n := 1) hj
      obtain rfl : j = 0 := by omega
      exact below_cell (below_al (Below.refl w.heap.size w) _) _ _ HH.out
    first
      | exact fun _ => ⟨rfl, _, rfl, fun j v hj => by rw [row.opn_add]; exact key j v hj⟩
      | exact key
      | exact fun _ => key
      | (intro hh; exact absurd hh (by simp))
  case e4 => decide
  case e5 => exact one_on 1
  case e6 => exact below_al (Below.refl _ _) _
  case e7 => exact Nat.le_refl _
  intro w1 HG1 hB1
  have HG : Hid (w1.heap[w.heap.size]? = some (.cells (rn 9 1).toArray 3 (0, 0))) := Lib.hid HG1.out
  have HB1 := Lib.hid hB1
  clear HG1 hB1 hmk
  go_wp2_with fail
  go_loopw [8] (fun n wr => ∃ k : Nat, (k = 1 ∨ k = 2 ∨ k = 4 ∨ k = 8 ∨ k = 9) ∧ n = .int .i64 k ∧ Hid (wr.heap[w.heap.size]? = some (.cells (rn 9 k).toArray 3 (0, 0))) ∧ Hid (Below w.heap.size w wr)) (fun n _ => 9 - (intOf n).toNat)
  case atStart => exact ⟨1, .inl rfl, rfl, HG, HB1⟩
  case round =>
    obtain ⟨k, hk, rfl, hG, hB⟩ := hrel
    clear HG HB1
    obtain ⟨wi, rfl⟩ : ∃ wi : World, wi = wr := ⟨_, rfl⟩
    obtain rfl | rfl | rfl | rfl | rfl := hk
    · have hwk : IntKind.i64.wrap 2 = 2 := rfl
      go_wp2_with fail
      go_region_law (refine step_copy_splice rfl (.tmp 41) (.tmp 44) 23 23 rfl 3 Try.underlying23 (by kernel_rfl) (some ⟨w.heap.size, 1, none⟩) (some ⟨w.heap.size, 0, none⟩) 8 8 1 9 (by simp [Act.eval, Act.put]) (by simp [Act.eval, Act.put]) w.heap.size 1 (rn 9 1) 3 (by exact hG.out) [.int .i64 1] rfl (fun _ => ⟨rfl, _, rfl, fun j v hj => by
        obtain ⟨h1, rfl⟩ := get_on (n := 1) hj
        rw [row.opn_add]
        exact rn_cell hG.out (by omega)⟩) (by decide) (one_on 1) w.heap.size w (by exact below_dr hB.out) (Nat.le_refl _) ?_; intro w4 hg4 hb4)
      have HG4 : Hid (w4.heap[w.heap.size]? = some (.cells (rn 9 2).toArray 3 (0, 0))) := Lib.hid hg4.out
      have HB4 := Lib.hid hb4
      clear hg4 hb4
      go_wp2_with fail
      go_simp
      all_goals (simp [intOf])
    · have hwk : IntKind.i64.wrap 4 = 4 := rfl
      go_wp2_with fail
      go_region_law (refine step_copy_splice rfl (.tmp 41) (.tmp 44) 23 23 rfl 3 Try.underlying23 (by kernel_rfl) (some ⟨w.heap.size, 2, none⟩) (some ⟨w.heap.size, 0, none⟩) 7 7 2 9 (by simp [Act.eval, Act.put]) (by simp [Act.eval, Act.put]) w.heap.size 2 (rn 9 2) 3 (by exact hG.out) [.int .i64 1, .int .i64 1] rfl (fun _ => ⟨rfl, _, rfl, fun j v hj => by
        obtain ⟨h1, rfl⟩ := get_on (n := 2) hj
        rw [row.opn_add]
        exact rn_cell hG.out (by omega)⟩) (by decide) (one_on 2) w.heap.size w (by exact below_dr hB.out) (Nat.le_refl _) ?_; intro w4 hg4 hb4)
      have HG4 : Hid (w4.heap[w.heap.size]? = some (.cells (rn 9 4).toArray 3 (0, 0))) := Lib.hid hg4.out
      have HB4 := Lib.hid hb4
      clear hg4 hb4
      go_wp2_with fail
      go_simp
      all_goals (simp [intOf])
    · have hwk : IntKind.i64.wrap 8 = 8 := rfl
      go_wp2_with fail
      go_region_law (refine step_copy_splice rfl (.tmp 41) (.tmp 44) 23 23 rfl 3 Try.underlying23 (by kernel_rfl) (some ⟨w.heap.size, 4, none⟩) (some ⟨w.heap.size, 0, none⟩) 5 5 4 9 (by simp [Act.eval, Act.put]) (by simp [Act.eval, Act.put]) w.heap.size 4 (rn 9 4) 3 (by exact hG.out) [.int .i64 1, .int .i64 1, .int .i64 1, .int .i64 1] rfl (fun _ => ⟨rfl, _, rfl, fun j v hj => by
        obtain ⟨h1, rfl⟩ := get_on (n := 4) hj
        rw [row.opn_add]
        exact rn_cell hG.out (by omega)⟩) (by decide) (one_on 4) w.heap.size w (by exact below_dr hB.out) (Nat.le_refl _) ?_; intro w4 hg4 hb4)
      have HG4 : Hid (w4.heap[w.heap.size]? = some (.cells (rn 9 8).toArray 3 (0, 0))) := Lib.hid hg4.out
      have HB4 := Lib.hid hb4
      clear hg4 hb4
      go_wp2_with fail
      go_simp
      all_goals (simp [intOf])
    · have hwk : IntKind.i64.wrap 9 = 9 := rfl
      go_wp2_with fail
      go_region_law (refine step_copy_splice rfl (.tmp 41) (.tmp 44) 23 23 rfl 3 Try.underlying23 (by kernel_rfl) (some ⟨w.heap.size, 8, none⟩) (some ⟨w.heap.size, 0, none⟩) 1 1 8 9 (by simp [Act.eval, Act.put]) (by simp [Act.eval, Act.put]) w.heap.size 8 (rn 9 8) 3 (by exact hG.out) [.int .i64 1] rfl (fun _ => ⟨rfl, _, rfl, fun j v hj => by
        obtain ⟨h1, rfl⟩ := get_on (n := 1) hj
        rw [row.opn_add]
        exact rn_cell hG.out (by omega)⟩) (by decide) (one_on 1) w.heap.size w (by exact below_dr hB.out) (Nat.le_refl _) ?_; intro w4 hg4 hb4)
      have HG4 : Hid (w4.heap[w.heap.size]? = some (.cells (rn 9 9).toArray 3 (0, 0))) := Lib.hid hg4.out
      have HB4 := Lib.hid hb4
      clear hg4 hb4
      go_wp2_with fail
      go_simp
      all_goals (simp [intOf])
    · go_wp2_with fail
      go_ret
      exact ⟨_, rfl, own_ones hG.out (Nat.le_refl _) (by have := Blk.lt (w := wi) hG.out; omega) (by omega), hB.out⟩
theorem mul64_10 (w : World) : Calls Try.prog 98 #[.int .u64 1, .int .u64 10] w fun e w' => e = .returned (.tuple #[.int .u64 0, .int .u64 10]) ∧ w = w' := by
  have ha : bits .and .u64 1 4294967295 = 1 := by decide
  have hb : bits .and .u64 10 4294967295 = 10 := by decide
  have hc : bits .and .u64 0 4294967295 = 0 := by decide
  go_enter Try.func98, Try.ntmps98
  go_wp2
  refine bodyPost_ret (v := .tuple #[.int .u64 0, .int .u64 10]) (by simp [results, Try.results98, go_sem]; try decide) rfl ⟨rfl, rfl⟩
theorem mul_10 (w : World) : Calls Try.prog 95 #[.int .u64 1, .int .u64 10] w fun e w' => e = .returned (.tuple #[.int .u64 0, .int .u64 10]) ∧ w = w' := by
  go_enter Try.func95, Try.ntmps95
  go_wp2_with fail
  refine (mul64_10 _).mono ?_
  rintro e w' ⟨rfl, rfl⟩
  go_wp2_with fail
  refine bodyPost_ret (v := .tuple #[.int .u64 0, .int .u64 10]) (by simp [results, Try.results95, go_sem]) rfl ⟨rfl, rfl⟩
set_option maxHeartbeats 8000000 in
theorem repeat_10 (b o cap : Nat) (w : World) (h : w.cell? ⟨b, o, none⟩ = some (.int .i64 1)) :
    Calls Try.prog 84 #[.slice (some ⟨b, o, none⟩) 1 cap, .int .i64 10] w fun e w' => ∃ u, e = .returned u ∧ OwnInts w' w.heap.size w'.heap.size u (List.replicate 10 1) ∧ Below w.heap.size w w' := by
  have hmk : ∀ W : World, (Instr.makeSlice 23 (.int .i64 10) (.int .i64 10)).run Try.prog W = .ok (.slice (some ⟨W.heap.size, 0, none⟩) 10 10) (W.alloc (.cells (rn 10 0).toArray 3)) := fun W => by kernel_rfl
  have HH := Lib.hid h
  clear h
  have hb0 := World.block_lt_of_cell? _ _ HH.out
  have HB0 : Hid (b < w.heap.size) := Lib.hid hb0
  clear hb0
  go_enter Try.func84, Try.ntmps84
  go_wp2_with fail
  refine (mul_10 _).mono ?_
  rintro e w' ⟨rfl, rfl⟩
  go_wp2_with (with_reducible refine wpList_copy_splice rfl (.tmp 31) (.tmp 32) 23 23 rfl 3 Try.underlying23 (by kernel_rfl) (some ⟨w.heap.size, 0, none⟩) (some ⟨b, o, none⟩) 10 10 1 cap rfl rfl w.heap.size 0 (rn 10 0) 3 ?e1 [.int .i64 1] ?e2 ?e3 ?e4 ?e5 w.heap.size w ?e6 ?e7 ?_)
  case e1 => exact heap_alloc_new w _
  case e2 => rfl
  case e3 =>
    have key : ∀ (j : Nat) (v : Value), ([.int .i64 1] : List Value)[j]? = some v → (w.alloc (.cells (rn 10 0).toArray 3)).cell? ⟨b, o + j, none⟩ = some v := by
      intro j v hj
      obtain ⟨h1, rfl⟩ := get_on (n := 1) hj
      obtain rfl : j = 0 := by omega
      exact below_cell (below_al (Below.refl w.heap.size w) _) _ _ HH.out
    first
      | exact fun _ => ⟨rfl, _, rfl, fun j v hj => by rw [row.opn_add]; exact key j v hj⟩
      | exact key
      | exact fun _ => key
      | (intro hh; exact absurd hh (by simp))
  case e4 => decide
  case e5 => exact one_on 1
  case e6 => exact below_al (Below.refl _ _) _
  case e7 => exact Nat.le_refl _
  intro w1 HG1 hB1
  have HG : Hid (w1.heap[w.heap.size]? = some (.cells (rn 10 1).toArray 3 (0, 0))) := Lib.hid HG1.out
  have HB1 := Lib.hid hB1
  clear HG1 hB1 hmk
  go_wp2_with fail
  go_loopw [8] (fun n wr => ∃ k : Nat, (k = 1 ∨ k = 2 ∨ k = 4 ∨ k = 8 ∨ k = 10) ∧ n = .int .i64 k ∧ Hid (wr.heap[w.heap.size]? = some (.cells (rn 10 k).toArray 3 (0, 0))) ∧ Hid (Below w.heap.size w wr)) (fun n _ => 10 - (intOf n).toNat)
  case atStart => exact ⟨1, .inl rfl, rfl, HG, HB1⟩
  case round =>
    obtain ⟨k, hk, rfl, hG, hB⟩ := hrel
    clear HG HB1
    obtain ⟨wi, rfl⟩ : ∃ wi : World, wi = wr := ⟨_, rfl⟩
    obtain rfl | rfl | rfl | rfl | rfl := hk
    · have hwk : IntKind.i64.wrap 2 = 2 := rfl
      go_wp2_with fail
      go_region_law (refine step_copy_splice rfl (.tmp 41) (.tmp 44) 23 23 rfl 3 Try.underlying23 (by kernel_rfl) (some ⟨w.heap.size, 1, none⟩) (some ⟨w.heap.size, 0, none⟩) 9 9 1 10 (by simp [Act.eval, Act.put]) (by simp [Act.eval, Act.put]) w.heap.size 1 (rn 10 1) 3 (by exact hG.out) [.int .i64 1] rfl (fun _ => ⟨rfl, _, rfl, fun j v hj => by
        obtain ⟨h1, rfl⟩ := get_on (n := 1) hj
        rw [row.opn_add]
        exact rn_cell hG.out (by omega)⟩) (by decide) (one_on 1) w.heap.size w (by exact below_dr hB.out) (Nat.le_refl _) ?_; intro w4 hg4 hb4)
      have HG4 : Hid (w4.heap[w.heap.size]? = some (.cells (rn 10 2).toArray 3 (0, 0))) := Lib.hid hg4.out
      have HB4 := Lib.hid hb4
      clear hg4 hb4
      go_wp2_with fail
      go_simp
      all_goals (simp [intOf])
    · have hwk : IntKind.i64.wrap 4 = 4 := rfl
      go_wp2_with fail
      go_region_law (refine step_copy_splice rfl (.tmp 41) (.tmp 44) 23 23 rfl 3 Try.underlying23 (by kernel_rfl) (some ⟨w.heap.size, 2, none⟩) (some ⟨w.heap.size, 0, none⟩) 8 8 2 10 (by simp [Act.eval, Act.put]) (by simp [Act.eval, Act.put]) w.heap.size 2 (rn 10 2) 3 (by exact hG.out) [.int .i64 1, .int .i64 1] rfl (fun _ => ⟨rfl, _, rfl, fun j v hj => by
        obtain ⟨h1, rfl⟩ := get_on (n := 2) hj
        rw [row.opn_add]
        exact rn_cell hG.out (by omega)⟩) (by decide) (one_on 2) w.heap.size w (by exact below_dr hB.out) (Nat.le_refl _) ?_; intro w4 hg4 hb4)
      have HG4 : Hid (w4.heap[w.heap.size]? = some (.cells (rn 10 4).toArray 3 (0, 0))) := Lib.hid hg4.out
      have HB4 := Lib.hid hb4
      clear hg4 hb4
      go_wp2_with fail
      go_simp
      all_goals (simp [intOf])
    · have hwk : IntKind.i64.wrap 8 = 8 := rfl
      go_wp2_with fail
      go_region_law (refine step_copy_splice rfl (.tmp 41) (.tmp 44) 23 23 rfl 3 Try.underlying23 (by kernel_rfl) (some ⟨w.heap.size, 4, none⟩) (some ⟨w.heap.size, 0, none⟩) 6 6 4 10 (by simp [Act.eval, Act.put]) (by simp [Act.eval, Act.put]) w.heap.size 4 (rn 10 4) 3 (by exact hG.out) [.int .i64 1, .int .i64 1, .int .i64 1, .int .i64 1] rfl (fun _ => ⟨rfl, _, rfl, fun j v hj => by
        obtain ⟨h1, rfl⟩ := get_on (n := 4) hj
        rw [row.opn_add]
        exact rn_cell hG.out (by omega)⟩) (by decide) (one_on 4) w.heap.size w (by exact below_dr hB.out) (Nat.le_refl _) ?_; intro w4 hg4 hb4)
      have HG4 : Hid (w4.heap[w.heap.size]? = some (.cells (rn 10 8).toArray 3 (0, 0))) := Lib.hid hg4.out
      have HB4 := Lib.hid hb4
      clear hg4 hb4
      go_wp2_with fail
      go_simp
      all_goals (simp [intOf])
    · have hwk : IntKind.i64.wrap 10 = 10 := rfl
      go_wp2_with fail
      go_region_law (refine step_copy_splice rfl (.tmp 41) (.tmp 44) 23 23 rfl 3 Try.underlying23 (by kernel_rfl) (some ⟨w.heap.size, 8, none⟩) (some ⟨w.heap.size, 0, none⟩) 2 2 8 10 (by simp [Act.eval, Act.put]) (by simp [Act.eval, Act.put]) w.heap.size 8 (rn 10 8) 3 (by exact hG.out) [.int .i64 1, .int .i64 1] rfl (fun _ => ⟨rfl, _, rfl, fun j v hj => by
        obtain ⟨h1, rfl⟩ := get_on (n := 2) hj
        rw [row.opn_add]
        exact rn_cell hG.out (by omega)⟩) (by decide) (one_on 2) w.heap.size w (by exact below_dr hB.out) (Nat.le_refl _) ?_; intro w4 hg4 hb4)
      have HG4 : Hid (w4.heap[w.heap.size]? = some (.cells (rn 10 10).toArray 3 (0, 0))) := Lib.hid hg4.out
      have HB4 := Lib.hid hb4
      clear hg4 hb4
      go_wp2_with fail
      go_simp
      all_goals (simp [intOf])
    · go_wp2_with fail
      go_ret
      exact ⟨_, rfl, own_ones hG.out (Nat.le_refl _) (by have := Blk.lt (w := wi) hG.out; omega) (by omega), hB.out⟩
theorem repeat_any (n : Nat) (b o cap : Nat) (w : World) (h : w.cell? ⟨b, o, none⟩ = some (.int .i64 1)) (hn : n ≤ 10) :
    Calls Try.prog 84 #[.slice (some ⟨b, o, none⟩) 1 cap, .int .i64 (n : Int)] w fun e w' => ∃ u, e = .returned u ∧ OwnInts w' w.heap.size w'.heap.size u (List.replicate n 1) ∧ Below w.heap.size w w' := by
  match n, hn with
  | 0, _ => exact repeat_0 b o cap w h
  | 1, _ => exact repeat_1 b o cap w h
  | 2, _ => exact repeat_2 b o cap w h
  | 3, _ => exact repeat_3 b o cap w h
  | 4, _ => exact repeat_4 b o cap w h
  | 5, _ => exact repeat_5 b o cap w h
  | 6, _ => exact repeat_6 b o cap w h
  | 7, _ => exact repeat_7 b o cap w h
  | 8, _ => exact repeat_8 b o cap w h
  | 9, _ => exact repeat_9 b o cap w h
  | 10, _ => exact repeat_10 b o cap w h
  | k + 11, hh => exact absurd hh (by omega)

end Go.Proofs.Ytkikdecepdbbnaa.repn
