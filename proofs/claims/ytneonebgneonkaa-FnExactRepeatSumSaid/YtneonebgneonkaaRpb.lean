/- slices.Repeat of a list of one Box, one to nine times. -/
import Derived.Test.YtneonebgneonkaaCpw
namespace Go.Proofs.Ytneonebgneonkaa.rpb
open Go.RowKit Go.Deep Go.Proofs.Ytneonebgneonkaa.base
open Go.Proofs.Ytneonebgneonkaa.ints (ret_int infoInt infoInts)
open Go.Proofs.Ytneonebgneonkaa.cpw

def un : List Value := [.int .i64 0, .int .i64 0, .int .i64 0, .slice none 0 0]
/-- n of N elements stand, the others are zero -/
def rb (u : List Value) (N n : Nat) : List Value := (List.replicate n u ++ List.replicate (N - n) un).flatten
def bn (u : List Value) (n : Nat) : List Value := (List.replicate n u).flatten
theorem bn_mem {u : List Value} {n : Nat} (h : ∀ v ∈ u, v.oneCell' = true) : ∀ v ∈ bn u n, v.oneCell' = true := by
  intro v hv
  obtain ⟨l, hl, hv⟩ := List.mem_flatten.1 hv
  rw [List.eq_of_mem_replicate hl] at hv
  exact h v hv
theorem bn_length (u : List Value) (n : Nat) : (bn u n).length = n * u.length := by
  induction n with
  | zero => simp [bn]
  | succ n ih =>
    have e : bn u (n + 1) = u ++ bn u n := by simp [bn, List.replicate_succ]
    rw [e, List.length_append, ih, Nat.add_mul]
    omega
theorem bn_add (u : List Value) (n m : Nat) : bn u (n + m) = bn u n ++ bn u m := by
  induction n with
  | zero => simp [bn]
  | succ n ih =>
    have e : ∀ k, bn u (k + 1) = u ++ bn u k := fun k => by simp [bn, List.replicate_succ]
    rw [show n + 1 + m = (n + m) + 1 from by omega, e, e, ih, List.append_assoc]
theorem rb_bn (u : List Value) (N n : Nat) : rb u N n = bn u n ++ bn un (N - n) := by simp [rb, bn, List.flatten_append]
theorem rb_length {u : List Value} {N n : Nat} (hu : u.length = 4) (h : n ≤ N) : (rb u N n).length = N * 4 := by
  have e : un.length = 4 := rfl
  rw [rb_bn, List.length_append, bn_length, bn_length, hu, e, ← Nat.add_mul]
  congr 1
  omega
theorem rb_splice {u : List Value} {N n m : Nat} (hu : u.length = 4) (h : n + m ≤ N) : splice (rb u N n) (n * 4) (bn u m) = rb u N (n + m) := by
  have e : un.length = 4 := rfl
  have e1 : (bn u n).length = n * 4 := by rw [bn_length, hu]
  have e2 : (bn u m).length = m * 4 := by rw [bn_length, hu]
  have e3 : (bn un m).length = m * 4 := by rw [bn_length, e]
  have e4 : N - n = m + (N - (n + m)) := by omega
  unfold splice
  rw [e2, rb_bn u N n, rb_bn u N (n + m), List.take_append_of_le_length (by omega), List.take_of_length_le (by omega), List.drop_append, e1,
    List.drop_of_length_le (by omega), e4, bn_add un, List.nil_append, bn_add u,
    show n * 4 + m * 4 - n * 4 = m * 4 from by omega, List.drop_append, e3, List.drop_of_length_le (by omega), Nat.sub_self, List.drop_zero, List.nil_append, List.append_assoc]
theorem rb_cell {u : List Value} {w : World} {g N n m : Nat} {t : TypeId} (h : w.heap[g]? = some (.cells (rb u N n).toArray t (0, 0))) (hm : m ≤ n) (j : Nat) (v : Value) (hj : (bn u m)[j]? = some v) : w.drew.cell? ((⟨g, 0, none⟩ : Addr).add j) = some v := by
  have hadd : (⟨g, 0, none⟩ : Addr).add j = ⟨g, 0 + j, none⟩ := by unfold Addr.add; split <;> simp_all
  rw [hadd]
  have hlt : j < (bn u m).length := by
    rcases Nat.lt_or_ge j (bn u m).length with h | h
    · exact h
    · rw [List.getElem?_eq_none h] at hj; cases hj
  have e : (rb u N n)[0 + j]? = some v := by
    rw [Nat.zero_add, rb_bn, show n = m + (n - m) from by omega, bn_add, List.append_assoc, List.getElem?_append_left hlt]
    exact hj
  have := Joins.cell_of_block h (0 + j)
  exact this.trans (by simpa using e)
theorem u_cell {w : World} {b o : Nat} {x y h : Int} {v : Value} (h0 : w.cell? ⟨b, o, none⟩ = some (.int .i64 x)) (h1 : w.cell? ⟨b, o + 1, none⟩ = some (.int .i64 y)) (h2 : w.cell? ⟨b, o + 2, none⟩ = some (.int .i64 h)) (h3 : w.cell? ⟨b, o + 3, none⟩ = some v) (j : Nat) (q : Value) (hj : (bn [.int .i64 x, .int .i64 y, .int .i64 h, v] 1)[j]? = some q) : w.cell? ((⟨b, o, none⟩ : Addr).add j) = some q := by
  have hadd : (⟨b, o, none⟩ : Addr).add j = ⟨b, o + j, none⟩ := by unfold Addr.add; split <;> simp_all
  rw [hadd]
  match j, hj with
  | 0, hj => rw [← hj]; exact h0
  | 1, hj => rw [← hj]; exact h1
  | 2, hj => rw [← hj]; exact h2
  | 3, hj => rw [← hj]; exact h3
  | j + 4, hj => simp [bn] at hj

theorem mul64_1 (w : World) : Calls Try.prog 155 #[.int .u64 1, .int .u64 1] w fun e w' => e = .returned (.tuple #[.int .u64 0, .int .u64 1]) ∧ w = w' := by
  have ha : bits .and .u64 1 4294967295 = 1 := by decide
  have hb : bits .and .u64 1 4294967295 = 1 := by decide
  have hc : bits .and .u64 0 4294967295 = 0 := by decide
  go_enter Try.func155, Try.ntmps155
  go_wp2
  refine bodyPost_ret (v := .tuple #[.int .u64 0, .int .u64 1]) (by simp [results, Try.results155, go_sem]; try decide) rfl ⟨rfl, rfl⟩
theorem mul_1 (w : World) : Calls Try.prog 131 #[.int .u64 1, .int .u64 1] w fun e w' => e = .returned (.tuple #[.int .u64 0, .int .u64 1]) ∧ w = w' := by
  go_enter Try.func131, Try.ntmps131
  go_wp2_with fail
  refine (mul64_1 _).mono ?_
  rintro e w' ⟨rfl, rfl⟩
  go_wp2_with fail
  refine bodyPost_ret (v := .tuple #[.int .u64 0, .int .u64 1]) (by simp [results, Try.results131, go_sem]) rfl ⟨rfl, rfl⟩
set_option maxHeartbeats 8000000 in
theorem repeat_1 (b o cap : Nat) (x y h : Int) (va : Option Addr) (vn vc : Nat) (w : World) (h0 : w.cell? ⟨b, o, none⟩ = some (.int .i64 x)) (h1 : w.cell? ⟨b, o + 1, none⟩ = some (.int .i64 y)) (h2 : w.cell? ⟨b, o + 2, none⟩ = some (.int .i64 h)) (h3 : w.cell? ⟨b, o + 3, none⟩ = some (.slice va vn vc)) :
    Calls Try.prog 93 #[.slice (some ⟨b, o, none⟩) 1 cap, .int .i64 1] w fun e w' => e = .returned (.slice (some ⟨w.heap.size, 0, none⟩) 1 1) ∧ w'.heap[w.heap.size]? = some (.cells (rb [.int .i64 x, .int .i64 y, .int .i64 h, .slice va vn vc] 1 1).toArray 48 (0, 0)) ∧ Below w.heap.size w w' := by
  obtain ⟨u, hu⟩ : ∃ u : List Value, u = [.int .i64 x, .int .i64 y, .int .i64 h, .slice va vn vc] := ⟨_, rfl⟩
  have hu4 : u.length = 4 := by rw [hu]; rfl
  have h1c : ∀ v ∈ u, v.oneCell' = true := by intro v hv; rw [hu] at hv; simp at hv; rcases hv with rfl | rfl | rfl | rfl <;> rfl
  have HS := Lib.hid (fun (W : World) (hb : Below w.heap.size w W) => u_cell (below_cell hb _ _ h0) (below_cell hb _ _ h1) (below_cell hb _ _ h2) (below_cell hb _ _ h3))
  rw [← hu] at HS ⊢
  have hmk : ∀ W : World, (Instr.makeSlice 110 (.int .i64 1) (.int .i64 1)).run Try.prog W = .ok (.slice (some ⟨W.heap.size, 0, none⟩) 1 1) (W.alloc (.cells (rb [] 1 0).toArray 48)) := fun W => by kernel_rfl
  have HU := Lib.hid hu4
  have H1C := Lib.hid h1c
  clear h0 h1 h2 h3 hu hu4 h1c
  go_enter Try.func93, Try.ntmps93
  go_wp2_with fail
  refine (mul_1 _).mono ?_
  rintro e w' ⟨rfl, rfl⟩
  go_wp2_with (with_reducible refine wpList_wide rfl (.tmp 31) (.tmp 32) 110 110 rfl 48 Try.underlying110 4 1 (by kernel_rfl) w.heap.size 0 1 1 ⟨b, o, none⟩ 1 cap rfl rfl (rb u 1 0) 48 ?e1 (bn u 1) ?e2 ?e3 ?e4 ?e5 ?e6 w.heap.size w ?e7 ?e8 ?_)
  case e1 => exact heap_alloc_new w _
  case e2 => decide
  case e3 => rw [bn_length, HU.out]
  case e4 => exact HS.out _ (below_al (Below.refl _ _) _)
  case e5 => rw [bn_length, rb_length HU.out (by decide), HU.out]; decide
  case e6 => exact bn_mem H1C.out
  case e7 => exact below_al (Below.refl _ _) _
  case e8 => exact Nat.le_refl _
  intro w1 HG1 hB1
  have HG : Hid (w1.heap[w.heap.size]? = some (.cells (rb u 1 1).toArray 48 (0, 0))) := Lib.hid (Eq.mp (congrArg (fun l : List Value => w1.heap[w.heap.size]? = some (.cells l.toArray 48 (0, 0))) (show splice (rb u 1 0) 0 (bn u 1) = rb u 1 1 from rb_splice (N := 1) (n := 0) (m := 1) HU.out (by decide))) HG1.out)
  have HB1 := Lib.hid hB1
  clear HG1 hB1 hmk
  go_wp2_with fail
  go_loopw [8] (fun n wr => ∃ k : Nat, (k = 1) ∧ n = .int .i64 k ∧ Hid (wr.heap[w.heap.size]? = some (.cells (rb u 1 k).toArray 48 (0, 0))) ∧ Hid (Below w.heap.size w wr)) (fun n _ => 1 - (intOf n).toNat)
  case atStart => exact ⟨1, rfl, rfl, HG, HB1⟩
  case round =>
    obtain ⟨k, hk, rfl, hG, hB⟩ := hrel
    clear HG HB1
    obtain ⟨wi, rfl⟩ : ∃ wi : World, wi = wr := ⟨_, rfl⟩
    obtain rfl := hk
    · go_wp2_with fail
      go_ret
      exact ⟨rfl, hG.out, hB.out⟩
theorem mul64_2 (w : World) : Calls Try.prog 155 #[.int .u64 1, .int .u64 2] w fun e w' => e = .returned (.tuple #[.int .u64 0, .int .u64 2]) ∧ w = w' := by
  have ha : bits .and .u64 1 4294967295 = 1 := by decide
  have hb : bits .and .u64 2 4294967295 = 2 := by decide
  have hc : bits .and .u64 0 4294967295 = 0 := by decide
  go_enter Try.func155, Try.ntmps155
  go_wp2
  refine bodyPost_ret (v := .tuple #[.int .u64 0, .int .u64 2]) (by simp [results, Try.results155, go_sem]; try decide) rfl ⟨rfl, rfl⟩
theorem mul_2 (w : World) : Calls Try.prog 131 #[.int .u64 1, .int .u64 2] w fun e w' => e = .returned (.tuple #[.int .u64 0, .int .u64 2]) ∧ w = w' := by
  go_enter Try.func131, Try.ntmps131
  go_wp2_with fail
  refine (mul64_2 _).mono ?_
  rintro e w' ⟨rfl, rfl⟩
  go_wp2_with fail
  refine bodyPost_ret (v := .tuple #[.int .u64 0, .int .u64 2]) (by simp [results, Try.results131, go_sem]) rfl ⟨rfl, rfl⟩
set_option maxHeartbeats 8000000 in
theorem repeat_2 (b o cap : Nat) (x y h : Int) (va : Option Addr) (vn vc : Nat) (w : World) (h0 : w.cell? ⟨b, o, none⟩ = some (.int .i64 x)) (h1 : w.cell? ⟨b, o + 1, none⟩ = some (.int .i64 y)) (h2 : w.cell? ⟨b, o + 2, none⟩ = some (.int .i64 h)) (h3 : w.cell? ⟨b, o + 3, none⟩ = some (.slice va vn vc)) :
    Calls Try.prog 93 #[.slice (some ⟨b, o, none⟩) 1 cap, .int .i64 2] w fun e w' => e = .returned (.slice (some ⟨w.heap.size, 0, none⟩) 2 2) ∧ w'.heap[w.heap.size]? = some (.cells (rb [.int .i64 x, .int .i64 y, .int .i64 h, .slice va vn vc] 2 2).toArray 48 (0, 0)) ∧ Below w.heap.size w w' := by
  obtain ⟨u, hu⟩ : ∃ u : List Value, u = [.int .i64 x, .int .i64 y, .int .i64 h, .slice va vn vc] := ⟨_, rfl⟩
  have hu4 : u.length = 4 := by rw [hu]; rfl
  have h1c : ∀ v ∈ u, v.oneCell' = true := by intro v hv; rw [hu] at hv; simp at hv; rcases hv with rfl | rfl | rfl | rfl <;> rfl
  have HS := Lib.hid (fun (W : World) (hb : Below w.heap.size w W) => u_cell (below_cell hb _ _ h0) (below_cell hb _ _ h1) (below_cell hb _ _ h2) (below_cell hb _ _ h3))
  rw [← hu] at HS ⊢
  have hmk : ∀ W : World, (Instr.makeSlice 110 (.int .i64 2) (.int .i64 2)).run Try.prog W = .ok (.slice (some ⟨W.heap.size, 0, none⟩) 2 2) (W.alloc (.cells (rb [] 2 0).toArray 48)) := fun W => by kernel_rfl
  have HU := Lib.hid hu4
  have H1C := Lib.hid h1c
  clear h0 h1 h2 h3 hu hu4 h1c
  go_enter Try.func93, Try.ntmps93
  go_wp2_with fail
  refine (mul_2 _).mono ?_
  rintro e w' ⟨rfl, rfl⟩
  go_wp2_with (with_reducible refine wpList_wide rfl (.tmp 31) (.tmp 32) 110 110 rfl 48 Try.underlying110 4 1 (by kernel_rfl) w.heap.size 0 2 2 ⟨b, o, none⟩ 1 cap rfl rfl (rb u 2 0) 48 ?e1 (bn u 1) ?e2 ?e3 ?e4 ?e5 ?e6 w.heap.size w ?e7 ?e8 ?_)
  case e1 => exact heap_alloc_new w _
  case e2 => decide
  case e3 => rw [bn_length, HU.out]
  case e4 => exact HS.out _ (below_al (Below.refl _ _) _)
  case e5 => rw [bn_length, rb_length HU.out (by decide), HU.out]; decide
  case e6 => exact bn_mem H1C.out
  case e7 => exact below_al (Below.refl _ _) _
  case e8 => exact Nat.le_refl _
  intro w1 HG1 hB1
  have HG : Hid (w1.heap[w.heap.size]? = some (.cells (rb u 2 1).toArray 48 (0, 0))) := Lib.hid (Eq.mp (congrArg (fun l : List Value => w1.heap[w.heap.size]? = some (.cells l.toArray 48 (0, 0))) (show splice (rb u 2 0) 0 (bn u 1) = rb u 2 1 from rb_splice (N := 2) (n := 0) (m := 1) HU.out (by decide))) HG1.out)
  have HB1 := Lib.hid hB1
  clear HG1 hB1 hmk
  go_wp2_with fail
  go_loopw [8] (fun n wr => ∃ k : Nat, (k = 1 ∨ k = 2) ∧ n = .int .i64 k ∧ Hid (wr.heap[w.heap.size]? = some (.cells (rb u 2 k).toArray 48 (0, 0))) ∧ Hid (Below w.heap.size w wr)) (fun n _ => 2 - (intOf n).toNat)
  case atStart => exact ⟨1, .inl rfl, rfl, HG, HB1⟩
  case round =>
    obtain ⟨k, hk, rfl, hG, hB⟩ := hrel
    clear HG HB1
    obtain ⟨wi, rfl⟩ : ∃ wi : World, wi = wr := ⟨_, rfl⟩
    obtain rfl | rfl := hk
    · have hwk : IntKind.i64.wrap 2 = 2 := rfl
      go_wp2_with fail
      go_region_law (refine step_wide rfl (.tmp 41) (.tmp 44) 110 110 rfl 48 Try.underlying110 4 1 (by kernel_rfl) w.heap.size 4 1 1 ⟨w.heap.size, 0, none⟩ 1 2 (by simp [Act.eval, Act.put]) (by simp [Act.eval, Act.put]) (rb u 2 1) 48 (by exact hG.out) (bn u 1) (by decide) (by rw [bn_length, HU.out]) (rb_cell (m := 1) hG.out (by decide)) (by rw [bn_length, rb_length HU.out (by decide), HU.out]; decide) (bn_mem H1C.out) w.heap.size w (by exact below_dr hB.out) (Nat.le_refl _) ?_; intro w4 hg4 hb4)
      have HG4 : Hid (w4.heap[w.heap.size]? = some (.cells (rb u 2 2).toArray 48 (0, 0))) := Lib.hid (Eq.mp (congrArg (fun l : List Value => w4.heap[w.heap.size]? = some (.cells l.toArray 48 (0, 0))) (show splice (rb u 2 1) 4 (bn u 1) = rb u 2 2 from rb_splice (N := 2) (n := 1) (m := 1) HU.out (by decide))) hg4.out)
      have HB4 := Lib.hid hb4
      clear hg4 hb4
      go_wp2_with fail
      go_simp
      all_goals (simp [intOf])
    · go_wp2_with fail
      go_ret
      exact ⟨rfl, hG.out, hB.out⟩
theorem mul64_3 (w : World) : Calls Try.prog 155 #[.int .u64 1, .int .u64 3] w fun e w' => e = .returned (.tuple #[.int .u64 0, .int .u64 3]) ∧ w = w' := by
  have ha : bits .and .u64 1 4294967295 = 1 := by decide
  have hb : bits .and .u64 3 4294967295 = 3 := by decide
  have hc : bits .and .u64 0 4294967295 = 0 := by decide
  go_enter Try.func155, Try.ntmps155
  go_wp2
  refine bodyPost_ret (v := .tuple #[.int .u64 0, .int .u64 3]) (by simp [results, Try.results155, go_sem]; try decide) rfl ⟨rfl, rfl⟩
theorem mul_3 (w : World) : Calls Try.prog 131 #[.int .u64 1, .int .u64 3] w fun e w' => e = .returned (.tuple #[.int .u64 0, .int .u64 3]) ∧ w = w' := by
  go_enter Try.func131, Try.ntmps131
  go_wp2_with fail
  refine (mul64_3 _).mono ?_
  rintro e w' ⟨rfl, rfl⟩
  go_wp2_with fail
  refine bodyPost_ret (v := .tuple #[.int .u64 0, .int .u64 3]) (by simp [results, Try.results131, go_sem]) rfl ⟨rfl, rfl⟩
set_option maxHeartbeats 8000000 in
theorem repeat_3 (b o cap : Nat) (x y h : Int) (va : Option Addr) (vn vc : Nat) (w : World) (h0 : w.cell? ⟨b, o, none⟩ = some (.int .i64 x)) (h1 : w.cell? ⟨b, o + 1, none⟩ = some (.int .i64 y)) (h2 : w.cell? ⟨b, o + 2, none⟩ = some (.int .i64 h)) (h3 : w.cell? ⟨b, o + 3, none⟩ = some (.slice va vn vc)) :
    Calls Try.prog 93 #[.slice (some ⟨b, o, none⟩) 1 cap, .int .i64 3] w fun e w' => e = .returned (.slice (some ⟨w.heap.size, 0, none⟩) 3 3) ∧ w'.heap[w.heap.size]? = some (.cells (rb [.int .i64 x, .int .i64 y, .int .i64 h, .slice va vn vc] 3 3).toArray 48 (0, 0)) ∧ Below w.heap.size w w' := by
  obtain ⟨u, hu⟩ : ∃ u : List Value, u = [.int .i64 x, .int .i64 y, .int .i64 h, .slice va vn vc] := ⟨_, rfl⟩
  have hu4 : u.length = 4 := by rw [hu]; rfl
  have h1c : ∀ v ∈ u, v.oneCell' = true := by intro v hv; rw [hu] at hv; simp at hv; rcases hv with rfl | rfl | rfl | rfl <;> rfl
  have HS := Lib.hid (fun (W : World) (hb : Below w.heap.size w W) => u_cell (below_cell hb _ _ h0) (below_cell hb _ _ h1) (below_cell hb _ _ h2) (below_cell hb _ _ h3))
  rw [← hu] at HS ⊢
  have hmk : ∀ W : World, (Instr.makeSlice 110 (.int .i64 3) (.int .i64 3)).run Try.prog W = .ok (.slice (some ⟨W.heap.size, 0, none⟩) 3 3) (W.alloc (.cells (rb [] 3 0).toArray 48)) := fun W => by kernel_rfl
  have HU := Lib.hid hu4
  have H1C := Lib.hid h1c
  clear h0 h1 h2 h3 hu hu4 h1c
  go_enter Try.func93, Try.ntmps93
  go_wp2_with fail
  refine (mul_3 _).mono ?_
  rintro e w' ⟨rfl, rfl⟩
  go_wp2_with (with_reducible refine wpList_wide rfl (.tmp 31) (.tmp 32) 110 110 rfl 48 Try.underlying110 4 1 (by kernel_rfl) w.heap.size 0 3 3 ⟨b, o, none⟩ 1 cap rfl rfl (rb u 3 0) 48 ?e1 (bn u 1) ?e2 ?e3 ?e4 ?e5 ?e6 w.heap.size w ?e7 ?e8 ?_)
  case e1 => exact heap_alloc_new w _
  case e2 => decide
  case e3 => rw [bn_length, HU.out]
  case e4 => exact HS.out _ (below_al (Below.refl _ _) _)
  case e5 => rw [bn_length, rb_length HU.out (by decide), HU.out]; decide
  case e6 => exact bn_mem H1C.out
  case e7 => exact below_al (Below.refl _ _) _
  case e8 => exact Nat.le_refl _
  intro w1 HG1 hB1
  have HG : Hid (w1.heap[w.heap.size]? = some (.cells (rb u 3 1).toArray 48 (0, 0))) := Lib.hid (Eq.mp (congrArg (fun l : List Value => w1.heap[w.heap.size]? = some (.cells l.toArray 48 (0, 0))) (show splice (rb u 3 0) 0 (bn u 1) = rb u 3 1 from rb_splice (N := 3) (n := 0) (m := 1) HU.out (by decide))) HG1.out)
  have HB1 := Lib.hid hB1
  clear HG1 hB1 hmk
  go_wp2_with fail
  go_loopw [8] (fun n wr => ∃ k : Nat, (k = 1 ∨ k = 2 ∨ k = 3) ∧ n = .int .i64 k ∧ Hid (wr.heap[w.heap.size]? = some (.cells (rb u 3 k).toArray 48 (0, 0))) ∧ Hid (Below w.heap.size w wr)) (fun n _ => 3 - (intOf n).toNat)
  case atStart => exact ⟨1, .inl rfl, rfl, HG, HB1⟩
  case round =>
    obtain ⟨k, hk, rfl, hG, hB⟩ := hrel
    clear HG HB1
    obtain ⟨wi, rfl⟩ : ∃ wi : World, wi = wr := ⟨_, rfl⟩
    obtain rfl | rfl | rfl := hk
    · have hwk : IntKind.i64.wrap 2 = 2 := rfl
      go_wp2_with fail
      go_region_law (refine step_wide rfl (.tmp 41) (.tmp 44) 110 110 rfl 48 Try.underlying110 4 1 (by kernel_rfl) w.heap.size 4 2 2 ⟨w.heap.size, 0, none⟩ 1 3 (by simp [Act.eval, Act.put]) (by simp [Act.eval, Act.put]) (rb u 3 1) 48 (by exact hG.out) (bn u 1) (by decide) (by rw [bn_length, HU.out]) (rb_cell (m := 1) hG.out (by decide)) (by rw [bn_length, rb_length HU.out (by decide), HU.out]; decide) (bn_mem H1C.out) w.heap.size w (by exact below_dr hB.out) (Nat.le_refl _) ?_; intro w4 hg4 hb4)
      have HG4 : Hid (w4.heap[w.heap.size]? = some (.cells (rb u 3 2).toArray 48 (0, 0))) := Lib.hid (Eq.mp (congrArg (fun l : List Value => w4.heap[w.heap.size]? = some (.cells l.toArray 48 (0, 0))) (show splice (rb u 3 1) 4 (bn u 1) = rb u 3 2 from rb_splice (N := 3) (n := 1) (m := 1) HU.out (by decide))) hg4.out)
      have HB4 := Lib.hid hb4
      clear hg4 hb4
      go_wp2_with fail
      go_simp
      all_goals (simp [intOf])
    · have hwk : IntKind.i64.wrap 3 = 3 := rfl
      go_wp2_with fail
      go_region_law (refine step_wide rfl (.tmp 41) (.tmp 44) 110 110 rfl 48 Try.underlying110 4 1 (by kernel_rfl) w.heap.size 8 1 1 ⟨w.heap.size, 0, none⟩ 2 3 (by simp [Act.eval, Act.put]) (by simp [Act.eval, Act.put]) (rb u 3 2) 48 (by exact hG.out) (bn u 1) (by decide) (by rw [bn_length, HU.out]) (rb_cell (m := 1) hG.out (by decide)) (by rw [bn_length, rb_length HU.out (by decide), HU.out]; decide) (bn_mem H1C.out) w.heap.size w (by exact below_dr hB.out) (Nat.le_refl _) ?_; intro w4 hg4 hb4)
      have HG4 : Hid (w4.heap[w.heap.size]? = some (.cells (rb u 3 3).toArray 48 (0, 0))) := Lib.hid (Eq.mp (congrArg (fun l : List Value => w4.heap[w.heap.size]? = some (.cells l.toArray 48 (0, 0))) (show splice (rb u 3 2) 8 (bn u 1) = rb u 3 3 from rb_splice (N := 3) (n := 2) (m := 1) HU.out (by decide))) hg4.out)
      have HB4 := Lib.hid hb4
      clear hg4 hb4
      go_wp2_with fail
      go_simp
      all_goals (simp [intOf])
    · go_wp2_with fail
      go_ret
      exact ⟨rfl, hG.out, hB.out⟩
theorem mul64_4 (w : World) : Calls Try.prog 155 #[.int .u64 1, .int .u64 4] w fun e w' => e = .returned (.tuple #[.int .u64 0, .int .u64 4]) ∧ w = w' := by
  have ha : bits .and .u64 1 4294967295 = 1 := by decide
  have hb : bits .and .u64 4 4294967295 = 4 := by decide
  have hc : bits .and .u64 0 4294967295 = 0 := by decide
  go_enter Try.func155, Try.ntmps155
  go_wp2
  refine bodyPost_ret (v := .tuple #[.int .u64 0, .int .u64 4]) (by simp [results, Try.results155, go_sem]; try decide) rfl ⟨rfl, rfl⟩
theorem mul_4 (w : World) : Calls Try.prog 131 #[.int .u64 1, .int .u64 4] w fun e w' => e = .returned (.tuple #[.int .u64 0, .int .u64 4]) ∧ w = w' := by
  go_enter Try.func131, Try.ntmps131
  go_wp2_with fail
  refine (mul64_4 _).mono ?_
  rintro e w' ⟨rfl, rfl⟩
  go_wp2_with fail
  refine bodyPost_ret (v := .tuple #[.int .u64 0, .int .u64 4]) (by simp [results, Try.results131, go_sem]) rfl ⟨rfl, rfl⟩
set_option maxHeartbeats 8000000 in
theorem repeat_4 (b o cap : Nat) (x y h : Int) (va : Option Addr) (vn vc : Nat) (w : World) (h0 : w.cell? ⟨b, o, none⟩ = some (.int .i64 x)) (h1 : w.cell? ⟨b, o + 1, none⟩ = some (.int .i64 y)) (h2 : w.cell? ⟨b, o + 2, none⟩ = some (.int .i64 h)) (h3 : w.cell? ⟨b, o + 3, none⟩ = some (.slice va vn vc)) :
    Calls Try.prog 93 #[.slice (some ⟨b, o, none⟩) 1 cap, .int .i64 4] w fun e w' => e = .returned (.slice (some ⟨w.heap.size, 0, none⟩) 4 4) ∧ w'.heap[w.heap.size]? = some (.cells (rb [.int .i64 x, .int .i64 y, .int .i64 h, .slice va vn vc] 4 4).toArray 48 (0, 0)) ∧ Below w.heap.size w w' := by
  obtain ⟨u, hu⟩ : ∃ u : List Value, u = [.int .i64 x, .int .i64 y, .int .i64 h, .slice va vn vc] := ⟨_, rfl⟩
  have hu4 : u.length = 4 := by rw [hu]; rfl
  have h1c : ∀ v ∈ u, v.oneCell' = true := by intro v hv; rw [hu] at hv; simp at hv; rcases hv with rfl | rfl | rfl | rfl <;> rfl
  have HS := Lib.hid (fun (W : World) (hb : Below w.heap.size w W) => u_cell (below_cell hb _ _ h0) (below_cell hb _ _ h1) (below_cell hb _ _ h2) (below_cell hb _ _ h3))
  rw [← hu] at HS ⊢
  have hmk : ∀ W : World, (Instr.makeSlice 110 (.int .i64 4) (.int .i64 4)).run Try.prog W = .ok (.slice (some ⟨W.heap.size, 0, none⟩) 4 4) (W.alloc (.cells (rb [] 4 0).toArray 48)) := fun W => by kernel_rfl
  have HU := Lib.hid hu4
  have H1C := Lib.hid h1c
  clear h0 h1 h2 h3 hu hu4 h1c
  go_enter Try.func93, Try.ntmps93
  go_wp2_with fail
  refine (mul_4 _).mono ?_
  rintro e w' ⟨rfl, rfl⟩
  go_wp2_with (with_reducible refine wpList_wide rfl (.tmp 31) (.tmp 32) 110 110 rfl 48 Try.underlying110 4 1 (by kernel_rfl) w.heap.size 0 4 4 ⟨b, o, none⟩ 1 cap rfl rfl (rb u 4 0) 48 ?e1 (bn u 1) ?e2 ?e3 ?e4 ?e5 ?e6 w.heap.size w ?e7 ?e8 ?_)
  case e1 => exact heap_alloc_new w _
  case e2 => decide
  case e3 => rw [bn_length, HU.out]
  case e4 => exact HS.out _ (below_al (Below.refl _ _) _)
  case e5 => rw [bn_length, rb_length HU.out (by decide), HU.out]; decide
  case e6 => exact bn_mem H1C.out
  case e7 => exact below_al (Below.refl _ _) _
  case e8 => exact Nat.le_refl _
  intro w1 HG1 hB1
  have HG : Hid (w1.heap[w.heap.size]? = some (.cells (rb u 4 1).toArray 48 (0, 0))) := Lib.hid (Eq.mp (congrArg (fun l : List Value => w1.heap[w.heap.size]? = some (.cells l.toArray 48 (0, 0))) (show splice (rb u 4 0) 0 (bn u 1) = rb u 4 1 from rb_splice (N := 4) (n := 0) (m := 1) HU.out (by decide))) HG1.out)
  have HB1 := Lib.hid hB1
  clear HG1 hB1 hmk
  go_wp2_with fail
  go_loopw [8] (fun n wr => ∃ k : Nat, (k = 1 ∨ k = 2 ∨ k = 4) ∧ n = .int .i64 k ∧ Hid (wr.heap[w.heap.size]? = some (.cells (rb u 4 k).toArray 48 (0, 0))) ∧ Hid (Below w.heap.size w wr)) (fun n _ => 4 - (intOf n).toNat)
  case atStart => exact ⟨1, .inl rfl, rfl, HG, HB1⟩
  case round =>
    obtain ⟨k, hk, rfl, hG, hB⟩ := hrel
    clear HG HB1
    obtain ⟨wi, rfl⟩ : ∃ wi : World, wi = wr := ⟨_, rfl⟩
    obtain rfl | rfl | rfl := hk
    · have hwk : IntKind.i64.wrap 2 = 2 := rfl
      go_wp2_with fail
      go_region_law (refine step_wide rfl (.tmp 41) (.tmp 44) 110 110 rfl 48 Try.underlying110 4 1 (by kernel_rfl) w.heap.size 4 3 3 ⟨w.heap.size, 0, none⟩ 1 4 (by simp [Act.eval, Act.put]) (by simp [Act.eval, Act.put]) (rb u 4 1) 48 (by exact hG.out) (bn u 1) (by decide) (by rw [bn_length, HU.out]) (rb_cell (m := 1) hG.out (by decide)) (by rw [bn_length, rb_length HU.out (by decide), HU.out]; decide) (bn_mem H1C.out) w.heap.size w (by exact below_dr hB.out) (Nat.le_refl _) ?_; intro w4 hg4 hb4)
      have HG4 : Hid (w4.heap[w.heap.size]? = some (.cells (rb u 4 2).toArray 48 (0, 0))) := Lib.hid (Eq.mp (congrArg (fun l : List Value => w4.heap[w.heap.size]? = some (.cells l.toArray 48 (0, 0))) (show splice (rb u 4 1) 4 (bn u 1) = rb u 4 2 from rb_splice (N := 4) (n := 1) (m := 1) HU.out (by decide))) hg4.out)
      have HB4 := Lib.hid hb4
      clear hg4 hb4
      go_wp2_with fail
      go_simp
      all_goals (simp [intOf])
    · have hwk : IntKind.i64.wrap 4 = 4 := rfl
      go_wp2_with fail
      go_region_law (refine step_wide rfl (.tmp 41) (.tmp 44) 110 110 rfl 48 Try.underlying110 4 2 (by kernel_rfl) w.heap.size 8 2 2 ⟨w.heap.size, 0, none⟩ 2 4 (by simp [Act.eval, Act.put]) (by simp [Act.eval, Act.put]) (rb u 4 2) 48 (by exact hG.out) (bn u 2) (by decide) (by rw [bn_length, HU.out]) (rb_cell (m := 2) hG.out (by decide)) (by rw [bn_length, rb_length HU.out (by decide), HU.out]; decide) (bn_mem H1C.out) w.heap.size w (by exact below_dr hB.out) (Nat.le_refl _) ?_; intro w4 hg4 hb4)
      have HG4 : Hid (w4.heap[w.heap.size]? = some (.cells (rb u 4 4).toArray 48 (0, 0))) := Lib.hid (Eq.mp (congrArg (fun l : List Value => w4.heap[w.heap.size]? = some (.cells l.toArray 48 (0, 0))) (show splice (rb u 4 2) 8 (bn u 2) = rb u 4 4 from rb_splice (N := 4) (n := 2) (m := 2) HU.out (by decide))) hg4.out)
      have HB4 := Lib.hid hb4
      clear hg4 hb4
      go_wp2_with fail
      go_simp
      all_goals (simp [intOf])
    · go_wp2_with fail
      go_ret
      exact ⟨rfl, hG.out, hB.out⟩
theorem mul64_5 (w : World) : Calls Try.prog 155 #[.int .u64 1, .int .u64 5] w fun e w' => e = .returned (.tuple #[.int .u64 0, .int .u64 5]) ∧ w = w' := by
  have ha : bits .and .u64 1 4294967295 = 1 := by decide
  have hb : bits .and .u64 5 4294967295 = 5 := by decide
  have hc : bits .and .u64 0 4294967295 = 0 := by decide
  go_enter Try.func155, Try.ntmps155
  go_wp2
  refine bodyPost_ret (v := .tuple #[.int .u64 0, .int .u64 5]) (by simp [results, Try.results155, go_sem]; try decide) rfl ⟨rfl, rfl⟩
theorem mul_5 (w : World) : Calls Try.prog 131 #[.int .u64 1, .int .u64 5] w fun e w' => e = .returned (.tuple #[.int .u64 0, .int .u64 5]) ∧ w = w' := by
  go_enter Try.func131, Try.ntmps131
  go_wp2_with fail
  refine (mul64_5 _).mono ?_
  rintro e w' ⟨rfl, rfl⟩
  go_wp2_with fail
  refine bodyPost_ret (v := .tuple #[.int .u64 0, .int .u64 5]) (by simp [results, Try.results131, go_sem]) rfl ⟨rfl, rfl⟩
set_option maxHeartbeats 8000000 in
theorem repeat_5 (b o cap : Nat) (x y h : Int) (va : Option Addr) (vn vc : Nat) (w : World) (h0 : w.cell? ⟨b, o, none⟩ = some (.int .i64 x)) (h1 : w.cell? ⟨b, o + 1, none⟩ = some (.int .i64 y)) (h2 : w.cell? ⟨b, o + 2, none⟩ = some (.int .i64 h)) (h3 : w.cell? ⟨b, o + 3, none⟩ = some (.slice va vn vc)) :
    Calls Try.prog 93 #[.slice (some ⟨b, o, none⟩) 1 cap, .int .i64 5] w fun e w' => e = .returned (.slice (some ⟨w.heap.size, 0, none⟩) 5 5) ∧ w'.heap[w.heap.size]? = some (.cells (rb [.int .i64 x, .int .i64 y, .int .i64 h, .slice va vn vc] 5 5).toArray 48 (0, 0)) ∧ Below w.heap.size w w' := by
  obtain ⟨u, hu⟩ : ∃ u : List Value, u = [.int .i64 x, .int .i64 y, .int .i64 h, .slice va vn vc] := ⟨_, rfl⟩
  have hu4 : u.length = 4 := by rw [hu]; rfl
  have h1c : ∀ v ∈ u, v.oneCell' = true := by intro v hv; rw [hu] at hv; simp at hv; rcases hv with rfl | rfl | rfl | rfl <;> rfl
  have HS := Lib.hid (fun (W : World) (hb : Below w.heap.size w W) => u_cell (below_cell hb _ _ h0) (below_cell hb _ _ h1) (below_cell hb _ _ h2) (below_cell hb _ _ h3))
  rw [← hu] at HS ⊢
  have hmk : ∀ W : World, (Instr.makeSlice 110 (.int .i64 5) (.int .i64 5)).run Try.prog W = .ok (.slice (some ⟨W.heap.size, 0, none⟩) 5 5) (W.alloc (.cells (rb [] 5 0).toArray 48)) := fun W => by kernel_rfl
  have HU := Lib.hid hu4
  have H1C := Lib.hid h1c
  clear h0 h1 h2 h3 hu hu4 h1c
  go_enter Try.func93, Try.ntmps93
  go_wp2_with fail
  refine (mul_5 _).mono ?_
  rintro e w' ⟨rfl, rfl⟩
  go_wp2_with (with_reducible refine wpList_wide rfl (.tmp 31) (.tmp 32) 110 110 rfl 48 Try.underlying110 4 1 (by kernel_rfl) w.heap.size 0 5 5 ⟨b, o, none⟩ 1 cap rfl rfl (rb u 5 0) 48 ?e1 (bn u 1) ?e2 ?e3 ?e4 ?e5 ?e6 w.heap.size w ?e7 ?e8 ?_)
  case e1 => exact heap_alloc_new w _
  case e2 => decide
  case e3 => rw [bn_length, HU.out]
  case e4 => exact HS.out _ (below_al (Below.refl _ _) _)
  case e5 => rw [bn_length, rb_length HU.out (by decide), HU.out]; decide
  case e6 => exact bn_mem H1C.out
  case e7 => exact below_al (Below.refl _ _) _
  case e8 => exact Nat.le_refl _
  intro w1 HG1 hB1
  have HG : Hid (w1.heap[w.heap.size]? = some (.cells (rb u 5 1).toArray 48 (0, 0))) := Lib.hid (Eq.mp (congrArg (fun l : List Value => w1.heap[w.heap.size]? = some (.cells l.toArray 48 (0, 0))) (show splice (rb u 5 0) 0 (bn u 1) = rb u 5 1 from rb_splice (N := 5) (n := 0) (m := 1) HU.out (by decide))) HG1.out)
  have HB1 := Lib.hid hB1
  clear HG1 hB1 hmk
  go_wp2_with fail
  go_loopw [8] (fun n wr => ∃ k : Nat, (k = 1 ∨ k = 2 ∨ k = 4 ∨ k = 5) ∧ n = .int .i64 k ∧ Hid (wr.heap[w.heap.size]? = some (.cells (rb u 5 k).toArray 48 (0, 0))) ∧ Hid (Below w.heap.size w wr)) (fun n _ => 5 - (intOf n).toNat)
  case atStart => exact ⟨1, .inl rfl, rfl, HG, HB1⟩
  case round =>
    obtain ⟨k, hk, rfl, hG, hB⟩ := hrel
    clear HG HB1
    obtain ⟨wi, rfl⟩ : ∃ wi : World, wi = wr := ⟨_, rfl⟩
    obtain rfl | rfl | rfl | rfl := hk
    · have hwk : IntKind.i64.wrap 2 = 2 := rfl
      go_wp2_with fail
      go_region_law (refine step_wide rfl (.tmp 41) (.tmp 44) 110 110 rfl 48 Try.underlying110 4 1 (by kernel_rfl) w.heap.size 4 4 4 ⟨w.heap.size, 0, none⟩ 1 5 (by simp [Act.eval, Act.put]) (by simp [Act.eval, Act.put]) (rb u 5 1) 48 (by exact hG.out) (bn u 1) (by decide) (by rw [bn_length, HU.out]) (rb_cell (m := 1) hG.out (by decide)) (by rw [bn_length, rb_length HU.out (by decide), HU.out]; decide) (bn_mem H1C.out) w.heap.size w (by exact below_dr hB.out) (Nat.le_refl _) ?_; intro w4 hg4 hb4)
      have HG4 : Hid (w4.heap[w.heap.size]? = some (.cells (rb u 5 2).toArray 48 (0, 0))) := Lib.hid (Eq.mp (congrArg (fun l : List Value => w4.heap[w.heap.size]? = some (.cells l.toArray 48 (0, 0))) (show splice (rb u 5 1) 4 (bn u 1) = rb u 5 2 from rb_splice (N := 5) (n := 1) (m := 1) HU.out (by decide))) hg4.out)
      have HB4 := Lib.hid hb4
      clear hg4 hb4
      go_wp2_with fail
      go_simp
      all_goals (simp [intOf])
    · have hwk : IntKind.i64.wrap 4 = 4 := rfl
      go_wp2_with fail
      go_region_law (refine step_wide rfl (.tmp 41) (.tmp 44) 110 110 rfl 48 Try.underlying110 4 2 (by kernel_rfl) w.heap.size 8 3 3 ⟨w.heap.size, 0, none⟩ 2 5 (by simp [Act.eval, Act.put]) (by simp [Act.eval, Act.put]) (rb u 5 2) 48 (by exact hG.out) (bn u 2) (by decide) (by rw [bn_length, HU.out]) (rb_cell (m := 2) hG.out (by decide)) (by rw [bn_length, rb_length HU.out (by decide), HU.out]; decide) (bn_mem H1C.out) w.heap.size w (by exact below_dr hB.out) (Nat.le_refl _) ?_; intro w4 hg4 hb4)
      have HG4 : Hid (w4.heap[w.heap.size]? = some (.cells (rb u 5 4).toArray 48 (0, 0))) := Lib.hid (Eq.mp (congrArg (fun l : List Value => w4.heap[w.heap.size]? = some (.cells l.toArray 48 (0, 0))) (show splice (rb u 5 2) 8 (bn u 2) = rb u 5 4 from rb_splice (N := 5) (n := 2) (m := 2) HU.out (by decide))) hg4.out)
      have HB4 := Lib.hid hb4
      clear hg4 hb4
      go_wp2_with fail
      go_simp
      all_goals (simp [intOf])
    · have hwk : IntKind.i64.wrap 5 = 5 := rfl
      go_wp2_with fail
      go_region_law (refine step_wide rfl (.tmp 41) (.tmp 44) 110 110 rfl 48 Try.underlying110 4 1 (by kernel_rfl) w.heap.size 16 1 1 ⟨w.heap.size, 0, none⟩ 4 5 (by simp [Act.eval, Act.put]) (by simp [Act.eval, Act.put]) (rb u 5 4) 48 (by exact hG.out) (bn u 1) (by decide) (by rw [bn_length, HU.out]) (rb_cell (m := 1) hG.out (by decide)) (by rw [bn_length, rb_length HU.out (by decide), HU.out]; decide) (bn_mem H1C.out) w.heap.size w (by exact below_dr hB.out) (Nat.le_refl _) ?_; intro w4 hg4 hb4)
      have HG4 : Hid (w4.heap[w.heap.size]? = some (.cells (rb u 5 5).toArray 48 (0, 0))) := Lib.hid (Eq.mp (congrArg (fun l : List Value => w4.heap[w.heap.size]? = some (.cells l.toArray 48 (0, 0))) (show splice (rb u 5 4) 16 (bn u 1) = rb u 5 5 from rb_splice (N := 5) (n := 4) (m := 1) HU.out (by decide))) hg4.out)
      have HB4 := Lib.hid hb4
      clear hg4 hb4
      go_wp2_with fail
      go_simp
      all_goals (simp [intOf])
    · go_wp2_with fail
      go_ret
      exact ⟨rfl, hG.out, hB.out⟩
theorem mul64_6 (w : World) : Calls Try.prog 155 #[.int .u64 1, .int .u64 6] w fun e w' => e = .returned (.tuple #[.int .u64 0, .int .u64 6]) ∧ w = w' := by
  have ha : bits .and .u64 1 4294967295 = 1 := by decide
  have hb : bits .and .u64 6 4294967295 = 6 := by decide
  have hc : bits .and .u64 0 4294967295 = 0 := by decide
  go_enter Try.func155, Try.ntmps155
  go_wp2
  refine bodyPost_ret (v := .tuple #[.int .u64 0, .int .u64 6]) (by simp [results, Try.results155, go_sem]; try decide) rfl ⟨rfl, rfl⟩
theorem mul_6 (w : World) : Calls Try.prog 131 #[.int .u64 1, .int .u64 6] w fun e w' => e = .returned (.tuple #[.int .u64 0, .int .u64 6]) ∧ w = w' := by
  go_enter Try.func131, Try.ntmps131
  go_wp2_with fail
  refine (mul64_6 _).mono ?_
  rintro e w' ⟨rfl, rfl⟩
  go_wp2_with fail
  refine bodyPost_ret (v := .tuple #[.int .u64 0, .int .u64 6]) (by simp [results, Try.results131, go_sem]) rfl ⟨rfl, rfl⟩
set_option maxHeartbeats 8000000 in
theorem repeat_6 (b o cap : Nat) (x y h : Int) (va : Option Addr) (vn vc : Nat) (w : World) (h0 : w.cell? ⟨b, o, none⟩ = some (.int .i64 x)) (h1 : w.cell? ⟨b, o + 1, none⟩ = some (.int .i64 y)) (h2 : w.cell? ⟨b, o + 2, none⟩ = some (.int .i64 h)) (h3 : w.cell? ⟨b, o + 3, none⟩ = some (.slice va vn vc)) :
    Calls Try.prog 93 #[.slice (some ⟨b, o, none⟩) 1 cap, .int .i64 6] w fun e w' => e = .returned (.slice (some ⟨w.heap.size, 0, none⟩) 6 6) ∧ w'.heap[w.heap.size]? = some (.cells (rb [.int .i64 x, .int .i64 y, .int .i64 h, .slice va vn vc] 6 6).toArray 48 (0, 0)) ∧ Below w.heap.size w w' := by
  obtain ⟨u, hu⟩ : ∃ u : List Value, u = [.int .i64 x, .int .i64 y, .int .i64 h, .slice va vn vc] := ⟨_, rfl⟩
  have hu4 : u.length = 4 := by rw [hu]; rfl
  have h1c : ∀ v ∈ u, v.oneCell' = true := by intro v hv; rw [hu] at hv; simp at hv; rcases hv with rfl | rfl | rfl | rfl <;> rfl
  have HS := Lib.hid (fun (W : World) (hb : Below w.heap.size w W) => u_cell (below_cell hb _ _ h0) (below_cell hb _ _ h1) (below_cell hb _ _ h2) (below_cell hb _ _ h3))
  rw [← hu] at HS ⊢
  have hmk : ∀ W : World, (Instr.makeSlice 110 (.int .i64 6) (.int .i64 6)).run Try.prog W = .ok (.slice (some ⟨W.heap.size, 0, none⟩) 6 6) (W.alloc (.cells (rb [] 6 0).toArray 48)) := fun W => by kernel_rfl
  have HU := Lib.hid hu4
  have H1C := Lib.hid h1c
  clear h0 h1 h2 h3 hu hu4 h1c
  go_enter Try.func93, Try.ntmps93
  go_wp2_with fail
  refine (mul_6 _).mono ?_
  rintro e w' ⟨rfl, rfl⟩
  go_wp2_with (with_reducible refine wpList_wide rfl (.tmp 31) (.tmp 32) 110 110 rfl 48 Try.underlying110 4 1 (by kernel_rfl) w.heap.size 0 6 6 ⟨b, o, none⟩ 1 cap rfl rfl (rb u 6 0) 48 ?e1 (bn u 1) ?e2 ?e3 ?e4 ?e5 ?e6 w.heap.size w ?e7 ?e8 ?_)
  case e1 => exact heap_alloc_new w _
  case e2 => decide
  case e3 => rw [bn_length, HU.out]
  case e4 => exact HS.out _ (below_al (Below.refl _ _) _)
  case e5 => rw [bn_length, rb_length HU.out (by decide), HU.out]; decide
  case e6 => exact bn_mem H1C.out
  case e7 => exact below_al (Below.refl _ _) _
  case e8 => exact Nat.le_refl _
  intro w1 HG1 hB1
  have HG : Hid (w1.heap[w.heap.size]? = some (.cells (rb u 6 1).toArray 48 (0, 0))) := Lib.hid (Eq.mp (congrArg (fun l : List Value => w1.heap[w.heap.size]? = some (.cells l.toArray 48 (0, 0))) (show splice (rb u 6 0) 0 (bn u 1) = rb u 6 1 from rb_splice (N := 6) (n := 0) (m := 1) HU.out (by decide))) HG1.out)
  have HB1 := Lib.hid hB1
  clear HG1 hB1 hmk
  go_wp2_with fail
  go_loopw [8] (fun n wr => ∃ k : Nat, (k = 1 ∨ k = 2 ∨ k = 4 ∨ k = 6) ∧ n = .int .i64 k ∧ Hid (wr.heap[w.heap.size]? = some (.cells (rb u 6 k).toArray 48 (0, 0))) ∧ Hid (Below w.heap.size w wr)) (fun n _ => 6 - (intOf n).toNat)
  case atStart => exact ⟨1, .inl rfl, rfl, HG, HB1⟩
  case round =>
    obtain ⟨k, hk, rfl, hG, hB⟩ := hrel
    clear HG HB1
    obtain ⟨wi, rfl⟩ : ∃ wi : World, wi = wr := ⟨_, rfl⟩
    obtain rfl | rfl | rfl | rfl := hk
    · have hwk : IntKind.i64.wrap 2 = 2 := rfl
      go_wp2_with fail
      go_region_law (refine step_wide rfl (.tmp 41) (.tmp 44) 110 110 rfl 48 Try.underlying110 4 1 (by kernel_rfl) w.heap.size 4 5 5 ⟨w.heap.size, 0, none⟩ 1 6 (by simp [Act.eval, Act.put]) (by simp [Act.eval, Act.put]) (rb u 6 1) 48 (by exact hG.out) (bn u 1) (by decide) (by rw [bn_length, HU.out]) (rb_cell (m := 1) hG.out (by decide)) (by rw [bn_length, rb_length HU.out (by decide), HU.out]; decide) (bn_mem H1C.out) w.heap.size w (by exact below_dr hB.out) (Nat.le_refl _) ?_; intro w4 hg4 hb4)
      have HG4 : Hid (w4.heap[w.heap.size]? = some (.cells (rb u 6 2).toArray 48 (0, 0))) := Lib.hid (Eq.mp (congrArg (fun l : List Value => w4.heap[w.heap.size]? = some (.cells l.toArray 48 (0, 0))) (show splice (rb u 6 1) 4 (bn u 1) = rb u 6 2 from rb_splice (N := 6) (n := 1) (m := 1) HU.out (by decide))) hg4.out)
      have HB4 := Lib.hid hb4
      clear hg4 hb4
      go_wp2_with fail
      go_simp
      all_goals (simp [intOf])
    · have hwk : IntKind.i64.wrap 4 = 4 := rfl
      go_wp2_with fail
      go_region_law (refine step_wide rfl (.tmp 41) (.tmp 44) 110 110 rfl 48 Try.underlying110 4 2 (by kernel_rfl) w.heap.size 8 4 4 ⟨w.heap.size, 0, none⟩ 2 6 (by simp [Act.eval, Act.put]) (by simp [Act.eval, Act.put]) (rb u 6 2) 48 (by exact hG.out) (bn u 2) (by decide) (by rw [bn_length, HU.out]) (rb_cell (m := 2) hG.out (by decide)) (by rw [bn_length, rb_length HU.out (by decide), HU.out]; decide) (bn_mem H1C.out) w.heap.size w (by exact below_dr hB.out) (Nat.le_refl _) ?_; intro w4 hg4 hb4)
      have HG4 : Hid (w4.heap[w.heap.size]? = some (.cells (rb u 6 4).toArray 48 (0, 0))) := Lib.hid (Eq.mp (congrArg (fun l : List Value => w4.heap[w.heap.size]? = some (.cells l.toArray 48 (0, 0))) (show splice (rb u 6 2) 8 (bn u 2) = rb u 6 4 from rb_splice (N := 6) (n := 2) (m := 2) HU.out (by decide))) hg4.out)
      have HB4 := Lib.hid hb4
      clear hg4 hb4
      go_wp2_with fail
      go_simp
      all_goals (simp [intOf])
    · have hwk : IntKind.i64.wrap 6 = 6 := rfl
      go_wp2_with fail
      go_region_law (refine step_wide rfl (.tmp 41) (.tmp 44) 110 110 rfl 48 Try.underlying110 4 2 (by kernel_rfl) w.heap.size 16 2 2 ⟨w.heap.size, 0, none⟩ 4 6 (by simp [Act.eval, Act.put]) (by simp [Act.eval, Act.put]) (rb u 6 4) 48 (by exact hG.out) (bn u 2) (by decide) (by rw [bn_length, HU.out]) (rb_cell (m := 2) hG.out (by decide)) (by rw [bn_length, rb_length HU.out (by decide), HU.out]; decide) (bn_mem H1C.out) w.heap.size w (by exact below_dr hB.out) (Nat.le_refl _) ?_; intro w4 hg4 hb4)
      have HG4 : Hid (w4.heap[w.heap.size]? = some (.cells (rb u 6 6).toArray 48 (0, 0))) := Lib.hid (Eq.mp (congrArg (fun l : List Value => w4.heap[w.heap.size]? = some (.cells l.toArray 48 (0, 0))) (show splice (rb u 6 4) 16 (bn u 2) = rb u 6 6 from rb_splice (N := 6) (n := 4) (m := 2) HU.out (by decide))) hg4.out)
      have HB4 := Lib.hid hb4
      clear hg4 hb4
      go_wp2_with fail
      go_simp
      all_goals (simp [intOf])
    · go_wp2_with fail
      go_ret
      exact ⟨rfl, hG.out, hB.out⟩
theorem mul64_7 (w : World) : Calls Try.prog 155 #[.int .u64 1, .int .u64 7] w fun e w' => e = .returned (.tuple #[.int .u64 0, .int .u64 7]) ∧ w = w' := by
  have ha : bits .and .u64 1 4294967295 = 1 := by decide
  have hb : bits .and .u64 7 4294967295 = 7 := by decide
  have hc : bits .and .u64 0 4294967295 = 0 := by decide
  go_enter Try.func155, Try.ntmps155
  go_wp2
  refine bodyPost_ret (v := .tuple #[.int .u64 0, .int .u64 7]) (by simp [results, Try.results155, go_sem]; try decide) rfl ⟨rfl, rfl⟩
theorem mul_7 (w : World) : Calls Try.prog 131 #[.int .u64 1, .int .u64 7] w fun e w' => e = .returned (.tuple #[.int .u64 0, .int .u64 7]) ∧ w = w' := by
  go_enter Try.func131, Try.ntmps131
  go_wp2_with fail
  refine (mul64_7 _).mono ?_
  rintro e w' ⟨rfl, rfl⟩
  go_wp2_with fail
  refine bodyPost_ret (v := .tuple #[.int .u64 0, .int .u64 7]) (by simp [results, Try.results131, go_sem]) rfl ⟨rfl, rfl⟩
set_option maxHeartbeats 8000000 in
theorem repeat_7 (b o cap : Nat) (x y h : Int) (va : Option Addr) (vn vc : Nat) (w : World) (h0 : w.cell? ⟨b, o, none⟩ = some (.int .i64 x)) (h1 : w.cell? ⟨b, o + 1, none⟩ = some (.int .i64 y)) (h2 : w.cell? ⟨b, o + 2, none⟩ = some (.int .i64 h)) (h3 : w.cell? ⟨b, o + 3, none⟩ = some (.slice va vn vc)) :
    Calls Try.prog 93 #[.slice (some ⟨b, o, none⟩) 1 cap, .int .i64 7] w fun e w' => e = .returned (.slice (some ⟨w.heap.size, 0, none⟩) 7 7) ∧ w'.heap[w.heap.size]? = some (.cells (rb [.int .i64 x, .int .i64 y, .int .i64 h, .slice va vn vc] 7 7).toArray 48 (0, 0)) ∧ Below w.heap.size w w' := by
  obtain ⟨u, hu⟩ : ∃ u : List Value, u = [.int .i64 x, .int .i64 y, .int .i64 h, .slice va vn vc] := ⟨_, rfl⟩
  have hu4 : u.length = 4 := by rw [hu]; rfl
  have h1c : ∀ v ∈ u, v.oneCell' = true := by intro v hv; rw [hu] at hv; simp at hv; rcases hv with rfl | rfl | rfl | rfl <;> rfl
  have HS := Lib.hid (fun (W : World) (hb : Below w.heap.size w W) => u_cell (below_cell hb _ _ h0) (below_cell hb _ _ h1) (below_cell hb _ _ h2) (below_cell hb _ _ h3))
  rw [← hu] at HS ⊢
  have hmk : ∀ W : World, (Instr.makeSlice 110 (.int .i64 7) (.int .i64 7)).run Try.prog W = .ok (.slice (some ⟨W.heap.size, 0, none⟩) 7 7) (W.alloc (.cells (rb [] 7 0).toArray 48)) := fun W => by kernel_rfl
  have HU := Lib.hid hu4
  have H1C := Lib.hid h1c
  clear h0 h1 h2 h3 hu hu4 h1c
  go_enter Try.func93, Try.ntmps93
  go_wp2_with fail
  refine (mul_7 _).mono ?_
  rintro e w' ⟨rfl, rfl⟩
  go_wp2_with (with_reducible refine wpList_wide rfl (.tmp 31) (.tmp 32) 110 110 rfl 48 Try.underlying110 4 1 (by kernel_rfl) w.heap.size 0 7 7 ⟨b, o, none⟩ 1 cap rfl rfl (rb u 7 0) 48 ?e1 (bn u 1) ?e2 ?e3 ?e4 ?e5 ?e6 w.heap.size w ?e7 ?e8 ?_)
  case e1 => exact heap_alloc_new w _
  case e2 => decide
  case e3 => rw [bn_length, HU.out]
  case e4 => exact HS.out _ (below_al (Below.refl _ _) _)
  case e5 => rw [bn_length, rb_length HU.out (by decide), HU.out]; decide
  case e6 => exact bn_mem H1C.out
  case e7 => exact below_al (Below.refl _ _) _
  case e8 => exact Nat.le_refl _
  intro w1 HG1 hB1
  have HG : Hid (w1.heap[w.heap.size]? = some (.cells (rb u 7 1).toArray 48 (0, 0))) := Lib.hid (Eq.mp (congrArg (fun l : List Value => w1.heap[w.heap.size]? = some (.cells l.toArray 48 (0, 0))) (show splice (rb u 7 0) 0 (bn u 1) = rb u 7 1 from rb_splice (N := 7) (n := 0) (m := 1) HU.out (by decide))) HG1.out)
  have HB1 := Lib.hid hB1
  clear HG1 hB1 hmk
  go_wp2_with fail
  go_loopw [8] (fun n wr => ∃ k : Nat, (k = 1 ∨ k = 2 ∨ k = 4 ∨ k = 7) ∧ n = .int .i64 k ∧ Hid (wr.heap[w.heap.size]? = some (.cells (rb u 7 k).toArray 48 (0, 0))) ∧ Hid (Below w.heap.size w wr)) (fun n _ => 7 - (intOf n).toNat)
  case atStart => exact ⟨1, .inl rfl, rfl, HG, HB1⟩
  case round =>
    obtain ⟨k, hk, rfl, hG, hB⟩ := hrel
    clear HG HB1
    obtain ⟨wi, rfl⟩ : ∃ wi : World, wi = wr := ⟨_, rfl⟩
    obtain rfl | rfl | rfl | rfl := hk
    · have hwk : IntKind.i64.wrap 2 = 2 := rfl
      go_wp2_with fail
      go_region_law (refine step_wide rfl (.tmp 41) (.tmp 44) 110 110 rfl 48 Try.underlying110 4 1 (by kernel_rfl) w.heap.size 4 6 6 ⟨w.heap.size, 0, none⟩ 1 7 (by simp [Act.eval, Act.put]) (by simp [Act.eval, Act.put]) (rb u 7 1) 48 (by exact hG.out) (bn u 1) (by decide) (by rw [bn_length, HU.out]) (rb_cell (m := 1) hG.out (by decide)) (by rw [bn_length, rb_length HU.out (by decide), HU.out]; decide) (bn_mem H1C.out) w.heap.size w (by exact below_dr hB.out) (Nat.le_refl _) ?_; intro w4 hg4 hb4)
      have HG4 : Hid (w4.heap[w.heap.size]? = some (.cells (rb u 7 2).toArray 48 (0, 0))) := Lib.hid (Eq.mp (congrArg (fun l : List Value => w4.heap[w.heap.size]? = some (.cells l.toArray 48 (0, 0))) (show splice (rb u 7 1) 4 (bn u 1) = rb u 7 2 from rb_splice (N := 7) (n := 1) (m := 1) HU.out (by decide))) hg4.out)
      have HB4 := Lib.hid hb4
      clear hg4 hb4
      go_wp2_with fail
      go_simp
      all_goals (simp [intOf])
    · have hwk : IntKind.i64.wrap 4 = 4 := rfl
      go_wp2_with fail
      go_region_law (refine step_wide rfl (.tmp 41) (.tmp 44) 110 110 rfl 48 Try.underlying110 4 2 (by kernel_rfl) w.heap.size 8 5 5 ⟨w.heap.size, 0, none⟩ 2 7 (by simp [Act.eval, Act.put]) (by simp [Act.eval, Act.put]) (rb u 7 2) 48 (by exact hG.out) (bn u 2) (by decide) (by rw [bn_length, HU.out]) (rb_cell (m := 2) hG.out (by decide)) (by rw [bn_length, rb_length HU.out (by decide), HU.out]; decide) (bn_mem H1C.out) w.heap.size w (by exact below_dr hB.out) (Nat.le_refl _) ?_; intro w4 hg4 hb4)
      have HG4 : Hid (w4.heap[w.heap.size]? = some (.cells (rb u 7 4).toArray 48 (0, 0))) := Lib.hid (Eq.mp (congrArg (fun l : List Value => w4.heap[w.heap.size]? = some (.cells l.toArray 48 (0, 0))) (show splice (rb u 7 2) 8 (bn u 2) = rb u 7 4 from rb_splice (N := 7) (n := 2) (m := 2) HU.out (by decide))) hg4.out)
      have HB4 := Lib.hid hb4
      clear hg4 hb4
      go_wp2_with fail
      go_simp
      all_goals (simp [intOf])
    · have hwk : IntKind.i64.wrap 7 = 7 := rfl
      go_wp2_with fail
      go_region_law (refine step_wide rfl (.tmp 41) (.tmp 44) 110 110 rfl 48 Try.underlying110 4 3 (by kernel_rfl) w.heap.size 16 3 3 ⟨w.heap.size, 0, none⟩ 4 7 (by simp [Act.eval, Act.put]) (by simp [Act.eval, Act.put]) (rb u 7 4) 48 (by exact hG.out) (bn u 3) (by decide) (by rw [bn_length, HU.out]) (rb_cell (m := 3) hG.out (by decide)) (by rw [bn_length, rb_length HU.out (by decide), HU.out]; decide) (bn_mem H1C.out) w.heap.size w (by exact below_dr hB.out) (Nat.le_refl _) ?_; intro w4 hg4 hb4)
      have HG4 : Hid (w4.heap[w.heap.size]? = some (.cells (rb u 7 7).toArray 48 (0, 0))) := Lib.hid (Eq.mp (congrArg (fun l : List Value => w4.heap[w.heap.size]? = some (.cells l.toArray 48 (0, 0))) (show splice (rb u 7 4) 16 (bn u 3) = rb u 7 7 from rb_splice (N := 7) (n := 4) (m := 3) HU.out (by decide))) hg4.out)
      have HB4 := Lib.hid hb4
      clear hg4 hb4
      go_wp2_with fail
      go_simp
      all_goals (simp [intOf])
    · go_wp2_with fail
      go_ret
      exact ⟨rfl, hG.out, hB.out⟩
theorem mul64_8 (w : World) : Calls Try.prog 155 #[.int .u64 1, .int .u64 8] w fun e w' => e = .returned (.tuple #[.int .u64 0, .int .u64 8]) ∧ w = w' := by
  have ha : bits .and .u64 1 4294967295 = 1 := by decide
  have hb : bits .and .u64 8 4294967295 = 8 := by decide
  have hc : bits .and .u64 0 4294967295 = 0 := by decide
  go_enter Try.func155, Try.ntmps155
  go_wp2
  refine bodyPost_ret (v := .tuple #[.int .u64 0, .int .u64 8]) (by simp [results, Try.results155, go_sem]; try decide) rfl ⟨rfl, rfl⟩
theorem mul_8 (w : World) : Calls Try.prog 131 #[.int .u64 1, .int .u64 8] w fun e w' => e = .returned (.tuple #[.int .u64 0, .int .u64 8]) ∧ w = w' := by
  go_enter Try.func131, Try.ntmps131
  go_wp2_with fail
  refine (mul64_8 _).mono ?_
  rintro e w' ⟨rfl, rfl⟩
  go_wp2_with fail
  refine bodyPost_ret (v := .tuple #[.int .u64 0, .int .u64 8]) (by simp [results, Try.results131, go_sem]) rfl ⟨rfl, rfl⟩
set_option maxHeartbeats 8000000 in
theorem repeat_8 (b o cap : Nat) (x y h : Int) (va : Option Addr) (vn vc : Nat) (w : World) (h0 : w.cell? ⟨b, o, none⟩ = some (.int .i64 x)) (h1 : w.cell? ⟨b, o + 1, none⟩ = some (.int .i64 y)) (h2 : w.cell? ⟨b, o + 2, none⟩ = some (.int .i64 h)) (h3 : w.cell? ⟨b, o + 3, none⟩ = some (.slice va vn vc)) :
    Calls Try.prog 93 #[.slice (some ⟨b, o, none⟩) 1 cap, .int .i64 8] w fun e w' => e = .returned (.slice (some ⟨w.heap.size, 0, none⟩) 8 8) ∧ w'.heap[w.heap.size]? = some (.cells (rb [.int .i64 x, .int .i64 y, .int .i64 h, .slice va vn vc] 8 8).toArray 48 (0, 0)) ∧ Below w.heap.size w w' := by
  obtain ⟨u, hu⟩ : ∃ u : List Value, u = [.int .i64 x, .int .i64 y, .int .i64 h, .slice va vn vc] := ⟨_, rfl⟩
  have hu4 : u.length = 4 := by rw [hu]; rfl
  have h1c : ∀ v ∈ u, v.oneCell' = true := by intro v hv; rw [hu] at hv; simp at hv; rcases hv with rfl | rfl | rfl | rfl <;> rfl
  have HS := Lib.hid (fun (W : World) (hb : Below w.heap.size w W) => u_cell (below_cell hb _ _ h0) (below_cell hb _ _ h1) (below_cell hb _ _ h2) (below_cell hb _ _ h3))
  rw [← hu] at HS ⊢
  have hmk : ∀ W : World, (Instr.makeSlice 110 (.int .i64 8) (.int .i64 8)).run Try.prog W = .ok (.slice (some ⟨W.heap.size, 0, none⟩) 8 8) (W.alloc (.cells (rb [] 8 0).toArray 48)) := fun W => by kernel_rfl
  have HU := Lib.hid hu4
  have H1C := Lib.hid h1c
  clear h0 h1 h2 h3 hu hu4 h1c
  go_enter Try.func93, Try.ntmps93
  go_wp2_with fail
  refine (mul_8 _).mono ?_
  rintro e w' ⟨rfl, rfl⟩
  go_wp2_with (with_reducible refine wpList_wide rfl (.tmp 31) (.tmp 32) 110 110 rfl 48 Try.underlying110 4 1 (by kernel_rfl) w.heap.size 0 8 8 ⟨b, o, none⟩ 1 cap rfl rfl (rb u 8 0) 48 ?e1 (bn u 1) ?e2 ?e3 ?e4 ?e5 ?e6 w.heap.size w ?e7 ?e8 ?_)
  case e1 => exact heap_alloc_new w _
  case e2 => decide
  case e3 => rw [bn_length, HU.out]
  case e4 => exact HS.out _ (below_al (Below.refl _ _) _)
  case e5 => rw [bn_length, rb_length HU.out (by decide), HU.out]; decide
  case e6 => exact bn_mem H1C.out
  case e7 => exact below_al (Below.refl _ _) _
  case e8 => exact Nat.le_refl _
  intro w1 HG1 hB1
  have HG : Hid (w1.heap[w.heap.size]? = some (.cells (rb u 8 1).toArray 48 (0, 0))) := Lib.hid (Eq.mp (congrArg (fun l : List Value => w1.heap[w.heap.size]? = some (.cells l.toArray 48 (0, 0))) (show splice (rb u 8 0) 0 (bn u 1) = rb u 8 1 from rb_splice (N := 8) (n := 0) (m := 1) HU.out (by decide))) HG1.out)
  have HB1 := Lib.hid hB1
  clear HG1 hB1 hmk
  go_wp2_with fail
  go_loopw [8] (fun n wr => ∃ k : Nat, (k = 1 ∨ k = 2 ∨ k = 4 ∨ k = 8) ∧ n = .int .i64 k ∧ Hid (wr.heap[w.heap.size]? = some (.cells (rb u 8 k).toArray 48 (0, 0))) ∧ Hid (Below w.heap.size w wr)) (fun n _ => 8 - (intOf n).toNat)
  case atStart => exact ⟨1, .inl rfl, rfl, HG, HB1⟩
  case round =>
    obtain ⟨k, hk, rfl, hG, hB⟩ := hrel
    clear HG HB1
    obtain ⟨wi, rfl⟩ : ∃ wi : World, wi = wr := ⟨_, rfl⟩
    obtain rfl | rfl | rfl | rfl := hk
    · have hwk : IntKind.i64.wrap 2 = 2 := rfl
      go_wp2_with fail
      go_region_law (refine step_wide rfl (.tmp 41) (.tmp 44) 110 110 rfl 48 Try.underlying110 4 1 (by kernel_rfl) w.heap.size 4 7 7 ⟨w.heap.size, 0, none⟩ 1 8 (by simp [Act.eval, Act.put]) (by simp [Act.eval, Act.put]) (rb u 8 1) 48 (by exact hG.out) (bn u 1) (by decide) (by rw [bn_length, HU.out]) (rb_cell (m := 1) hG.out (by decide)) (by rw [bn_length, rb_length HU.out (by decide), HU.out]; decide) (bn_mem H1C.out) w.heap.size w (by exact below_dr hB.out) (Nat.le_refl _) ?_; intro w4 hg4 hb4)
      have HG4 : Hid (w4.heap[w.heap.size]? = some (.cells (rb u 8 2).toArray 48 (0, 0))) := Lib.hid (Eq.mp (congrArg (fun l : List Value => w4.heap[w.heap.size]? = some (.cells l.toArray 48 (0, 0))) (show splice (rb u 8 1) 4 (bn u 1) = rb u 8 2 from rb_splice (N := 8) (n := 1) (m := 1) HU.out (by decide))) hg4.out)
      have HB4 := Lib.hid hb4
      clear hg4 hb4
      go_wp2_with fail
      go_simp
      all_goals (simp [intOf])
    · have hwk : IntKind.i64.wrap 4 = 4 := rfl
      go_wp2_with fail
      go_region_law (refine step_wide rfl (.tmp 41) (.tmp 44) 110 110 rfl 48 Try.underlying110 4 2 (by kernel_rfl) w.heap.size 8 6 6 ⟨w.heap.size, 0, none⟩ 2 8 (by simp [Act.eval, Act.put]) (by simp [Act.eval, Act.put]) (rb u 8 2) 48 (by exact hG.out) (bn u 2) (by decide) (by rw [bn_length, HU.out]) (rb_cell (m := 2) hG.out (by decide)) (by rw [bn_length, rb_length HU.out (by decide), HU.out]; decide) (bn_mem H1C.out) w.heap.size w (by exact below_dr hB.out) (Nat.le_refl _) ?_; intro w4 hg4 hb4)
      have HG4 : Hid (w4.heap[w.heap.size]? = some (.cells (rb u 8 4).toArray 48 (0, 0))) := Lib.hid (Eq.mp (congrArg (fun l : List Value => w4.heap[w.heap.size]? = some (.cells l.toArray 48 (0, 0))) (show splice (rb u 8 2) 8 (bn u 2) = rb u 8 4 from rb_splice (N := 8) (n := 2) (m := 2) HU.out (by decide))) hg4.out)
      have HB4 := Lib.hid hb4
      clear hg4 hb4
      go_wp2_with fail
      go_simp
      all_goals (simp [intOf])
    · have hwk : IntKind.i64.wrap 8 = 8 := rfl
      go_wp2_with fail
      go_region_law (refine step_wide rfl (.tmp 41) (.tmp 44) 110 110 rfl 48 Try.underlying110 4 4 (by kernel_rfl) w.heap.size 16 4 4 ⟨w.heap.size, 0, none⟩ 4 8 (by simp [Act.eval, Act.put]) (by simp [Act.eval, Act.put]) (rb u 8 4) 48 (by exact hG.out) (bn u 4) (by decide) (by rw [bn_length, HU.out]) (rb_cell (m := 4) hG.out (by decide)) (by rw [bn_length, rb_length HU.out (by decide), HU.out]; decide) (bn_mem H1C.out) w.heap.size w (by exact below_dr hB.out) (Nat.le_refl _) ?_; intro w4 hg4 hb4)
      have HG4 : Hid (w4.heap[w.heap.size]? = some (.cells (rb u 8 8).toArray 48 (0, 0))) := Lib.hid (Eq.mp (congrArg (fun l : List Value => w4.heap[w.heap.size]? = some (.cells l.toArray 48 (0, 0))) (show splice (rb u 8 4) 16 (bn u 4) = rb u 8 8 from rb_splice (N := 8) (n := 4) (m := 4) HU.out (by decide))) hg4.out)
      have HB4 := Lib.hid hb4
      clear hg4 hb4
      go_wp2_with fail
      go_simp
      all_goals (simp [intOf])
    · go_wp2_with fail
      go_ret
      exact ⟨rfl, hG.out, hB.out⟩
theorem mul64_9 (w : World) : Calls Try.prog 155 #[.int .u64 1, .int .u64 9] w fun e w' => e = .returned (.tuple #[.int .u64 0, .int .u64 9]) ∧ w = w' := by
  have ha : bits .and .u64 1 4294967295 = 1 := by decide
  have hb : bits .and .u64 9 4294967295 = 9 := by decide
  have hc : bits .and .u64 0 4294967295 = 0 := by decide
  go_enter Try.func155, Try.ntmps155
  go_wp2
  refine bodyPost_ret (v := .tuple #[.int .u64 0, .int .u64 9]) (by simp [results, Try.results155, go_sem]; try decide) rfl ⟨rfl, rfl⟩
theorem mul_9 (w : World) : Calls Try.prog 131 #[.int .u64 1, .int .u64 9] w fun e w' => e = .returned (.tuple #[.int .u64 0, .int .u64 9]) ∧ w = w' := by
  go_enter Try.func131, Try.ntmps131
  go_wp2_with fail
  refine (mul64_9 _).mono ?_
  rintro e w' ⟨rfl, rfl⟩
  go_wp2_with fail
  refine bodyPost_ret (v := .tuple #[.int .u64 0, .int .u64 9]) (by simp [results, Try.results131, go_sem]) rfl ⟨rfl, rfl⟩
set_option maxHeartbeats 8000000 in
theorem repeat_9 (b o cap : Nat) (x y h : Int) (va : Option Addr) (vn vc : Nat) (w : World) (h0 : w.cell? ⟨b, o, none⟩ = some (.int .i64 x)) (h1 : w.cell? ⟨b, o + 1, none⟩ = some (.int .i64 y)) (h2 : w.cell? ⟨b, o + 2, none⟩ = some (.int .i64 h)) (h3 : w.cell? ⟨b, o + 3, none⟩ = some (.slice va vn vc)) :
    Calls Try.prog 93 #[.slice (some ⟨b, o, none⟩) 1 cap, .int .i64 9] w fun e w' => e = .returned (.slice (some ⟨w.heap.size, 0, none⟩) 9 9) ∧ w'.heap[w.heap.size]? = some (.cells (rb [.int .i64 x, .int .i64 y, .int .i64 h, .slice va vn vc] 9 9).toArray 48 (0, 0)) ∧ Below w.heap.size w w' := by
  obtain ⟨u, hu⟩ : ∃ u : List Value, u = [.int .i64 x, .int .i64 y, .int .i64 h, .slice va vn vc] := ⟨_, rfl⟩
  have hu4 : u.length = 4 := by rw [hu]; rfl
  have h1c : ∀ v ∈ u, v.oneCell' = true := by intro v hv; rw [hu] at hv; simp at hv; rcases hv with rfl | rfl | rfl | rfl <;> rfl
  have HS := Lib.hid (fun (W : World) (hb : Below w.heap.size w W) => u_cell (below_cell hb _ _ h0) (below_cell hb _ _ h1) (below_cell hb _ _ h2) (below_cell hb _ _ h3))
  rw [← hu] at HS ⊢
  have hmk : ∀ W : World, (Instr.makeSlice 110 (.int .i64 9) (.int .i64 9)).run Try.prog W = .ok (.slice (some ⟨W.heap.size, 0, none⟩) 9 9) (W.alloc (.cells (rb [] 9 0).toArray 48)) := fun W => by kernel_rfl
  have HU := Lib.hid hu4
  have H1C := Lib.hid h1c
  clear h0 h1 h2 h3 hu hu4 h1c
  go_enter Try.func93, Try.ntmps93
  go_wp2_with fail
  refine (mul_9 _).mono ?_
  rintro e w' ⟨rfl, rfl⟩
  go_wp2_with (with_reducible refine wpList_wide rfl (.tmp 31) (.tmp 32) 110 110 rfl 48 Try.underlying110 4 1 (by kernel_rfl) w.heap.size 0 9 9 ⟨b, o, none⟩ 1 cap rfl rfl (rb u 9 0) 48 ?e1 (bn u 1) ?e2 ?e3 ?e4 ?e5 ?e6 w.heap.size w ?e7 ?e8 ?_)
  case e1 => exact heap_alloc_new w _
  case e2 => decide
  case e3 => rw [bn_length, HU.out]
  case e4 => exact HS.out _ (below_al (Below.refl _ _) _)
  case e5 => rw [bn_length, rb_length HU.out (by decide), HU.out]; decide
  case e6 => exact bn_mem H1C.out
  case e7 => exact below_al (Below.refl _ _) _
  case e8 => exact Nat.le_refl _
  intro w1 HG1 hB1
  have HG : Hid (w1.heap[w.heap.size]? = some (.cells (rb u 9 1).toArray 48 (0, 0))) := Lib.hid (Eq.mp (congrArg (fun l : List Value => w1.heap[w.heap.size]? = some (.cells l.toArray 48 (0, 0))) (show splice (rb u 9 0) 0 (bn u 1) = rb u 9 1 from rb_splice (N := 9) (n := 0) (m := 1) HU.out (by decide))) HG1.out)
  have HB1 := Lib.hid hB1
  clear HG1 hB1 hmk
  go_wp2_with fail
  go_loopw [8] (fun n wr => ∃ k : Nat, (k = 1 ∨ k = 2 ∨ k = 4 ∨ k = 8 ∨ k = 9) ∧ n = .int .i64 k ∧ Hid (wr.heap[w.heap.size]? = some (.cells (rb u 9 k).toArray 48 (0, 0))) ∧ Hid (Below w.heap.size w wr)) (fun n _ => 9 - (intOf n).toNat)
  case atStart => exact ⟨1, .inl rfl, rfl, HG, HB1⟩
  case round =>
    obtain ⟨k, hk, rfl, hG, hB⟩ := hrel
    clear HG HB1
    obtain ⟨wi, rfl⟩ : ∃ wi : World, wi = wr := ⟨_, rfl⟩
    obtain rfl | rfl | rfl | rfl | rfl := hk
    · have hwk : IntKind.i64.wrap 2 = 2 := rfl
      go_wp2_with fail
      go_region_law (refine step_wide rfl (.tmp 41) (.tmp 44) 110 110 rfl 48 Try.underlying110 4 1 (by kernel_rfl) w.heap.size 4 8 8 ⟨w.heap.size, 0, none⟩ 1 9 (by simp [Act.eval, Act.put]) (by simp [Act.eval, Act.put]) (rb u 9 1) 48 (by exact hG.out) (bn u 1) (by decide) (by rw [bn_length, HU.out]) (rb_cell (m := 1) hG.out (by decide)) (by rw [bn_length, rb_length HU.out (by decide), HU.out]; decide) (bn_mem H1C.out) w.heap.size w (by exact below_dr hB.out) (Nat.le_refl _) ?_; intro w4 hg4 hb4)
      have HG4 : Hid (w4.heap[w.heap.size]? = some (.cells (rb u 9 2).toArray 48 (0, 0))) := Lib.hid (Eq.mp (congrArg (fun l : List Value => w4.heap[w.heap.size]? = some (.cells l.toArray 48 (0, 0))) (show splice (rb u 9 1) 4 (bn u 1) = rb u 9 2 from rb_splice (N := 9) (n := 1) (m := 1) HU.out (by decide))) hg4.out)
      have HB4 := Lib.hid hb4
      clear hg4 hb4
      go_wp2_with fail
      go_simp
      all_goals (simp [intOf])
    · have hwk : IntKind.i64.wrap 4 = 4 := rfl
      go_wp2_with fail
      go_region_law (refine step_wide rfl (.tmp 41) (.tmp 44) 110 110 rfl 48 Try.underlying110 4 2 (by kernel_rfl) w.heap.size 8 7 7 ⟨w.heap.size, 0, none⟩ 2 9 (by simp [Act.eval, Act.put]) (by simp [Act.eval, Act.put]) (rb u 9 2) 48 (by exact hG.out) (bn u 2) (by decide) (by rw [bn_length, HU.out]) (rb_cell (m := 2) hG.out (by decide)) (by rw [bn_length, rb_length HU.out (by decide), HU.out]; decide) (bn_mem H1C.out) w.heap.size w (by exact below_dr hB.out) (Nat.le_refl _) ?_; intro w4 hg4 hb4)
      have HG4 : Hid (w4.heap[w.heap.size]? = some (.cells (rb u 9 4).toArray 48 (0, 0))) := Lib.hid (Eq.mp (congrArg (fun l : List Value => w4.heap[w.heap.size]? = some (.cells l.toArray 48 (0, 0))) (show splice (rb u 9 2) 8 (bn u 2) = rb u 9 4 from rb_splice (N := 9) (n := 2) (m := 2) HU.out (by decide))) hg4.out)
      have HB4 := Lib.hid hb4
      clear hg4 hb4
      go_wp2_with fail
      go_simp
      all_goals (simp [intOf])
    · have hwk : IntKind.i64.wrap 8 = 8 := rfl
      go_wp2_with fail
      go_region_law (refine step_wide rfl (.tmp 41) (.tmp 44) 110 110 rfl 48 Try.underlying110 4 4 (by kernel_rfl) w.heap.size 16 5 5 ⟨w.heap.size, 0, none⟩ 4 9 (by simp [Act.eval, Act.put]) (by simp [Act.eval, Act.put]) (rb u 9 4) 48 (by exact hG.out) (bn u 4) (by decide) (by rw [bn_length, HU.out]) (rb_cell (m := 4) hG.out (by decide)) (by rw [bn_length, rb_length HU.out (by decide), HU.out]; decide) (bn_mem H1C.out) w.heap.size w (by exact below_dr hB.out) (Nat.le_refl _) ?_; intro w4 hg4 hb4)
      have HG4 : Hid (w4.heap[w.heap.size]? = some (.cells (rb u 9 8).toArray 48 (0, 0))) := Lib.hid (Eq.mp (congrArg (fun l : List Value => w4.heap[w.heap.size]? = some (.cells l.toArray 48 (0, 0))) (show splice (rb u 9 4) 16 (bn u 4) = rb u 9 8 from rb_splice (N := 9) (n := 4) (m := 4) HU.out (by decide))) hg4.out)
      have HB4 := Lib.hid hb4
      clear hg4 hb4
      go_wp2_with fail
      go_simp
      all_goals (simp [intOf])
    · have hwk : IntKind.i64.wrap 9 = 9 := rfl
      go_wp2_with fail
      go_region_law (refine step_wide rfl (.tmp 41) (.tmp 44) 110 110 rfl 48 Try.underlying110 4 1 (by kernel_rfl) w.heap.size 32 1 1 ⟨w.heap.size, 0, none⟩ 8 9 (by simp [Act.eval, Act.put]) (by simp [Act.eval, Act.put]) (rb u 9 8) 48 (by exact hG.out) (bn u 1) (by decide) (by rw [bn_length, HU.out]) (rb_cell (m := 1) hG.out (by decide)) (by rw [bn_length, rb_length HU.out (by decide), HU.out]; decide) (bn_mem H1C.out) w.heap.size w (by exact below_dr hB.out) (Nat.le_refl _) ?_; intro w4 hg4 hb4)
      have HG4 : Hid (w4.heap[w.heap.size]? = some (.cells (rb u 9 9).toArray 48 (0, 0))) := Lib.hid (Eq.mp (congrArg (fun l : List Value => w4.heap[w.heap.size]? = some (.cells l.toArray 48 (0, 0))) (show splice (rb u 9 8) 32 (bn u 1) = rb u 9 9 from rb_splice (N := 9) (n := 8) (m := 1) HU.out (by decide))) hg4.out)
      have HB4 := Lib.hid hb4
      clear hg4 hb4
      go_wp2_with fail
      go_simp
      all_goals (simp [intOf])
    · go_wp2_with fail
      go_ret
      exact ⟨rfl, hG.out, hB.out⟩
theorem repeat_any (n : Nat) (b o cap : Nat) (x y h : Int) (va : Option Addr) (vn vc : Nat) (w : World) (h0 : w.cell? ⟨b, o, none⟩ = some (.int .i64 x)) (h1 : w.cell? ⟨b, o + 1, none⟩ = some (.int .i64 y)) (h2 : w.cell? ⟨b, o + 2, none⟩ = some (.int .i64 h)) (h3 : w.cell? ⟨b, o + 3, none⟩ = some (.slice va vn vc)) (hn1 : 1 ≤ n) (hn : n ≤ 9) :
    Calls Try.prog 93 #[.slice (some ⟨b, o, none⟩) 1 cap, .int .i64 (n : Int)] w fun e w' => e = .returned (.slice (some ⟨w.heap.size, 0, none⟩) n n) ∧ w'.heap[w.heap.size]? = some (.cells (rb [.int .i64 x, .int .i64 y, .int .i64 h, .slice va vn vc] n n).toArray 48 (0, 0)) ∧ Below w.heap.size w w' := by
  match n, hn1, hn with
  | 1, _, _ => exact repeat_1 b o cap x y h va vn vc w h0 h1 h2 h3
  | 2, _, _ => exact repeat_2 b o cap x y h va vn vc w h0 h1 h2 h3
  | 3, _, _ => exact repeat_3 b o cap x y h va vn vc w h0 h1 h2 h3
  | 4, _, _ => exact repeat_4 b o cap x y h va vn vc w h0 h1 h2 h3
  | 5, _, _ => exact repeat_5 b o cap x y h va vn vc w h0 h1 h2 h3
  | 6, _, _ => exact repeat_6 b o cap x y h va vn vc w h0 h1 h2 h3
  | 7, _, _ => exact repeat_7 b o cap x y h va vn vc w h0 h1 h2 h3
  | 8, _, _ => exact repeat_8 b o cap x y h va vn vc w h0 h1 h2 h3
  | 9, _, _ => exact repeat_9 b o cap x y h va vn vc w h0 h1 h2 h3
  | k + 10, _, hh => exact absurd hh (by omega)

end Go.Proofs.Ytneonebgneonkaa.rpb
