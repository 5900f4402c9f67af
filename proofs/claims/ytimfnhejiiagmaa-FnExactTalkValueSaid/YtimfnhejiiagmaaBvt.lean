/- The list of all twins of the program. -/
import Derived.Test.YtimfnhejiiagmaaPro
namespace Go.Proofs.Ytimfnhejiiagmaa.bvt
open Go.RowKit Go.Deep Go.Proofs.Ytimfnhejiiagmaa.base
open Go.Proofs.Ytimfnhejiiagmaa.prs Go.Proofs.Ytimfnhejiiagmaa.pro
open Go.Proofs.Ytimfnhejiiagmaa.prt (two_cells)

/-- the first k twins, with n questions in the second Game -/
def tw (n k : Nat) : List (Int × Int) := (List.range k).map fun q => (((q / n : Nat) : Int), ((q % n : Nat) : Int))
theorem len_tw (n k : Nat) : (tw n k).length = k := by simp [tw]
theorem get_tw {n k q : Nat} (h : q < (tw n k).length) : (tw n k)[q] = (((q / n : Nat) : Int), ((q % n : Nat) : Int)) := by simp [tw]
theorem tw_succ {n a b : Nat} (h : b < n) : tw n (a * n + (b + 1)) = tw n (a * n + b) ++ [((a : Int), (b : Int))] := by
  have e1 : (a * n + b) / n = a := by rw [Nat.add_comm, Nat.add_mul_div_right _ _ (by omega), Nat.div_eq_of_lt h, Nat.zero_add]
  have e2 : (a * n + b) % n = b := by rw [Nat.add_comm, Nat.add_mul_mod_self_right, Nat.mod_eq_of_lt h]
  unfold tw
  rw [show a * n + (b + 1) = (a * n + b) + 1 by omega, List.range_succ, List.map_append]
  simp only [List.map_cons, List.map_nil, e1, e2]

theorem infoTwin : (Try.prog.info? 167).map (fun i => (i.zero, i.size, i.bytes)) = some (some (.agg #[.int .i64 0, .int .i64 0]), 2, 16) := by kernel_rfl
theorem mk0t (c : Nat) (hc : c ≤ 1048576) (w : World) : (Instr.makeSlice 165 (.int .i64 0) (.int .i64 (c : Int))).run Try.prog w = .ok (.slice (some ⟨w.heap.size, 0, none⟩) 0 c) (w.alloc (.cells (madeCells #[.int .i64 0, .int .i64 0] (c * 2)) 167)) := by
  obtain ⟨i0, hi, hz0, hz1, hz2⟩ := info_parts infoTwin
  have := run_make (P := Try.prog) w 165 167 i0 (.agg #[.int .i64 0, .int .i64 0]) Try.underlying165 hi hz0 .i64 .i64 0 c (Int.le_refl _) (by omega) (by rw [hz2]; omega) (by omega)
  simp only [Int.toNat_zero, Int.toNat_natCast, hz1] at this
  exact this
set_option maxRecDepth 100000 in
set_option maxHeartbeats 4000000 in
theorem twins (m n : Nat) (hm : m ≤ 2) (hn : n ≤ 2) (w : World) :
    Calls Try.prog 153 #[.int .i64 (m : Int), .int .i64 (n : Int)] w fun e w' => ∃ u, e = .returned u ∧ OwnPairs w' w.heap.size w'.heap.size u (tw n (m * n)) ∧ Below w.heap.size w w' := by
  obtain ⟨i0, hi0, hz0, hz1, hz2⟩ := info_parts infoTwin
  have m2 : (m : Int) ≤ 2 := by omega
  have n2 : (n : Int) ≤ 2 := by omega
  have HM := Lib.hid hm
  have HN := Lib.hid hn
  have hmn : m * n ≤ 4 := Nat.mul_le_mul hm hn
  have hwm : IntKind.i64.wrap ((m : Int) * (n : Int)) = ((m * n : Nat) : Int) := by
    have e : ((m : Int) * (n : Int)) = ((m * n : Nat) : Int) := by simp
    rw [e]; exact IntWalk.i64_in _ (by omega)
  have hwm' : wrap64 ((m : Int) * (n : Int)) = ((m * n : Nat) : Int) := by
    have e : ((m : Int) * (n : Int)) = ((m * n : Nat) : Int) := by simp
    rw [e]; exact IntWalk.wrap64_in _ (by omega)
  have hmk := mk0t (m * n) (by omega) w
  rw [Int.natCast_mul] at hmk
  have O0 : Hid ((w.alloc (.cells (madeCells #[.int .i64 0, .int .i64 0] (m * n * 2)) 167)).ownsRow w.heap.size 167 2 (.slice (some ⟨w.heap.size, 0, none⟩) 0 (m * n)) (0 * n + 0) (pcs (tw n (0 * n + 0)))) := Lib.hid (by
    have := World.ownsRow_made (base := w.heap.size) (e := 167) (size := 2) w (madeCells #[.int .i64 0, .int .i64 0] (m * n * 2)) (m * n) (by simp) (by unfold maxLen; omega) (by simp [madeCells])
    simpa [pcs, tw] using this)
  have B0 := Lib.hid (below_al (Below.refl w.heap.size w) (.cells (madeCells #[.int .i64 0, .int .i64 0] (m * n * 2)) 167))
  clear hm hn
  go_enter Try.func153, Try.ntmps153
  go_wp2_with fail
  clear hmk hwm hwm'
  go_loopw [5, 6, 7, 13] (fun vb z4 z5 s wr => ∃ a : Nat, a ≤ m ∧ s = .int .i64 (a : Nat) ∧ (∃ vv, vb = vv ∧ Hid (wr.ownsRow w.heap.size 167 2 vv (a * n + 0) (pcs (tw n (a * n + 0))))) ∧ (∃ z, z4 = z) ∧ (∃ z, z5 = z) ∧ Hid (Below w.heap.size w wr)) (fun _ _ _ s _ => m - (intOf s).toNat)
  case atStart => exact ⟨0, Nat.zero_le _, rfl, ⟨_, rfl, O0⟩, ⟨_, rfl⟩, ⟨_, rfl⟩, B0⟩
  case round =>
    clear O0 B0
    obtain ⟨a, ha, rfl, ⟨vv, hvv, hO⟩, ⟨z4, rfl⟩, ⟨z5, rfl⟩, hBW⟩ := hrel
    obtain ⟨wo, rfl⟩ : ∃ wo : World, wo = wr := ⟨_, rfl⟩
    subst hvv
    by_cases hlt : a < m
    · have hkz : (a : Int) < (m : Int) := by omega
      have HLT := Lib.hid hlt
      go_wp2_with fail
      go_loopw [5, 7, 17] (fun vb z5 s wr => ∃ b : Nat, b ≤ n ∧ s = .int .i64 (b : Nat) ∧ (∃ vv, vb = vv ∧ Hid (wr.ownsRow w.heap.size 167 2 vv (a * n + b) (pcs (tw n (a * n + b))))) ∧ (∃ z, z5 = z) ∧ Hid (Below w.heap.size w wr)) (fun _ _ s _ => n - (intOf s).toNat)
      case atStart => exact ⟨0, Nat.zero_le _, rfl, ⟨_, rfl, hO⟩, ⟨_, rfl⟩, hBW⟩
      case round =>
        clear hO
        obtain ⟨b, hb, rfl, ⟨vv, hvv, hO⟩, ⟨z5, rfl⟩, hBI⟩ := hrel
        obtain ⟨wi, rfl⟩ : ∃ wi : World, wi = wr := ⟨_, rfl⟩
        subst hvv
        by_cases hlb : b < n
        · have hjz : (b : Int) < (n : Int) := by omega
          have HLB := Lib.hid hlb
          have HG : Hid (a * n + b ≤ 16) := Lib.hid (by have := Nat.mul_le_mul (Nat.le_of_lt HLT.out) (Nat.le_refl n); omega)
          have O2 := Lib.hid (app.owns_below hO.out (below_al (Below.refl _ _) (.cells #[.int .i64 (a : Int), .int .i64 (b : Int)] 167)))
          have hsz : w.heap.size ≤ wi.heap.size := hBI.out.size
          have HP := Lib.hid (tw_succ (n := n) (a := a) (b := b) hlb)
          generalize tw n (a * n + b) = ps at *
          clear hO
          generalize hT : a * n + b = T at *
          go_wp2_with (at_builtin; go_must (refine wpList_append_own _ rfl (.tmp 20) (.tmp 24) 165 rfl w.heap.size 167 i0 (.agg #[.int .i64 0, .int .i64 0]) 2 16 Try.underlying165 hi0 hz0 hz1 hz2 rfl (by decide) _ _ _ rfl O2.out ⟨wi.heap.size, 0, none⟩ 1 1 [.int .i64 (a : Int), .int .i64 (b : Int)] rfl rfl ?d1 ?d2 ?d3 ?d4 ?d5 ?_))
          try (case d1 => first | exact two_at _ _ _ _ | (intro q u hq; have h5 := two_at wi (.int .i64 (a : Int)) (.int .i64 (b : Int)) 167 q u hq; rw [opn.add_none] at h5; simpa using h5))
          try (case d2 => first | (intro u hu; simp at hu; rcases hu with rfl | rfl <;> rfl) | (exact ⟨rfl, rfl⟩) | rfl)
          case d3 => unfold maxLen; have := HG.out; omega
          case d4 => have := HG.out; omega
          try (case d5 => first | omega | (simp; omega))
          intro v3 w3 hown3 hgrow3 _
          have B3 : Hid (Below w.heap.size w w3) := Lib.hid ((below_al hBI.out _).grown hgrow3 (by simp; omega) (fun q hq => (O2.out.lt q hq).1))
          have O3 : Hid (w3.ownsRow w.heap.size 167 2 v3 (T + 1) (pcs (tw n (a * n + (b + 1))))) := Lib.hid (by have h5 := hown3; rw [pcs_snoc] at h5; rw [HP.out]; exact h5)
          clear hown3 hgrow3
          go_wp2_with fail
          go_roundw
          case rel => exact ⟨b + 1, by have := HLB.out; omega, by go_num, ⟨_, rfl, Lib.hid (by have h6 := O3.out; rw [show T + 1 = a * n + (b + 1) by omega] at h6; exact h6)⟩, ⟨_, rfl⟩, B3⟩
          case measure => have := HLB.out; simp [intOf]; omega
        · obtain rfl : b = n := by omega
          have O4 : Hid (wi.ownsRow w.heap.size 167 2 u5 ((a + 1) * b + 0) (pcs (tw b ((a + 1) * b + 0)))) := Lib.hid (by rw [Nat.add_mul, Nat.one_mul, Nat.add_zero]; exact hO.out)
          go_wp2_with fail
          go_roundw
          case rel => exact ⟨a + 1, by have := HLT.out; omega, by go_num, ⟨_, rfl, O4⟩, ⟨_, rfl⟩, ⟨_, rfl⟩, hBI⟩
          case measure => have := HLT.out; simp [intOf]; omega
    · obtain rfl : a = m := by omega
      have HO : Hid (OwnPairs wo w.heap.size wo.heap.size u5 (tw n (a * n))) := Lib.hid (pairs_of_owns hO.out)
      go_wp2_with fail
      go_ret
      exact ⟨_, rfl, HO.out, hBW.out⟩

end Go.Proofs.Ytimfnhejiiagmaa.bvt
