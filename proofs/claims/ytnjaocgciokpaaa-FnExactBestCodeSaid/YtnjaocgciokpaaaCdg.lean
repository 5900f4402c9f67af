/- Guesses of a code in the program: guesses, score. -/
import Derived.Test.YtnjaocgciokpaaaCdi
import Derived.Deep.RegionWith
import Derived.BigRegion
namespace Go.Proofs.Ytnjaocgciokpaaa.cdg
open Go.RowKit Go.Deep Go.Proofs.Ytnjaocgciokpaaa.base
open Go.Proofs.Ytnjaocgciokpaaa.ints (ret_int infoInt)
open Go.Proofs.Ytnjaocgciokpaaa.cdm

/-- the counts of the first k strings -/
def N (cs : List Int) (i k m v : Nat) : Int := ((cnt cs (m : Int) i v k : Nat) : Int)
def l4 (cs : List Int) (i k : Nat) : Array Value := #[.int .i64 (N cs i k 0 0), .int .i64 (N cs i k 0 1), .int .i64 (N cs i k 1 0), .int .i64 (N cs i k 1 1)]
theorem N_le (cs : List Int) (i k m v : Nat) : 0 ≤ N cs i k m v ∧ N cs i k m v ≤ k := by
  have := cnt_le cs (m : Int) i v k
  unfold N; omega
theorem N_yes {cs : List Int} {i k : Nat} {y z : Nat} (hy : cs.getD k 2 = (y : Int)) (hz : lt k i = z) : N cs i (k + 1) y z = N cs i k y z + 1 := by
  unfold N; rw [cnt_yes ⟨hy, hz⟩]; simp
theorem N_m {cs : List Int} {i k : Nat} {y m z : Nat} (hy : cs.getD k 2 = (y : Int)) (h : y ≠ m) : N cs i (k + 1) m z = N cs i k m z := by
  unfold N; rw [cnt_no (fun h' => h (by have := h'.1; omega))]
theorem N_v {cs : List Int} {i k : Nat} {m z v : Nat} (hz : lt k i = z) (h : z ≠ v) : N cs i (k + 1) m v = N cs i k m v := by
  unfold N; rw [cnt_no (fun h' => h (by have := h'.2; omega))]

theorem blk_set0 {w : World} {b gg k : Nat} {t : TypeId} {vs : Array Value} {v : Value} (h : Blk w b t vs) (hb : b ≠ gg) : Blk (w.setCell ⟨gg, k, none⟩ v) b t vs :=
  (Below.heap_setCell w _ _ _ (fun e => hb e)).trans h
theorem blk_set {w : World} {b gg k : Nat} {t : TypeId} {vs : Array Value} {v : Value} (h : Blk w b t vs) (hb : b ≠ gg) : Blk (w.drew.setCell ⟨gg, k, none⟩ v) b t vs :=
  (Below.heap_setCell w.drew _ _ _ (fun e => hb e)).trans h
theorem ix0 (a b c d : Int) (W : World) : (Instr.index 89 (.agg #[.int .i64 a, .int .i64 b, .int .i64 c, .int .i64 d]) (.int .i64 0)).run Try.prog W = .ok (.agg #[.int .i64 a, .int .i64 b]) W := by kernel_rfl
theorem ix1 (a b c d : Int) (W : World) : (Instr.index 89 (.agg #[.int .i64 a, .int .i64 b, .int .i64 c, .int .i64 d]) (.int .i64 1)).run Try.prog W = .ok (.agg #[.int .i64 c, .int .i64 d]) W := by kernel_rfl


set_option maxRecDepth 100000 in
set_option maxHeartbeats 4000000 in
theorem guesses (n : Int) (v : Value) (cs : List Int) (i : Nat) (w : World) (h : Ints w v cs) (hok : okCode n cs) (hi : i ≤ 2) :
    Calls Try.prog 61 #[.agg #[.int .i64 n, v], .int .i64 (i : Int)] w fun e w' => e = .returned (.agg #[.int .i64 ((g cs 0 i : Nat) : Int), .int .i64 ((g cs 1 i : Nat) : Int)]) ∧ Below w.heap.size w w' := by
  have h8 := ok_len8 hok
  have HOK := Lib.hid hok
  obtain ⟨A, b, o, cap, rfl, hcap, hmax, hA, hc⟩ := h.form
  have hpos : 0 < cs.length := by rw [ok_len hok]; exact Nat.pow_pos (by omega)
  obtain rfl := hA hpos
  have B0 := Lib.hid (below_al (below_al (below_al (Below.refl w.heap.size w) (.cells #[.int .i64 n, .slice (some ⟨b, o, none⟩) cs.length cap] 60)) (.cells #[.int .i64 0, .int .i64 0] 64)) (.cells #[.int .i64 0, .int .i64 0, .int .i64 0, .int .i64 0] 89))
  obtain ⟨w1, hw1⟩ : ∃ w1, ((w.alloc (.cells #[.int .i64 n, .slice (some ⟨b, o, none⟩) cs.length cap] 60)).alloc (.cells #[.int .i64 0, .int .i64 0] 64)).alloc (.cells #[.int .i64 0, .int .i64 0, .int .i64 0, .int .i64 0] 89) = w1 := ⟨_, rfl⟩
  have K0 : Hid (Blk w1 w.heap.size 60 #[.int .i64 n, .slice (some ⟨b, o, none⟩) cs.length cap]) := Lib.hid (hw1 ▸ ((Blk.new w 60 #[.int .i64 n, .slice (some ⟨b, o, none⟩) cs.length cap]).alloc _).alloc _)
  have R0 : Hid (Blk w1 (w.heap.size + 1) 64 #[.int .i64 0, .int .i64 0]) := Lib.hid (hw1 ▸ by
    have := (Blk.new (w.alloc (.cells #[.int .i64 n, .slice (some ⟨b, o, none⟩) cs.length cap] 60)) 64 #[.int .i64 0, .int .i64 0]).alloc (.cells #[.int .i64 0, .int .i64 0, .int .i64 0, .int .i64 0] 89)
    simpa using this)
  have C0 : Hid (Blk w1 (w.heap.size + 2) 89 (l4 cs i 0)) := Lib.hid (hw1 ▸ by
    have := Blk.new ((w.alloc (.cells #[.int .i64 n, .slice (some ⟨b, o, none⟩) cs.length cap] 60)).alloc (.cells #[.int .i64 0, .int .i64 0] 64)) 89 #[.int .i64 0, .int .i64 0, .int .i64 0, .int .i64 0]
    simpa [l4, N, cnt] using this)
  have hlt0 : ∀ k (hk : k < cs.length), b < w.heap.size := fun k hk => World.block_lt_of_cell? _ _ (hc k hk)
  have HC := Lib.hid hc
  have HH := Lib.hid hw1
  rw [hw1] at B0
  clear hc hmax hcap h hok hA
  have hlz : (cs.length : Int) ≤ 8 := by omega
  obtain ⟨k0, k1⟩ := prt.two_cells K0.out
  go_enter Try.func61, Try.ntmps61
  go_wp2_with fail
  go_loopw [6, 7, 14] (fun z6 z7 s wr => ∃ k : Nat, k ≤ cs.length ∧ s = .int .i64 k ∧ (∃ z, z6 = z) ∧ (∃ z, z7 = z) ∧ Hid (Below w.heap.size w wr) ∧ Hid (Blk wr w.heap.size 60 #[.int .i64 n, .slice (some ⟨b, o, none⟩) cs.length cap]) ∧ Hid (Blk wr (w.heap.size + 1) 64 #[.int .i64 0, .int .i64 0]) ∧ Hid (Blk wr (w.heap.size + 2) 89 (l4 cs i k))) (fun _ _ s _ => cs.length - (intOf s).toNat)
  case atStart => exact ⟨0, Nat.zero_le _, rfl, ⟨_, rfl⟩, ⟨_, rfl⟩, B0.out, K0.out, R0.out, C0.out⟩
  case round =>
    clear B0 R0 C0 k0 k1
    obtain ⟨k, hk, rfl, ⟨z6, rfl⟩, ⟨z7, rfl⟩, hB, hK, hR, hC⟩ := hrel
    obtain ⟨wi, rfl⟩ : ∃ wi : World, wi = wr := ⟨_, rfl⟩
    by_cases hlt : k < cs.length
    · have hkz : (k : Int) < (cs.length : Int) := by omega
      obtain ⟨y, g0, hy⟩ : ∃ y, wi.cell? ⟨b, o + k, none⟩ = some (.int .i64 y) ∧ cs.getD k 2 = y := ⟨_, below_cell hB.out _ _ (HC.out k hlt), by simp [List.getD, hlt]; try rfl⟩
      have hy01 : y = 0 ∨ y = 1 := by rw [← hy]; exact ok_get HOK.out k hlt
      have HLT := Lib.hid hlt
      have HL : Hid (∀ W : World, Calls Try.prog 71 #[.int .i64 (k : Int), .int .i64 (i : Int)] W fun e w' => e = .returned (.int .i64 ((lt k i : Nat) : Int)) ∧ W = w') := Lib.hid (fun W => cdi.letter k i W (by omega) hi)
      obtain ⟨c0, c1, c2, c3, c4⟩ := four_cells hC.out
      have cf : ∀ j, wi.frozen? ⟨w.heap.size + 2, j, none⟩ = false := fun j => Joins.unfrozen_of_block hC.out j
      have hz01 := lt_cases k i
      clear hlt
      rcases hy01 with ey | ey <;> rcases hz01 with ez | ez
      · -- message 0, letter 0
        have HY : Hid (cs.getD k 2 = ((0 : Nat) : Int)) := Lib.hid (hy.trans ey)
        have HZ : Hid (lt k i = 0) := Lib.hid ez
        rw [ey] at g0
        rw [ez] at HL
        have HN : Hid (l4 cs i (k + 1) = #[.int .i64 (N cs i k 0 0 + 1), .int .i64 (N cs i k 0 1), .int .i64 (N cs i k 1 0), .int .i64 (N cs i k 1 1)]) := Lib.hid (by unfold l4; rw [show N cs i (k + 1) 0 0 = N cs i k 0 0 + 1 from N_yes HY.out HZ.out, show N cs i (k + 1) 0 1 = N cs i k 0 1 from N_v HZ.out (by decide), show N cs i (k + 1) 1 0 = N cs i k 1 0 from N_m HY.out (by decide), show N cs i (k + 1) 1 1 = N cs i k 1 1 from N_m HY.out (by decide)])
        have C1 : Hid (∀ W : World, Blk W (w.heap.size + 2) 89 (l4 cs i k) → Blk (W.setCell ⟨w.heap.size + 2, 0, none⟩ (.int .i64 (N cs i k 0 0 + 1))) (w.heap.size + 2) 89 (l4 cs i (k + 1))) := Lib.hid (fun W hW => by
          rw [HN.out]
          have := Joins.block_setCell (i := 0) hW (.int .i64 (N cs i k 0 0 + 1))
          simpa [Blk, l4] using this)
        obtain ⟨q, hq⟩ : ∃ q, N cs i k 0 0 = q := ⟨_, rfl⟩
        have hb := N_le cs i k 0 0
        rw [hq] at hb c0 C1
        have kw : wrap64 (q + 1) = q + 1 := IntWalk.wrap64_in _ (by omega)
        have kw2 : IntKind.i64.wrap (q + 1) = q + 1 := IntWalk.i64_in _ (by omega)
        clear hq hy ey ez
        go_wp2_with fail
        go_region_with (go_at_call 71; refine (HL.out _).mono ?_; rintro e w' ⟨rfl, rfl⟩)
        go_wp2_with fail
        go_roundw
        case rel => exact ⟨k + 1, by have := HLT.out; omega, by go_num, ⟨_, rfl⟩, ⟨_, rfl⟩, Below.setCell (below_dr hB.out) (Nat.le_add_right _ 2) _, blk_set hK.out (by omega), blk_set hR.out (by omega), C1.out _ hC.out⟩
        case measure => have := HLT.out; simp [intOf]; omega
      · -- message 0, letter 1
        have HY : Hid (cs.getD k 2 = ((0 : Nat) : Int)) := Lib.hid (hy.trans ey)
        have HZ : Hid (lt k i = 1) := Lib.hid ez
        rw [ey] at g0
        rw [ez] at HL
        have HN : Hid (l4 cs i (k + 1) = #[.int .i64 (N cs i k 0 0), .int .i64 (N cs i k 0 1 + 1), .int .i64 (N cs i k 1 0), .int .i64 (N cs i k 1 1)]) := Lib.hid (by unfold l4; rw [show N cs i (k + 1) 0 0 = N cs i k 0 0 from N_v HZ.out (by decide), show N cs i (k + 1) 0 1 = N cs i k 0 1 + 1 from N_yes HY.out HZ.out, show N cs i (k + 1) 1 0 = N cs i k 1 0 from N_m HY.out (by decide), show N cs i (k + 1) 1 1 = N cs i k 1 1 from N_m HY.out (by decide)])
        have C1 : Hid (∀ W : World, Blk W (w.heap.size + 2) 89 (l4 cs i k) → Blk (W.setCell ⟨w.heap.size + 2, 1, none⟩ (.int .i64 (N cs i k 0 1 + 1))) (w.heap.size + 2) 89 (l4 cs i (k + 1))) := Lib.hid (fun W hW => by
          rw [HN.out]
          have := Joins.block_setCell (i := 1) hW (.int .i64 (N cs i k 0 1 + 1))
          simpa [Blk, l4] using this)
        obtain ⟨q, hq⟩ : ∃ q, N cs i k 0 1 = q := ⟨_, rfl⟩
        have hb := N_le cs i k 0 1
        rw [hq] at hb c1 C1
        have kw : wrap64 (q + 1) = q + 1 := IntWalk.wrap64_in _ (by omega)
        have kw2 : IntKind.i64.wrap (q + 1) = q + 1 := IntWalk.i64_in _ (by omega)
        clear hq hy ey ez
        go_wp2_with fail
        go_region_with (go_at_call 71; refine (HL.out _).mono ?_; rintro e w' ⟨rfl, rfl⟩)
        go_wp2_with fail
        go_roundw
        case rel => exact ⟨k + 1, by have := HLT.out; omega, by go_num, ⟨_, rfl⟩, ⟨_, rfl⟩, Below.setCell (below_dr hB.out) (Nat.le_add_right _ 2) _, blk_set hK.out (by omega), blk_set hR.out (by omega), C1.out _ hC.out⟩
        case measure => have := HLT.out; simp [intOf]; omega
      · -- message 1, letter 0
        have HY : Hid (cs.getD k 2 = ((1 : Nat) : Int)) := Lib.hid (hy.trans ey)
        have HZ : Hid (lt k i = 0) := Lib.hid ez
        rw [ey] at g0
        rw [ez] at HL
        have HN : Hid (l4 cs i (k + 1) = #[.int .i64 (N cs i k 0 0), .int .i64 (N cs i k 0 1), .int .i64 (N cs i k 1 0 + 1), .int .i64 (N cs i k 1 1)]) := Lib.hid (by unfold l4; rw [show N cs i (k + 1) 0 0 = N cs i k 0 0 from N_m HY.out (by decide), show N cs i (k + 1) 0 1 = N cs i k 0 1 from N_m HY.out (by decide), show N cs i (k + 1) 1 0 = N cs i k 1 0 + 1 from N_yes HY.out HZ.out, show N cs i (k + 1) 1 1 = N cs i k 1 1 from N_v HZ.out (by decide)])
        have C1 : Hid (∀ W : World, Blk W (w.heap.size + 2) 89 (l4 cs i k) → Blk (W.setCell ⟨w.heap.size + 2, 2, none⟩ (.int .i64 (N cs i k 1 0 + 1))) (w.heap.size + 2) 89 (l4 cs i (k + 1))) := Lib.hid (fun W hW => by
          rw [HN.out]
          have := Joins.block_setCell (i := 2) hW (.int .i64 (N cs i k 1 0 + 1))
          simpa [Blk, l4] using this)
        obtain ⟨q, hq⟩ : ∃ q, N cs i k 1 0 = q := ⟨_, rfl⟩
        have hb := N_le cs i k 1 0
        rw [hq] at hb c2 C1
        have kw : wrap64 (q + 1) = q + 1 := IntWalk.wrap64_in _ (by omega)
        have kw2 : IntKind.i64.wrap (q + 1) = q + 1 := IntWalk.i64_in _ (by omega)
        clear hq hy ey ez
        go_wp2_with fail
        go_region_with (go_at_call 71; refine (HL.out _).mono ?_; rintro e w' ⟨rfl, rfl⟩)
        go_wp2_with fail
        go_roundw
        case rel => exact ⟨k + 1, by have := HLT.out; omega, by go_num, ⟨_, rfl⟩, ⟨_, rfl⟩, Below.setCell (below_dr hB.out) (Nat.le_add_right _ 2) _, blk_set hK.out (by omega), blk_set hR.out (by omega), C1.out _ hC.out⟩
        case measure => have := HLT.out; simp [intOf]; omega
      · -- message 1, letter 1
        have HY : Hid (cs.getD k 2 = ((1 : Nat) : Int)) := Lib.hid (hy.trans ey)
        have HZ : Hid (lt k i = 1) := Lib.hid ez
        rw [ey] at g0
        rw [ez] at HL
        have HN : Hid (l4 cs i (k + 1) = #[.int .i64 (N cs i k 0 0), .int .i64 (N cs i k 0 1), .int .i64 (N cs i k 1 0), .int .i64 (N cs i k 1 1 + 1)]) := Lib.hid (by unfold l4; rw [show N cs i (k + 1) 0 0 = N cs i k 0 0 from N_m HY.out (by decide), show N cs i (k + 1) 0 1 = N cs i k 0 1 from N_m HY.out (by decide), show N cs i (k + 1) 1 0 = N cs i k 1 0 from N_v HZ.out (by decide), show N cs i (k + 1) 1 1 = N cs i k 1 1 + 1 from N_yes HY.out HZ.out])
        have C1 : Hid (∀ W : World, Blk W (w.heap.size + 2) 89 (l4 cs i k) → Blk (W.setCell ⟨w.heap.size + 2, 3, none⟩ (.int .i64 (N cs i k 1 1 + 1))) (w.heap.size + 2) 89 (l4 cs i (k + 1))) := Lib.hid (fun W hW => by
          rw [HN.out]
          have := Joins.block_setCell (i := 3) hW (.int .i64 (N cs i k 1 1 + 1))
          simpa [Blk, l4] using this)
        obtain ⟨q, hq⟩ : ∃ q, N cs i k 1 1 = q := ⟨_, rfl⟩
        have hb := N_le cs i k 1 1
        rw [hq] at hb c3 C1
        have kw : wrap64 (q + 1) = q + 1 := IntWalk.wrap64_in _ (by omega)
        have kw2 : IntKind.i64.wrap (q + 1) = q + 1 := IntWalk.i64_in _ (by omega)
        clear hq hy ey ez
        go_wp2_with fail
        go_region_with (go_at_call 71; refine (HL.out _).mono ?_; rintro e w' ⟨rfl, rfl⟩)
        go_wp2_with fail
        go_roundw
        case rel => exact ⟨k + 1, by have := HLT.out; omega, by go_num, ⟨_, rfl⟩, ⟨_, rfl⟩, Below.setCell (below_dr hB.out) (Nat.le_add_right _ 2) _, blk_set hK.out (by omega), blk_set hR.out (by omega), C1.out _ hC.out⟩
        case measure => have := HLT.out; simp [intOf]; omega
    · have hkz : ¬ (k : Int) < (cs.length : Int) := by omega
      obtain rfl : k = cs.length := by omega
      obtain ⟨c0, c1, c2, c3, c4⟩ := four_cells hC.out
      have hsz : w.heap.size + 2 < wi.heap.size := hC.out.lt
      obtain ⟨W2, hW2⟩ : ∃ W2, wi.alloc (.cells #[.int .i64 0, .int .i64 0] 64) = W2 := ⟨_, rfl⟩
      have B2 : Hid (Below w.heap.size w W2) := Lib.hid (hW2 ▸ below_al hB.out _)
      have R2 : Hid (Blk W2 (w.heap.size + 1) 64 #[.int .i64 0, .int .i64 0]) := Lib.hid (hW2 ▸ hR.out.alloc _)
      have G2 : Hid (Blk W2 wi.heap.size 64 #[.int .i64 0, .int .i64 0]) := Lib.hid (hW2 ▸ Blk.new wi _ _)
      have C2 := Lib.hid (hW2 ▸ hC.out.alloc (.cells #[.int .i64 0, .int .i64 0] 64))
      clear c0 c1 c2 c3 c4
      obtain ⟨c0, c1, c2, c3, c4⟩ := four_cells C2.out
      go_wp2_with fail
      clear c0 c1 c2 c3 c4 hB hR hC hK C2
      go_loopw [9, 10, 31] (fun z9 z10 s wr => ∃ (k : Nat) (z : Int), Hid (k = 0 ∧ z = 0 ∨ k = 1 ∧ z = 1 ∨ k = 2 ∧ z = 2) ∧ s = .int .i64 z ∧ (∃ q, z9 = q) ∧ (∃ q, z10 = q) ∧ Hid (Below w.heap.size w wr) ∧ Hid (Blk wr (w.heap.size + 1) 64 #[.int .i64 0, .int .i64 0]) ∧ Hid (Blk wr wi.heap.size 64 #[.int .i64 (if 0 < k then ((g cs 0 i : Nat) : Int) else 0), .int .i64 (if 1 < k then ((g cs 1 i : Nat) : Int) else 0)])) (fun _ _ s _ => 2 - (intOf s).toNat)
      case atStart => exact ⟨0, 0, .inl ⟨rfl, rfl⟩, rfl, ⟨_, rfl⟩, ⟨_, rfl⟩, B2.out, R2.out, G2.out⟩
      case round =>
        clear B2 R2 G2 hW2
        obtain ⟨k, z, hkz', rfl, ⟨z9, rfl⟩, ⟨z10, rfl⟩, hB, hR, hG⟩ := hrel
        obtain ⟨wj, rfl⟩ : ∃ wj : World, wj = wr := ⟨_, rfl⟩
        have gf : ∀ j, wj.frozen? ⟨wi.heap.size, j, none⟩ = false := fun j => Joins.unfrozen_of_block hG.out j
        have hszj : wi.heap.size < wj.heap.size := hG.out.lt
        have HSZ2 : Hid (w.heap.size + 2 < wi.heap.size) := Lib.hid hsz
        have HSZ : Hid (w.heap.size ≤ wi.heap.size) := Lib.hid (by omega)
        rcases hkz'.out with ⟨rfl, rfl⟩ | ⟨rfl, rfl⟩ | ⟨rfl, rfl⟩
        · have j0 := ix0 (N cs i cs.length 0 0) (N cs i cs.length 0 1) (N cs i cs.length 1 0) (N cs i cs.length 1 1)
          obtain ⟨d0, d1⟩ := prt.two_cells hG.out
          by_cases hgt : c cs 0 i 0 < c cs 0 i 1
          · have dg : decide (N cs i cs.length 0 0 < N cs i cs.length 0 1) = true := decide_eq_true (Int.ofNat_lt.2 hgt)
            have HG := Lib.hid (g_yes hgt)
            clear hgt hkz'
            go_wp2_with fail
            refine ⟨⟨1, 1, .inr (.inl ⟨rfl, rfl⟩), rfl, ⟨_, rfl⟩, ⟨_, rfl⟩, below_al (Below.setCell hB.out (HSZ.out) _) _, (blk_set0 hR.out (by have := HSZ2.out; omega)).alloc _, Blk.alloc ?_ _⟩, by decide⟩
            have := Joins.block_setCell (i := 0) hG.out (.int .i64 1)
            simpa [Blk, HG.out] using this
          · have dg : decide (N cs i cs.length 0 0 < N cs i cs.length 0 1) = false := decide_eq_false (fun h => hgt (Int.ofNat_lt.1 h))
            have HG := Lib.hid (g_no hgt)
            clear hgt hkz'
            go_wp2_with fail
            refine ⟨⟨1, 1, .inr (.inl ⟨rfl, rfl⟩), rfl, ⟨_, rfl⟩, ⟨_, rfl⟩, below_al hB.out _, hR.out.alloc _, Blk.alloc ?_ _⟩, by decide⟩
            have := hG.out
            simpa [Blk, HG.out] using this
        · have j0 := ix1 (N cs i cs.length 0 0) (N cs i cs.length 0 1) (N cs i cs.length 1 0) (N cs i cs.length 1 1)
          obtain ⟨d0, d1⟩ := prt.two_cells hG.out
          by_cases hgt : c cs 1 i 0 < c cs 1 i 1
          · have dg : decide (N cs i cs.length 1 0 < N cs i cs.length 1 1) = true := decide_eq_true (Int.ofNat_lt.2 hgt)
            have HG := Lib.hid (g_yes hgt)
            clear hgt hkz'
            go_wp2_with fail
            refine ⟨⟨2, 2, .inr (.inr ⟨rfl, rfl⟩), rfl, ⟨_, rfl⟩, ⟨_, rfl⟩, below_al (Below.setCell hB.out (HSZ.out) _) _, (blk_set0 hR.out (by have := HSZ2.out; omega)).alloc _, Blk.alloc ?_ _⟩, by decide⟩
            have := Joins.block_setCell (i := 1) hG.out (.int .i64 1)
            simpa [Blk, HG.out] using this
          · have dg : decide (N cs i cs.length 1 0 < N cs i cs.length 1 1) = false := decide_eq_false (fun h => hgt (Int.ofNat_lt.1 h))
            have HG := Lib.hid (g_no hgt)
            clear hgt hkz'
            go_wp2_with fail
            refine ⟨⟨2, 2, .inr (.inr ⟨rfl, rfl⟩), rfl, ⟨_, rfl⟩, ⟨_, rfl⟩, below_al hB.out _, hR.out.alloc _, Blk.alloc ?_ _⟩, by decide⟩
            have := hG.out
            simpa [Blk, HG.out] using this
        · obtain ⟨d0, d1⟩ := prt.two_cells hG.out
          have rf : ∀ j, wj.frozen? ⟨w.heap.size + 1, j, none⟩ = false := fun j => Joins.unfrozen_of_block hR.out j
          obtain ⟨r0, r1⟩ := prt.two_cells hR.out
          have R1 : Hid (Blk ((wj.setCell ⟨w.heap.size + 1, 0, none⟩ (.int .i64 ((g cs 0 i : Nat) : Int))).setCell ⟨w.heap.size + 1, 1, none⟩ (.int .i64 ((g cs 1 i : Nat) : Int))) (w.heap.size + 1) 64 #[.int .i64 ((g cs 0 i : Nat) : Int), .int .i64 ((g cs 1 i : Nat) : Int)]) := Lib.hid (by
            have h1 := Joins.block_setCell (i := 0) hR.out (.int .i64 ((g cs 0 i : Nat) : Int))
            have h2 := Joins.block_setCell (i := 1) h1 (.int .i64 ((g cs 1 i : Nat) : Int))
            simpa [Blk] using h2)
          obtain ⟨e0, e1⟩ := prt.two_cells R1.out
          clear hkz'
          go_wp2_with fail
          refine bodyPost_ret (v := .agg #[.int .i64 ((g cs 0 i : Nat) : Int), .int .i64 ((g cs 1 i : Nat) : Int)]) (by simp [results, Try.results61, go_sem, e0, e1]) rfl ⟨rfl, ?_⟩
          exact Below.setCell (Below.setCell hB.out (Nat.le_succ _) _) (Nat.le_succ _) _

end Go.Proofs.Ytnjaocgciokpaaa.cdg
