/- TrioOf: both sides. -/
import Derived.Test.YtomofmmecpdalaaTto
namespace Go.Proofs.Ytomofmmecpdalaa.ttf
open Go.RowKit Go.Deep Go.Proofs.Ytomofmmecpdalaa.base
open Go.Proofs.Ytomofmmecpdalaa.ints (infoInt infoInts)
open Go.Proofs.Ytomofmmecpdalaa.tri (two_cells)
open Go.Proofs.Ytomofmmecpdalaa.trb (three_cells)
open Go.Proofs.Ytomofmmecpdalaa.grd
open Go.Proofs.Ytomofmmecpdalaa.tvk (Res)
open Go.Proofs.Ytomofmmecpdalaa.trv (okTrio)
open Go.Proofs.Ytomofmmecpdalaa.tto (ND ok_told sl l11of held2f at3z)
open Go.Proofs.Ytomofmmecpdalaa.play (within withinB withinB_yes withinB_no)

def pb (ps : List Int) (i : Nat) : Nat := (ps.getD i 0).toNat
def sp (ps : List Int) (q : Nat) : Nat := 4 * pb ps (q / 4 % 2) + 2 * pb ps (2 + q / 2 % 2) + pb ps (4 + q % 2)
theorem pb_bit {n : Nat} {ps : List Int} (h : within n 0 1 ps) {i : Nat} (hi : i < n) : pb ps i ≤ 1 ∧ ∃ h' : i < ps.length, ps[i] = (pb ps i : Int) := by
  have hl : i < ps.length := by have := h.1; omega
  obtain ⟨h1, h2⟩ := h.2 i hl
  unfold pb
  rw [trn.getD_at hl]
  exact ⟨by omega, hl, by omega⟩
theorem sp_lt {ps : List Int} (h : within 6 0 1 ps) {q : Nat} (_hq : q < 8) : sp ps q < 8 := by
  have h1 := (pb_bit h (show q / 4 % 2 < 6 by omega)).1
  have h2 := (pb_bit h (show 2 + q / 2 % 2 < 6 by omega)).1
  have h3 := (pb_bit h (show 4 + q % 2 < 6 by omega)).1
  unfold sp
  omega
open Classical in
noncomputable def resO (ps : List Int) (wh : Int) : Res := if within 6 0 1 ps ∧ 1 ≤ wh ∧ wh ≤ 1000 then ⟨wh, rows8 (ND (sp ps) wh), true⟩ else Res.zero
theorem resO_yes {ps : List Int} {wh : Int} (h : within 6 0 1 ps ∧ 1 ≤ wh ∧ wh ≤ 1000) : resO ps wh = ⟨wh, rows8 (ND (sp ps) wh), true⟩ := if_pos h
theorem resO_no {ps : List Int} {wh : Int} (h : ¬ (within 6 0 1 ps ∧ 1 ≤ wh ∧ wh ≤ 1000)) : resO ps wh = Res.zero := if_neg h
theorem tot_resO (ps : List Int) (wh : Int) : rws.total (resO ps wh).rows ≤ 1048576 := by
  by_cases h : within 6 0 1 ps ∧ 1 ≤ wh ∧ wh ≤ 1000
  · rw [resO_yes h]; exact tot_rows8 _
  · rw [resO_no h]; simp [Res.zero, rws.total]
theorem ix0 (n0 n1 n2 : Int) (W : World) : (Instr.index 76 (.agg #[.int .i64 n0, .int .i64 n1, .int .i64 n2]) (.int .i64 0)).run Try.prog W = .ok (.int .i64 n0) W := by kernel_rfl
theorem ix1 (n0 n1 n2 : Int) (W : World) : (Instr.index 76 (.agg #[.int .i64 n0, .int .i64 n1, .int .i64 n2]) (.int .i64 1)).run Try.prog W = .ok (.int .i64 n1) W := by kernel_rfl
theorem ix2 (n0 n1 n2 : Int) (W : World) : (Instr.index 76 (.agg #[.int .i64 n0, .int .i64 n1, .int .i64 n2]) (.int .i64 2)).run Try.prog W = .ok (.int .i64 n2) W := by kernel_rfl


theorem answer_is {ps : List Int} (h : within 6 0 1 ps) {q : Nat} (_hq : q < 8) : (.agg #[.int .i64 (((sp ps q : Nat) : Int) / 4 % 2), .int .i64 (((sp ps q : Nat) : Int) / 2 % 2), .int .i64 (((sp ps q : Nat) : Int) % 2)] : Value) = .agg #[.int .i64 (pb ps (q / 4 % 2) : Int), .int .i64 (pb ps (2 + q / 2 % 2) : Int), .int .i64 (pb ps (4 + q % 2) : Int)] := by
  have h1 := (pb_bit h (show q / 4 % 2 < 6 by omega)).1
  have h2 := (pb_bit h (show 2 + q / 2 % 2 < 6 by omega)).1
  have h3 := (pb_bit h (show 4 + q % 2 < 6 by omega)).1
  have e : sp ps q = 4 * pb ps (q / 4 % 2) + 2 * pb ps (2 + q / 2 % 2) + pb ps (4 + q % 2) := rfl
  generalize pb ps (q / 4 % 2) = a at *
  generalize pb ps (2 + q / 2 % 2) = b at *
  generalize pb ps (4 + q % 2) = c at *
  have e1 : ((sp ps q : Nat) : Int) / 4 % 2 = (a : Int) := by omega
  have e2 : ((sp ps q : Nat) : Int) / 2 % 2 = (b : Int) := by omega
  have e3 : ((sp ps q : Nat) : Int) % 2 = (c : Int) := by omega
  rw [e1, e2, e3]
set_option maxHeartbeats 4000000 in
theorem answers (v : Value) (ps : List Int) (q : Nat) (w : World) (h : Ints w v ps) (hok : within 6 0 1 ps) (hq : q < 8) :
    Calls Try.prog 64 #[v, .agg #[.int .i64 ((q : Int) / 4 % 2), .int .i64 ((q : Int) / 2 % 2), .int .i64 ((q : Int) % 2)]] w fun e w' => e = .returned (.agg #[.int .i64 (((sp ps q : Nat) : Int) / 4 % 2), .int .i64 (((sp ps q : Nat) : Int) / 2 % 2), .int .i64 (((sp ps q : Nat) : Int) % 2)]) ∧ Below w.heap.size w w' := by
  rw [answer_is hok hq]
  have hl : ps.length = 6 := by have := hok.1; omega
  obtain ⟨A, b, o, cap, rfl, hcap, hmax, hA, hc⟩ := h.form
  rw [hl]
  obtain rfl := hA (by omega)
  have HC := Lib.hid (fun (i : Nat) (hi : i < 6) => (show w.cell? ⟨b, o + i, none⟩ = some (.int .i64 (pb ps i : Int)) from by
    obtain ⟨_, h1, h2⟩ := pb_bit hok hi
    rw [hc i h1, h2]))
  clear h hc hA hmax hcap hok hl
  obtain ⟨i0, e0⟩ : ∃ i, i = q / 4 % 2 := ⟨_, rfl⟩
  obtain ⟨i1, e1⟩ : ∃ i, i = 2 + q / 2 % 2 := ⟨_, rfl⟩
  obtain ⟨i2, e2⟩ : ∃ i, i = 4 + q % 2 := ⟨_, rfl⟩
  rw [← e0, ← e1, ← e2]
  have hw0 : IntKind.i64.wrap ((q : Int) / 4 % 2) = (i0 : Int) := by rw [IntWalk.i64_in _ (by omega)]; omega
  have hw0' : IntKind.i64.wrap (0 + (q : Int) / 4 % 2) = (i0 : Int) := by rw [IntWalk.i64_in _ (by omega)]; omega
  have hw1 : IntKind.i64.wrap (2 + (q : Int) / 2 % 2) = (i1 : Int) := by rw [IntWalk.i64_in _ (by omega)]; omega
  have hw2 : IntKind.i64.wrap (4 + (q : Int) % 2) = (i2 : Int) := by rw [IntWalk.i64_in _ (by omega)]; omega
  have l0 : (i0 : Int) < 6 := by omega
  have l1 : (i1 : Int) < 6 := by omega
  have l2 : (i2 : Int) < 6 := by omega
  have y0 := HC.out i0 (by omega)
  have y1 := HC.out i1 (by omega)
  have y2 := HC.out i2 (by omega)
  have Y := Lib.hid (And.intro y0 (And.intro y1 y2))
  clear y0 y1 y2 HC e0 e1 e2
  obtain ⟨W0, hW0⟩ : ∃ W, W = ((w.alloc (.cells #[.int .i64 ((q : Int) / 4 % 2), .int .i64 ((q : Int) / 2 % 2), .int .i64 ((q : Int) % 2)] 76)).alloc (.cells #[.int .i64 0, .int .i64 0, .int .i64 0] 76)).alloc (.cells #[.int .i64 0, .int .i64 0, .int .i64 0] 76) := ⟨_, rfl⟩
  have K0 : Hid (Blk W0 (w.heap.size + 1 + 1) 76 #[.int .i64 0, .int .i64 0, .int .i64 0] ∧ Blk W0 (w.heap.size + 1) 76 #[.int .i64 0, .int .i64 0, .int .i64 0] ∧ Below w.heap.size w W0) := Lib.hid (by
    rw [hW0]
    refine ⟨?_, ?_, below_al (below_al (below_al (Below.refl _ _) _) _) _⟩
    · have := Blk.new ((w.alloc (.cells #[.int .i64 ((q : Int) / 4 % 2), .int .i64 ((q : Int) / 2 % 2), .int .i64 ((q : Int) % 2)] 76)).alloc (.cells #[.int .i64 0, .int .i64 0, .int .i64 0] 76)) 76 #[.int .i64 0, .int .i64 0, .int .i64 0]
      simpa using this
    · have := (Blk.new (w.alloc (.cells #[.int .i64 ((q : Int) / 4 % 2), .int .i64 ((q : Int) / 2 % 2), .int .i64 ((q : Int) % 2)] 76)) 76 #[.int .i64 0, .int .i64 0, .int .i64 0]).alloc (.cells #[.int .i64 0, .int .i64 0, .int .i64 0] 76)
      simpa using this)
  have x0 := ix0 ((q : Int) / 4 % 2) ((q : Int) / 2 % 2) ((q : Int) % 2)
  have x1 := ix1 ((q : Int) / 4 % 2) ((q : Int) / 2 % 2) ((q : Int) % 2)
  have x2 := ix2 ((q : Int) / 4 % 2) ((q : Int) / 2 % 2) ((q : Int) % 2)
  go_enter Try.func64, Try.ntmps64
  go_wp2_with fail
  rw [← hW0]
  clear hW0
  go_loopw [9] (fun s wr => ∃ j : Nat, j ≤ 3 ∧ s = .int .i64 j ∧ Hid (Blk wr (w.heap.size + 1 + 1) 76 #[.int .i64 (if 0 < j then (pb ps i0 : Int) else 0), .int .i64 (if 1 < j then (pb ps i1 : Int) else 0), .int .i64 (if 2 < j then (pb ps i2 : Int) else 0)] ∧ Blk wr (w.heap.size + 1) 76 #[.int .i64 0, .int .i64 0, .int .i64 0] ∧ Below w.heap.size w wr)) (fun s _ => 3 - (intOf s).toNat)
  case atStart => exact ⟨0, by omega, rfl, K0⟩
  case round =>
    obtain ⟨j, hj, rfl, hK⟩ := hrel
    clear K0
    obtain ⟨wo, rfl⟩ : ∃ wo : World, wo = wr := ⟨_, rfl⟩
    obtain ⟨y0, y1, y2⟩ := Y.out
    have y0 := below_cell hK.out.2.2 _ _ y0
    have y1 := below_cell hK.out.2.2 _ _ y1
    have y2 := below_cell hK.out.2.2 _ _ y2
    obtain rfl | rfl | rfl | rfl : j = 0 ∨ j = 1 ∨ j = 2 ∨ j = 3 := by omega
    · obtain ⟨g0, g1, g2, gl⟩ := three_cells hK.out.1
      have gf : ∀ k, wo.frozen? ⟨w.heap.size + 1 + 1, k, none⟩ = false := fun k => Joins.unfrozen_of_block hK.out.1 k
      simp only [Nat.reduceLT, Nat.lt_irrefl, if_false] at g0 g1 g2
      have hb : Below (w.heap.size + 1 + 1) wo (wo.setCell ⟨w.heap.size + 1 + 1, 0, none⟩ (.int .i64 (pb ps i0 : Int))) := Below.setCell (Below.refl _ _) (show w.heap.size + 1 + 1 ≤ (⟨w.heap.size + 1 + 1, 0, none⟩ : Addr).block from Nat.le_refl _) _
      have K2 : Hid (Blk (wo.setCell ⟨w.heap.size + 1 + 1, 0, none⟩ (.int .i64 (pb ps i0 : Int))) (w.heap.size + 1 + 1) 76 #[.int .i64 (if 0 < 1 then (pb ps i0 : Int) else 0), .int .i64 (if 1 < 1 then (pb ps i1 : Int) else 0), .int .i64 (if 2 < 1 then (pb ps i2 : Int) else 0)] ∧ Blk (wo.setCell ⟨w.heap.size + 1 + 1, 0, none⟩ (.int .i64 (pb ps i0 : Int))) (w.heap.size + 1) 76 #[.int .i64 0, .int .i64 0, .int .i64 0] ∧ Below w.heap.size w (wo.setCell ⟨w.heap.size + 1 + 1, 0, none⟩ (.int .i64 (pb ps i0 : Int)))) := Lib.hid (by
        refine ⟨?_, hK.out.2.1.belowB hb (by omega), hK.out.2.2.trans (hb.mono (by omega))⟩
        have := Joins.block_setCell (i := 0) hK.out.1 (.int .i64 (pb ps i0 : Int))
        simpa [Blk] using this)
      clear hK hb
      go_wp2_with fail
      go_roundw
      case rel => exact ⟨1, by omega, by rfl, K2⟩
      case measure => simp [intOf]
    · obtain ⟨g0, g1, g2, gl⟩ := three_cells hK.out.1
      have gf : ∀ k, wo.frozen? ⟨w.heap.size + 1 + 1, k, none⟩ = false := fun k => Joins.unfrozen_of_block hK.out.1 k
      simp only [Nat.reduceLT, Nat.lt_irrefl, if_true, if_false] at g0 g1 g2
      have hb : Below (w.heap.size + 1 + 1) wo (wo.setCell ⟨w.heap.size + 1 + 1, 1, none⟩ (.int .i64 (pb ps i1 : Int))) := Below.setCell (Below.refl _ _) (show w.heap.size + 1 + 1 ≤ (⟨w.heap.size + 1 + 1, 1, none⟩ : Addr).block from Nat.le_refl _) _
      have K2 : Hid (Blk (wo.setCell ⟨w.heap.size + 1 + 1, 1, none⟩ (.int .i64 (pb ps i1 : Int))) (w.heap.size + 1 + 1) 76 #[.int .i64 (if 0 < 2 then (pb ps i0 : Int) else 0), .int .i64 (if 1 < 2 then (pb ps i1 : Int) else 0), .int .i64 (if 2 < 2 then (pb ps i2 : Int) else 0)] ∧ Blk (wo.setCell ⟨w.heap.size + 1 + 1, 1, none⟩ (.int .i64 (pb ps i1 : Int))) (w.heap.size + 1) 76 #[.int .i64 0, .int .i64 0, .int .i64 0] ∧ Below w.heap.size w (wo.setCell ⟨w.heap.size + 1 + 1, 1, none⟩ (.int .i64 (pb ps i1 : Int)))) := Lib.hid (by
        refine ⟨?_, hK.out.2.1.belowB hb (by omega), hK.out.2.2.trans (hb.mono (by omega))⟩
        have := Joins.block_setCell (i := 1) hK.out.1 (.int .i64 (pb ps i1 : Int))
        simpa [Blk] using this)
      clear hK hb
      go_wp2_with fail
      go_roundw
      case rel => exact ⟨2, by omega, by rfl, K2⟩
      case measure => simp [intOf]
    · obtain ⟨g0, g1, g2, gl⟩ := three_cells hK.out.1
      have gf : ∀ k, wo.frozen? ⟨w.heap.size + 1 + 1, k, none⟩ = false := fun k => Joins.unfrozen_of_block hK.out.1 k
      simp only [Nat.reduceLT, Nat.lt_irrefl, if_true, if_false] at g0 g1 g2
      have hb : Below (w.heap.size + 1 + 1) wo (wo.setCell ⟨w.heap.size + 1 + 1, 2, none⟩ (.int .i64 (pb ps i2 : Int))) := Below.setCell (Below.refl _ _) (show w.heap.size + 1 + 1 ≤ (⟨w.heap.size + 1 + 1, 2, none⟩ : Addr).block from Nat.le_refl _) _
      have K2 : Hid (Blk (wo.setCell ⟨w.heap.size + 1 + 1, 2, none⟩ (.int .i64 (pb ps i2 : Int))) (w.heap.size + 1 + 1) 76 #[.int .i64 (if 0 < 3 then (pb ps i0 : Int) else 0), .int .i64 (if 1 < 3 then (pb ps i1 : Int) else 0), .int .i64 (if 2 < 3 then (pb ps i2 : Int) else 0)] ∧ Blk (wo.setCell ⟨w.heap.size + 1 + 1, 2, none⟩ (.int .i64 (pb ps i2 : Int))) (w.heap.size + 1) 76 #[.int .i64 0, .int .i64 0, .int .i64 0] ∧ Below w.heap.size w (wo.setCell ⟨w.heap.size + 1 + 1, 2, none⟩ (.int .i64 (pb ps i2 : Int)))) := Lib.hid (by
        refine ⟨?_, hK.out.2.1.belowB hb (by omega), hK.out.2.2.trans (hb.mono (by omega))⟩
        have := Joins.block_setCell (i := 2) hK.out.1 (.int .i64 (pb ps i2 : Int))
        simpa [Blk] using this)
      clear hK hb
      go_wp2_with fail
      go_roundw
      case rel => exact ⟨3, by omega, by rfl, K2⟩
      case measure => simp [intOf]
    · obtain ⟨g0, g1, g2, gl⟩ := three_cells hK.out.1
      obtain ⟨r0, r1, r2, rl⟩ := three_cells hK.out.2.1
      have rf : ∀ k, wo.frozen? ⟨w.heap.size + 1, k, none⟩ = false := fun k => Joins.unfrozen_of_block hK.out.2.1 k
      simp only [Nat.reduceLT, if_true] at g0 g1 g2
      go_wp2_with fail
      refine bodyPost_ret (v := .agg #[.int .i64 (pb ps i0 : Int), .int .i64 (pb ps i1 : Int), .int .i64 (pb ps i2 : Int)]) (by simp [results, Try.results64, go_sem, r0, r1, r2]) rfl ⟨rfl, ?_⟩
      repeat (first | (with_reducible exact hK.out.2.2) | (with_reducible refine Below.setCell ?_ (by simp <;> omega) _))


set_option maxHeartbeats 4000000 in
theorem closure_play (tv : Value) (p0 p1 : Nat) (wh : Int) (s : Nat → Nat) (q c : Nat) (w : World) (hq : q < 8) (hc : c < 8) (h0 : w.cell? ⟨p0, 0, none⟩ = some (.func (.func 64) #[tv] #[])) (h1 : w.cell? ⟨p1, 0, none⟩ = some (.int .i64 wh))
    (ht : ∀ (q : Nat) (W : World), q < 8 → Below w.heap.size w W → Calls Try.prog 64 #[tv, .agg #[.int .i64 ((q : Int) / 4 % 2), .int .i64 ((q : Int) / 2 % 2), .int .i64 ((q : Int) % 2)]] W fun e w' => e = .returned (.agg #[.int .i64 (((s q : Nat) : Int) / 4 % 2), .int .i64 (((s q : Nat) : Int) / 2 % 2), .int .i64 (((s q : Nat) : Int) % 2)]) ∧ Below W.heap.size W w') (hs : ∀ q, q < 8 → s q < 8) :
    Calls Try.prog 101 #[.agg #[.int .i64 ((q : Int) / 4 % 2), .int .i64 ((q : Int) / 2 % 2), .int .i64 ((q : Int) % 2)], .agg #[.int .i64 ((c : Int) / 4 % 2), .int .i64 ((c : Int) / 2 % 2), .int .i64 ((c : Int) % 2)], .pointer (some ⟨p0, 0, none⟩), .pointer (some ⟨p1, 0, none⟩)] w fun e w' => e = .returned (.int .i64 (if c = s q then wh else 0)) ∧ Below w.heap.size w w' := by
  have HP := Lib.hid (fun W (hW : Below w.heap.size w W) => ht q W hq hW)
  have HS := hs q hq
  obtain ⟨W0, hW0⟩ : ∃ W, W = (w.alloc (.cells #[.int .i64 ((q : Int) / 4 % 2), .int .i64 ((q : Int) / 2 % 2), .int .i64 ((q : Int) % 2)] 76)).alloc (.cells #[.int .i64 ((c : Int) / 4 % 2), .int .i64 ((c : Int) / 2 % 2), .int .i64 ((c : Int) % 2)] 76) := ⟨_, rfl⟩
  have Kq : Hid (Blk W0 w.heap.size 76 #[.int .i64 ((q : Int) / 4 % 2), .int .i64 ((q : Int) / 2 % 2), .int .i64 ((q : Int) % 2)]) := Lib.hid (by rw [hW0]; exact (Blk.new _ _ _).alloc _)
  have Kk : Hid (Blk W0 (w.heap.size + 1) 76 #[.int .i64 ((c : Int) / 4 % 2), .int .i64 ((c : Int) / 2 % 2), .int .i64 ((c : Int) % 2)]) := Lib.hid (by
    rw [hW0]
    have := Blk.new (w.alloc (.cells #[.int .i64 ((q : Int) / 4 % 2), .int .i64 ((q : Int) / 2 % 2), .int .i64 ((q : Int) % 2)] 76)) 76 #[.int .i64 ((c : Int) / 4 % 2), .int .i64 ((c : Int) / 2 % 2), .int .i64 ((c : Int) % 2)]
    simpa using this)
  have B0 : Hid (Below w.heap.size w W0) := Lib.hid (by rw [hW0]; exact below_al (below_al (Below.refl _ _) _) _)
  have HX := Lib.hid (And.intro (below_cell B0.out _ _ h0) (below_cell B0.out _ _ h1))
  clear h0 h1 ht hs
  by_cases he : c = s q
  all_goals
    first
      | have de : (((s q : Nat) : Int) / 4 % 2 == (c : Int) / 4 % 2 && ((s q : Nat) : Int) / 2 % 2 == (c : Int) / 2 % 2 && ((s q : Nat) : Int) % 2 == (c : Int) % 2) = true := by rw [he]; simp
        rw [if_pos he]
      | have de : (((s q : Nat) : Int) / 4 % 2 == (c : Int) / 4 % 2 && ((s q : Nat) : Int) / 2 % 2 == (c : Int) / 2 % 2 && ((s q : Nat) : Int) % 2 == (c : Int) % 2) = false := by
          apply Bool.eq_false_iff.2
          intro h
          simp only [Bool.and_eq_true, beq_iff_eq] at h
          omega
        rw [if_neg he]
    generalize s q = sq at *
    clear he
    go_enter Try.func101, Try.ntmps101
    go_wp2_with fail
    rw [← hW0]
    clear hW0
    obtain ⟨q0, q1, q2, _⟩ := three_cells Kq.out
    obtain ⟨k0, k1, k2, _⟩ := three_cells Kk.out
    obtain ⟨x0, x1⟩ := HX.out
    go_region_held3 (fun w' => w'.cell? ⟨w.heap.size, 0, none⟩ = some (.int .i64 ((q : Int) / 4 % 2)) ∧ w'.cell? ⟨w.heap.size, 1, none⟩ = some (.int .i64 ((q : Int) / 2 % 2)) ∧ w'.cell? ⟨w.heap.size, 2, none⟩ = some (.int .i64 ((q : Int) % 2)) ∧ w'.cell? ⟨w.heap.size + 1, 0, none⟩ = some (.int .i64 ((c : Int) / 4 % 2)) ∧ w'.cell? ⟨w.heap.size + 1, 1, none⟩ = some (.int .i64 ((c : Int) / 2 % 2)) ∧ w'.cell? ⟨w.heap.size + 1, 2, none⟩ = some (.int .i64 ((c : Int) % 2)) ∧ w'.cell? ⟨p0, 0, none⟩ = some (.func (.func 64) #[tv] #[]) ∧ Below W0.heap.size W0 w')
      ((refine hld.held7 rfl q0 q1 q2 k0 k1 k2 x0 ?_; repeat (first | (with_reducible exact Below.refl _ _) | (with_reducible refine below_dr ?_) | (with_reducible refine below_tr ?_ (by assumption)))))
      (first | (go_at_call 64; (with_reducible refine (HP.out _ (below_tr B0.out (by repeat (first | (with_reducible exact Below.refl _ _) | (with_reducible refine below_dr ?_) | (with_reducible refine below_tr ?_ (by assumption)))))).mono ?_); rintro e w1 ⟨rfl, hb1⟩))
    have E1 := below_tr (below_dr (Below.refl W0.heap.size W0)) hb1
    have x2 := below_cell E1 _ _ x1
    go_wp2_with fail
    go_ret
    exact ⟨rfl, below_tr B0.out E1⟩

set_option maxHeartbeats 8000000 in
theorem makes_play  (p0 p1 : Nat) (wh : Int) (N : Nat → Nat → Int) (w : World)
    (hnum : ∀ (q c : Nat) (W : World), q < 8 → c < 8 → Below w.heap.size w W → Calls Try.prog 101 #[.agg #[.int .i64 ((q : Int) / 4 % 2), .int .i64 ((q : Int) / 2 % 2), .int .i64 ((q : Int) % 2)], .agg #[.int .i64 ((c : Int) / 4 % 2), .int .i64 ((c : Int) / 2 % 2), .int .i64 ((c : Int) % 2)], .pointer (some ⟨p0, 0, none⟩), .pointer (some ⟨p1, 0, none⟩)] W fun e w' => e = .returned (.int .i64 (N q c)) ∧ Below W.heap.size W w') :
    Calls Try.prog 71 #[.int .i64 wh, .func (.func 101) #[] #[.pointer (some ⟨p0, 0, none⟩), .pointer (some ⟨p1, 0, none⟩)]] w fun e w' => ∃ u, e = .returned (.agg #[.int .i64 wh, u]) ∧ OwnRows w' w.heap.size w'.heap.size u (rows8 N) ∧ Below w.heap.size w w' := by
  have hmk : ∀ W : World, (Instr.makeSlice 33 (.int .i64 8) (.int .i64 8)).run Try.prog W = .ok (.slice (some ⟨W.heap.size, 0, none⟩) 8 8) (W.alloc (.cells (madeCells #[.int .i64 0] 8) 3)) := fun W => by kernel_rfl
  have hmr : ∀ W : World, (Instr.makeSlice 22 (.int .i64 8) (.int .i64 8)).run Try.prog W = .ok (.slice (some ⟨W.heap.size, 0, none⟩) 8 8) (W.alloc (.cells (madeCells #[.slice none 0 0] 8) 33)) := fun W => by kernel_rfl
  have HN := Lib.hid hnum
  clear hnum
  obtain ⟨W0, hW0⟩ : ∃ W, W = (w.alloc (.cells #[.int .i64 0, .slice none 0 0] 27)).alloc (.cells (madeCells #[.slice none 0 0] 8) 33) := ⟨_, rfl⟩
  have K0 : Hid (Blk W0 w.heap.size 27 #[.int .i64 0, .slice none 0 0]) := Lib.hid (by rw [hW0]; exact (Blk.new _ _ _).alloc _)
  have G0 : Hid (Grd w W0 (w.heap.size + 1) (up 0) (fun _ => 0) (Fq N 0 0)) := Lib.hid (by
    have hr : W0.rowIs (w.heap.size + 1) 33 8 (fun _ => .slice none 0 0) := by
      rw [hW0]
      have := World.rowIs_made (w.alloc (.cells #[.int .i64 0, .slice none 0 0] 27)) (.slice none 0 0) 8 33
      simpa using this
    refine ⟨by rw [hW0]; exact below_al (below_al (Below.refl _ _) _) _, by omega, hr.congr (fun i _ => by simp [outer, up]), fun i _ ho => by simp [up] at ho, fun i _ ho => by simp [up] at ho, fun i j _ _ ho => by simp [up] at ho⟩)
  go_enter Try.func71, Try.ntmps71
  go_wp2_with fail
  rw [← hW0]
  clear hW0 hmr
  go_loopw [11] (fun s wr => ∃ q : Nat, q ≤ 8 ∧ s = .int .i64 q ∧ ∃ gs, Hid (Grd w wr (w.heap.size + 1) (up q) gs (Fq N q 0)) ∧ Hid (Blk wr w.heap.size 27 #[.int .i64 0, .slice none 0 0])) (fun s _ => 8 - (intOf s).toNat)
  case atStart => exact ⟨0, by omega, rfl, _, G0, K0⟩
  case round =>
    obtain ⟨q, hq, rfl, gs, hG, hK⟩ := hrel
    clear G0 K0
    obtain ⟨wo, rfl⟩ : ∃ wo : World, wo = wr := ⟨_, rfl⟩
    by_cases hlt : q < 8
    · have hqz : (q : Int) < 8 := by omega
      have al := below_al (Below.refl wo.heap.size wo) (.cells (madeCells #[.int .i64 0] 8) 3)
      have G1 := hG.out.keep al
      have c1 := G1.out.cell hlt
      have f1 := G1.out.frozen q
      have eo : outer (up q) gs q = .slice none 0 0 := by simp [outer, up]
      rw [eo] at c1
      have G2 : Hid (Grd w ((wo.alloc (.cells (madeCells #[.int .i64 0] 8) 3)).setCell ⟨w.heap.size + 1, q, none⟩ (.slice (some ⟨wo.heap.size, 0, none⟩) 8 8)) (w.heap.size + 1) (up (q + 1)) (fun i => if i = q then wo.heap.size else gs i) (Fq N q 0)) := Lib.hid (by
        rw [← upd_up q]
        refine G1.put hlt (by simp [up]) ((World.rowIs_made wo (.int .i64 0) 8 3).congr (fun j _ => by simp only [Fq_zero])) hG.out.out.lt (fun i hi ho => ?_) (fun _ _ _ _ _ => rfl)
        have := (hG.out.row i hi ho).lt
        show gs i ≠ wo.heap.size
        omega)
      have K2 : Hid (Blk ((wo.alloc (.cells (madeCells #[.int .i64 0] 8) 3)).setCell ⟨w.heap.size + 1, q, none⟩ (.slice (some ⟨wo.heap.size, 0, none⟩) 8 8)) w.heap.size 27 #[.int .i64 0, .slice none 0 0]) := Lib.hid ((hK.out.alloc _).belowB (B := w.heap.size + 1) (Below.setCell (Below.refl _ _) (show w.heap.size + 1 ≤ (⟨w.heap.size + 1, q, none⟩ : Addr).block from Nat.le_refl _) _) (by omega))
      have c2 := G2.out.out.cell hlt
      have eo2 : outer (up (q + 1)) (fun i => if i = q then wo.heap.size else gs i) q = .slice (some ⟨wo.heap.size, 0, none⟩) 8 8 := by simp [outer, up]
      rw [eo2] at c2
      clear eo eo2 al G1 hG hK
      go_wp2_with fail
      generalize (wo.alloc (.cells (madeCells #[.int .i64 0] 8) 3)).setCell ⟨w.heap.size + 1, q, none⟩ (.slice (some ⟨wo.heap.size, 0, none⟩) 8 8) = W2 at *
      obtain ⟨gt, hgt⟩ : ∃ gt : Nat → Nat, gt = fun i => if i = q then wo.heap.size else gs i := ⟨_, rfl⟩
      have hgq : wo.heap.size = gt q := by rw [hgt]; simp
      rw [← hgt] at G2
      rw [hgq]
      rw [hgq] at c2
      clear c1 f1 hgt hgq
      go_loopw [23] (fun s wr => ∃ c : Nat, c ≤ 8 ∧ s = .int .i64 c ∧ Hid (Grd w wr (w.heap.size + 1) (up (q + 1)) gt (Fq N q c)) ∧ Hid (Blk wr w.heap.size 27 #[.int .i64 0, .slice none 0 0])) (fun s _ => 8 - (intOf s).toNat)
      case atStart => exact ⟨0, by omega, rfl, G2, K2⟩
      case round =>
        obtain ⟨c, hc, rfl, hG, hK⟩ := hrel
        clear G2 K2 c2
        obtain ⟨wj, rfl⟩ : ∃ wo : World, wo = wr := ⟨_, rfl⟩
        by_cases hlc : c < 8
        · have hcz : (c : Int) < 8 := by omega
          have hon : up (q + 1) q = true := by simp [up]
          have x1 := hG.out.out.cell hlt
          have eo : outer (up (q + 1)) gt q = .slice (some ⟨gt q, 0, none⟩) 8 8 := by simp [outer, hon]
          rw [eo] at x1
          have x2 := (hG.out.row q hlt hon).cell hlc
          have ez : Fq N q c q c = 0 := by simp [Fq]
          simp only [ez] at x2
          have f2 := (hG.out.row q hlt hon).frozen c
          have HA := Lib.hid (fun W => at3z q hlt W)
          have HB := Lib.hid (fun W => at3z c hlc W)
          have HC := Lib.hid (fun (W : World) (hW : Below wj.heap.size wj W) => HN.out q c W hlt hlc (below_tr hG.out.below hW))
          clear eo ez
          go_wp2_with fail
          refine last.start (S := fun w' => w'.cell? ⟨w.heap.size + 1, q, none⟩ = some (.slice (some ⟨gt q, 0, none⟩) 8 8) ∧ w'.cell? ⟨gt q, c, none⟩ = some (.int .i64 0) ∧ w'.frozen? ⟨gt q, c, none⟩ = false ∧ Below wj.heap.size wj w') (L := 12) (by kernel_rfl) ?_
          have hHeld := held2f rfl x1 x2 f2 (below_dr (Below.refl _ _))
          refine last.take (i := 0) (oi := { dst := some 26, op := Op.move (Operand.tmp 5), type := 22, pos := "l11_three.go:122", after := #[], guard := none }) (v := ?v0) rfl (by kernel_rfl) (by kernel_rfl) (by kernel_rfl) (by kernel_rfl) (by decide) (fun _ _ _ h => h) (Or.inl ⟨by rfl, ?y0⟩) hHeld ?r0
          case y0 => (intro w hSw; (try dsimp only at hSw); go_simp; try with_reducible rfl)
          try simp only [Act.put, List.setIfInBounds_toArray, List.set_cons_zero, List.set_cons_succ]
          refine last.take (i := 1) (oi := { dst := some 27, op := Op.move (Operand.tmp 6), type := 3, pos := "l11_three.go:122", after := #[], guard := none }) (v := ?v1) rfl (by kernel_rfl) (by kernel_rfl) (by kernel_rfl) (by kernel_rfl) (by decide) (fun _ _ _ h => h) (Or.inl ⟨by rfl, ?y1⟩) hHeld ?r1
          case y1 => (intro w hSw; (try dsimp only at hSw); go_simp; try with_reducible rfl)
          try simp only [Act.put, List.setIfInBounds_toArray, List.set_cons_zero, List.set_cons_succ]
          refine last.take (i := 2) (oi := { dst := some 28, op := Op.indexAddr 22 (Operand.tmp 26) (Operand.tmp 27), type := 0, pos := "l11_three.go:122", after := #[{ on := 0, ground := Ground.data }, { on := 1, ground := Ground.data }], guard := none }) (v := ?v2) rfl (by kernel_rfl) (by kernel_rfl) (by kernel_rfl) (by kernel_rfl) (by decide) (fun _ _ _ h => h) (Or.inl ⟨by rfl, ?y2⟩) hHeld ?r2
          case y2 => (intro w hSw; (try dsimp only at hSw); go_simp; try with_reducible rfl)
          try simp only [Act.put, List.setIfInBounds_toArray, List.set_cons_zero, List.set_cons_succ]
          refine last.take (i := 3) (oi := { dst := some 29, op := Op.load 33 (Operand.tmp 28), type := 33, pos := "l11_three.go:122", after := #[{ on := 2, ground := Ground.data }], guard := none }) (v := ?v3) rfl (by kernel_rfl) (by kernel_rfl) (by kernel_rfl) (by kernel_rfl) (by decide) (fun _ _ _ h => h) (Or.inl ⟨by rfl, ?y3⟩) hHeld ?r3
          case y3 => (intro w hSw; (try dsimp only at hSw); go_simp; try with_reducible rfl)
          try simp only [Act.put, List.setIfInBounds_toArray, List.set_cons_zero, List.set_cons_succ]
          refine last.take (i := 4) (oi := { dst := some 30, op := Op.move (Operand.tmp 7), type := 3, pos := "l11_three.go:122", after := #[], guard := none }) (v := ?v4) rfl (by kernel_rfl) (by kernel_rfl) (by kernel_rfl) (by kernel_rfl) (by decide) (fun _ _ _ h => h) (Or.inl ⟨by rfl, ?y4⟩) hHeld ?r4
          case y4 => (intro w hSw; (try dsimp only at hSw); go_simp; try with_reducible rfl)
          try simp only [Act.put, List.setIfInBounds_toArray, List.set_cons_zero, List.set_cons_succ]
          refine last.take (i := 5) (oi := { dst := some 31, op := Op.move (Operand.tmp 1), type := 78, pos := "l11_three.go:122", after := #[], guard := none }) (v := ?v5) rfl (by kernel_rfl) (by kernel_rfl) (by kernel_rfl) (by kernel_rfl) (by decide) (fun _ _ _ h => h) (Or.inl ⟨by rfl, ?y5⟩) hHeld ?r5
          case y5 => (intro w hSw; (try dsimp only at hSw); go_simp; try with_reducible rfl)
          try simp only [Act.put, List.setIfInBounds_toArray, List.set_cons_zero, List.set_cons_succ]
          refine last.take (i := 6) (oi := { dst := some 32, op := Op.move (Operand.tmp 6), type := 3, pos := "l11_three.go:122", after := #[], guard := none }) (v := ?v6) rfl (by kernel_rfl) (by kernel_rfl) (by kernel_rfl) (by kernel_rfl) (by decide) (fun _ _ _ h => h) (Or.inl ⟨by rfl, ?y6⟩) hHeld ?r6
          case y6 => (intro w hSw; (try dsimp only at hSw); go_simp; try with_reducible rfl)
          try simp only [Act.put, List.setIfInBounds_toArray, List.set_cons_zero, List.set_cons_succ]
          refine last.take (i := 8) (oi := { dst := some 34, op := Op.move (Operand.tmp 7), type := 3, pos := "l11_three.go:122", after := #[], guard := none }) (v := ?v8) rfl (by kernel_rfl) (by kernel_rfl) (by kernel_rfl) (by kernel_rfl) (by decide) (fun _ _ _ h => h) (Or.inl ⟨by rfl, ?y8⟩) hHeld ?r8
          case y8 => (intro w hSw; (try dsimp only at hSw); go_simp; try with_reducible rfl)
          try simp only [Act.put, List.setIfInBounds_toArray, List.set_cons_zero, List.set_cons_succ]
          refine last.one (i := 7) (o := { dst := some 33, op := Op.call { callee := Callee.value (Operand.func 80), args := #[Operand.tmp 32], argTypes := #[3] }, type := 76, pos := "l11_three.go:122", after := #[{ on := 6, ground := Ground.data }], guard := none }) (by kernel_rfl) rfl (fun K hK => ?_)
          go_simp
          (go_at_call 80; (with_reducible refine (HA.out _).mono ?_); rintro e y0 ⟨rfl, hy0⟩)
          refine hK.out _ _ ?s7 (fun hHeld => ?_)
          case s7 => (try dsimp only); (refine held2f rfl x1 x2 f2 ?_; repeat (first | (with_reducible exact Below.refl _ _) | (with_reducible refine below_dr ?_) | (with_reducible refine below_tr ?_ (by assumption))))
          clear hK K
          try simp only [Act.put, List.setIfInBounds_toArray, List.set_cons_zero, List.set_cons_succ]
          refine last.one (i := 9) (o := { dst := some 35, op := Op.call { callee := Callee.value (Operand.func 80), args := #[Operand.tmp 34], argTypes := #[3] }, type := 76, pos := "l11_three.go:122", after := #[{ on := 8, ground := Ground.data }, { on := 7, ground := Ground.chain }], guard := none }) (by kernel_rfl) rfl (fun K hK => ?_)
          go_simp
          (go_at_call 80; (with_reducible refine (HB.out _).mono ?_); rintro e y1 ⟨rfl, hy1⟩)
          refine hK.out _ _ ?s9 (fun hHeld => ?_)
          case s9 => (try dsimp only); (refine held2f rfl x1 x2 f2 ?_; repeat (first | (with_reducible exact Below.refl _ _) | (with_reducible refine below_dr ?_) | (with_reducible refine below_tr ?_ (by assumption))))
          clear hK K
          try simp only [Act.put, List.setIfInBounds_toArray, List.set_cons_zero, List.set_cons_succ]
          refine last.one (i := 10) (o := { dst := some 36, op := Op.call { callee := Callee.value (Operand.tmp 31), args := #[Operand.tmp 33, Operand.tmp 35], argTypes := #[76, 76] }, type := 3, pos := "l11_three.go:122", after := #[{ on := 5, ground := Ground.data }, { on := 7, ground := Ground.data }, { on := 9, ground := Ground.data }, { on := 9, ground := Ground.chain }], guard := none }) (by kernel_rfl) rfl (fun K hK => ?_)
          go_simp
          (go_at_call 101; (with_reducible refine (HC.out _ (by repeat (first | (with_reducible exact Below.refl _ _) | (with_reducible refine below_dr ?_) | (with_reducible refine below_tr ?_ (by assumption))))).mono ?_); rintro e y2 ⟨rfl, hy2⟩)
          refine hK.out _ _ ?s10 (fun hHeld => ?_)
          case s10 => (try dsimp only); (refine held2f rfl x1 x2 f2 ?_; repeat (first | (with_reducible exact Below.refl _ _) | (with_reducible refine below_dr ?_) | (with_reducible refine below_tr ?_ (by assumption))))
          clear hK K
          try simp only [Act.put, List.setIfInBounds_toArray, List.set_cons_zero, List.set_cons_succ]
          refine last.take (i := 11) (oi := { dst := some 37, op := Op.indexAddr 33 (Operand.tmp 29) (Operand.tmp 30), type := 0, pos := "l11_three.go:122", after := #[{ on := 3, ground := Ground.data }, { on := 4, ground := Ground.data }, { on := 0, ground := Ground.phase }, { on := 1, ground := Ground.phase }, { on := 2, ground := Ground.phase }, { on := 3, ground := Ground.phase }, { on := 4, ground := Ground.phase }, { on := 5, ground := Ground.phase }, { on := 6, ground := Ground.phase }, { on := 7, ground := Ground.phase }, { on := 8, ground := Ground.phase }, { on := 9, ground := Ground.phase }, { on := 10, ground := Ground.phase }], guard := none }) (v := ?v11) rfl (by kernel_rfl) (by kernel_rfl) (by kernel_rfl) (by kernel_rfl) (by decide) (fun _ _ _ h => h) (Or.inl ⟨by rfl, ?y11⟩) hHeld ?r11
          case y11 => (intro w hSw; (try dsimp only at hSw); go_simp; try with_reducible rfl)
          try simp only [Act.put, List.setIfInBounds_toArray, List.set_cons_zero, List.set_cons_succ]
          have E9 : Below wj.heap.size wj y2 := below_tr (below_tr (below_tr (below_dr (Below.refl _ _)) hy0) hy1) hy2
          have G9 := Lib.hid (hG.out.keep E9)
          have K9 := Lib.hid (hK.out.below E9)
          obtain ⟨_, q9, f9, _⟩ := hHeld
          have G10 := Lib.hid (G9.out.store hlt hon (N q c) (F' := Fq N q (c + 1)) (fun i j _ _ _ => Fq_step N q c i j))
          have K10 : Hid (Blk (y2.setCell ⟨gt q, c, none⟩ (.int .i64 (N q c))) w.heap.size 27 #[.int .i64 0, .slice none 0 0]) := Lib.hid (K9.out.belowB (B := w.heap.size + 1) (Below.setCell (Below.refl _ _) (show w.heap.size + 1 ≤ (⟨gt q, c, none⟩ : Addr).block from Nat.le_of_lt (G9.out.ge q hlt hon)) _) (by omega))
          clear x1 x2 f2 hy0 hy1 hy2 E9 G9 K9 hG hK HA HB HC
          refine last.final (o := { dst := none, op := Op.store 3 (Operand.tmp 37) (Operand.tmp 36), type := 0, pos := "l11_three.go:122", after := #[{ on := 11, ground := Ground.data }, { on := 10, ground := Ground.data }, { on := 10, ground := Ground.chain }, { on := 0, ground := Ground.phase }, { on := 1, ground := Ground.phase }, { on := 2, ground := Ground.phase }, { on := 3, ground := Ground.phase }, { on := 4, ground := Ground.phase }, { on := 5, ground := Ground.phase }, { on := 6, ground := Ground.phase }, { on := 7, ground := Ground.phase }, { on := 8, ground := Ground.phase }, { on := 9, ground := Ground.phase }, { on := 10, ground := Ground.phase }], guard := none }) (by kernel_rfl) rfl (fun K hK => ?_)
          go_simp
          refine hK.out _ _ ?_
          clear hK K
          try simp only [Act.put, List.setIfInBounds_toArray, List.set_cons_zero, List.set_cons_succ]
          refine last.done (by kernel_rfl) ?_ _
          generalize y2.setCell ⟨gt q, c, none⟩ (.int .i64 (N q c)) = w5 at *
          go_wp2_with fail
          go_roundw
          case rel => exact ⟨c + 1, by omega, by go_num, G10, K10⟩
          case measure => simp [intOf]; omega
        · have hcz : ¬ (c : Int) < 8 := by omega
          obtain rfl : c = 8 := by omega
          go_wp2_with fail
          go_roundw
          case rel => exact ⟨q + 1, by omega, by go_num, gt, Lib.hid (hG.out.congr (fun i j _ hj ho => Fq_next N q i j hj (by simpa [up] using ho))), hK⟩
          case measure => simp [intOf]; omega
    · have hqz : ¬ (q : Int) < 8 := by omega
      obtain rfl : q = 8 := by omega
      have HO := Lib.hid (hG.out.done (fun i hi => by simpa [up] using hi))
      rw [rows8_congr (fun i j hi _ => Fq_all N i j hi)] at HO
      have HB := Lib.hid hG.out.below
      obtain ⟨r0, r1, rl⟩ := two_cells hK.out
      have rf : ∀ k, wo.frozen? ⟨w.heap.size, k, none⟩ = false := fun k => Joins.unfrozen_of_block hK.out k
      clear hG
      go_wp2_with fail
      refine bodyPost_ret (v := .agg #[.int .i64 wh, .slice (some ⟨w.heap.size + 1, 0, none⟩) 8 8]) (by simp [results, Try.results71, go_sem, r0, r1]) rfl ⟨_, rfl, ?_, ?_⟩
      · have hw : Wrote (fun p => p.block = w.heap.size) wo ((wo.setCell ⟨w.heap.size, 0, none⟩ (.int .i64 wh)).setCell ⟨w.heap.size, 1, none⟩ (.slice (some ⟨w.heap.size + 1, 0, none⟩) 8 8)) := Wrote.setCell (S := fun p => p.block = w.heap.size) (Wrote.setCell (S := fun p => p.block = w.heap.size) (Wrote.refl _ _) rfl _) rfl _
        exact (HO.out.wrote hw (fun p hp => .inl (by have e : p.block = w.heap.size := hp; omega))).mono (by omega) (by simp [World.setCell])
      · exact Below.setCell (Below.setCell HB.out (Nat.le_refl _) _) (Nat.le_refl _) _

set_option maxHeartbeats 4000000 in
theorem told_play (tv : Value) (wh : Int) (s : Nat → Nat) (w : World) (ht : ∀ (q : Nat) (W : World), q < 8 → Below w.heap.size w W → Calls Try.prog 64 #[tv, .agg #[.int .i64 ((q : Int) / 4 % 2), .int .i64 ((q : Int) / 2 % 2), .int .i64 ((q : Int) % 2)]] W fun e w' => e = .returned (.agg #[.int .i64 (((s q : Nat) : Int) / 4 % 2), .int .i64 (((s q : Nat) : Int) / 2 % 2), .int .i64 (((s q : Nat) : Int) % 2)]) ∧ Below W.heap.size W w') (hs : ∀ q, q < 8 → s q < 8) :
    Calls Try.prog 63 #[.int .i64 wh, .func (.func 64) #[tv] #[]] w fun e w' => ∃ u, e = .returned (.agg #[.int .i64 wh, u]) ∧ OwnRows w' w.heap.size w'.heap.size u (rows8 (ND s wh)) ∧ Below w.heap.size w w' := by
  obtain ⟨W0, hW0⟩ : ∃ W, W = ((w.alloc (.cells #[.int .i64 wh] 3)).alloc (.cells #[.func (.func 64) #[tv] #[]] 68)).alloc (.cells #[.int .i64 0, .slice none 0 0] 27) := ⟨_, rfl⟩
  have K0 : Hid (Blk W0 w.heap.size 3 #[.int .i64 wh]) := Lib.hid (by rw [hW0]; exact ((Blk.new _ _ _).alloc _).alloc _)
  have K1 : Hid (Blk W0 (w.heap.size + 1) 68 #[.func (.func 64) #[tv] #[]]) := Lib.hid (by
    rw [hW0]
    have := (Blk.new (w.alloc (.cells #[.int .i64 wh] 3)) 68 #[.func (.func 64) #[tv] #[]]).alloc (.cells #[.int .i64 0, .slice none 0 0] 27)
    simpa using this)
  have K2 : Hid (Blk W0 (w.heap.size + 1 + 1) 27 #[.int .i64 0, .slice none 0 0]) := Lib.hid (by
    rw [hW0]
    have := Blk.new ((w.alloc (.cells #[.int .i64 wh] 3)).alloc (.cells #[.func (.func 64) #[tv] #[]] 68)) 27 #[.int .i64 0, .slice none 0 0]
    simpa using this)
  have B0 : Hid (Below w.heap.size w W0) := Lib.hid (by rw [hW0]; exact below_al (below_al (below_al (Below.refl _ _) _) _) _)
  have c0 : W0.cell? ⟨w.heap.size, 0, none⟩ = some (.int .i64 wh) := by have := Joins.cell_of_block K0.out 0; rw [this]; rfl
  have c1 : W0.cell? ⟨w.heap.size + 1, 0, none⟩ = some (.func (.func 64) #[tv] #[]) := by have := Joins.cell_of_block K1.out 0; rw [this]; rfl
  have HM := Lib.hid (makes_play (w.heap.size + 1) w.heap.size wh (ND s wh) W0 (fun q c W hq hc hW => closure_play tv (w.heap.size + 1) w.heap.size wh s q c W hq hc (below_cell hW _ _ c1) (below_cell hW _ _ c0) (fun q W' hq hW' => ht q W' hq (below_tr B0.out (below_tr hW hW'))) hs))
  clear ht hs c1
  rw [hW0] at c0
  go_enter Try.func63, Try.ntmps63
  go_wp2_with fail
  rw [← hW0]
  clear hW0 c0
  refine HM.out.mono ?_
  rintro e w1 ⟨u, rfl, hu, hb⟩
  obtain ⟨ua, un, uc, rfl⟩ := hu.rows.shape
  have R1 := Lib.hid (K2.out.below hb)
  have U1 := Lib.hid hu
  have B1 := Lib.hid (below_tr B0.out hb)
  have Z1 : Hid (w.heap.size + 1 + 1 < W0.heap.size) := Lib.hid K2.out.lt
  obtain ⟨r0, r1, rl⟩ := two_cells R1.out
  have rf : ∀ k, w1.frozen? ⟨w.heap.size + 1 + 1, k, none⟩ = false := fun k => Joins.unfrozen_of_block R1.out k
  clear hu hb HM
  go_wp2_with fail
  refine bodyPost_ret (v := .agg #[.int .i64 wh, .slice ua un uc]) (by simp [results, Try.results63, go_sem, r0, r1]) rfl ⟨_, rfl, ?_, ?_⟩
  · have hw : Wrote (fun p => p.block = w.heap.size + 1 + 1) w1 ((w1.setCell ⟨w.heap.size + 1 + 1, 0, none⟩ (.int .i64 wh)).setCell ⟨w.heap.size + 1 + 1, 1, none⟩ (.slice ua un uc)) := Wrote.setCell (S := fun p => p.block = w.heap.size + 1 + 1) (Wrote.setCell (S := fun p => p.block = w.heap.size + 1 + 1) (Wrote.refl _ _) rfl _) rfl _
    exact (U1.out.wrote hw (fun p hp => .inl (by have e : p.block = w.heap.size + 1 + 1 := hp; have := Z1.out; omega))).mono (by have := Z1.out; omega) (by simp [World.setCell])
  · exact Below.setCell (Below.setCell B1.out (show w.heap.size ≤ w.heap.size + 1 + 1 by omega) _) (show w.heap.size ≤ w.heap.size + 1 + 1 by omega) _


set_option maxHeartbeats 4000000 in
theorem impl_any (v : Value) (ps : List Int) (wh : Int) (w : World) (h : Ints w v ps) :
    Calls Try.prog 24 #[v, .int .i64 wh] w fun e w' => ∃ u, e = .returned (.tuple #[.agg #[.int .i64 (resO ps wh).wh, u], .bool (resO ps wh).ok]) ∧ OwnRows w' w.heap.size w'.heap.size u (resO ps wh).rows ∧ Below w.heap.size w w' := by
  obtain ⟨va, vn, vc, rfl⟩ := h.shape
  obtain ⟨W0, hW0⟩ : ∃ W, W = w.alloc (.cells #[.int .i64 0, .slice none 0 0] 27) := ⟨_, rfl⟩
  have Kr : Hid (Blk W0 w.heap.size 27 #[.int .i64 0, .slice none 0 0]) := Lib.hid (by rw [hW0]; exact Blk.new _ _ _)
  have B0 : Hid (Below w.heap.size w W0) := Lib.hid (by rw [hW0]; exact below_al (Below.refl _ _) _)
  have HI := Lib.hid (h.below B0.out)
  have HBT := play.impl_bits _ ps 6 W0 HI.out
  obtain ⟨r0, r1, rl⟩ := two_cells Kr.out
  have rf : ∀ k, W0.frozen? ⟨w.heap.size, k, none⟩ = false := fun k => Joins.unfrozen_of_block Kr.out k
  clear h
  by_cases hok : within 6 0 1 ps
  · rw [withinB_yes hok] at HBT
    have HB' := Lib.hid HBT
    have HOK := Lib.hid hok
    have HM := Lib.hid (told_play (.slice va vn vc) wh (sp ps) W0 (fun q W hq hW => answers _ ps q W (HI.out.below hW) hok hq) (fun q hq => sp_lt hok hq))
    have HOT := Lib.hid (ok_told (wh := wh) (fun q hq => sp_lt hok hq))
    clear HBT hok
    go_enter Try.func24, Try.ntmps24
    go_wp2_with fail
    rw [← hW0]
    clear hW0
    refine HB'.out.mono ?_
    rintro e w' ⟨rfl, rfl⟩
    clear r0 r1 rl rf
    go_wp2_with fail
    refine HM.out.mono ?_
    rintro e w1 ⟨u, rfl, hu, hb⟩
    obtain ⟨ua, un, uc, rfl⟩ := hu.rows.shape
    by_cases hw : 1 ≤ wh ∧ wh ≤ 1000
    · have HV := Lib.hid (tvk.valid_yes wh _ _ w1 hu.rows (tot_rows8 _) (HOT.out.2 hw))
      have HR := Lib.hid (resO_yes ⟨HOK.out, hw⟩)
      have U1 := Lib.hid hu
      have B1 := Lib.hid hb
      clear hu hb HM hw
      go_wp2_with fail
      refine HV.out.mono ?_
      rintro e w2 ⟨rfl, hb2⟩
      have K1 := Lib.hid (Kr.out.below (below_tr B1.out hb2))
      have U2 := Lib.hid (U1.out.keep hb2)
      have B2 := Lib.hid (below_tr B0.out (below_tr B1.out hb2))
      have Z1 : Hid (w.heap.size < W0.heap.size ∧ w1.heap.size ≤ w2.heap.size) := Lib.hid ⟨Kr.out.lt, hb2.size⟩
      obtain ⟨r0, r1, rl⟩ := two_cells K1.out
      have rf : ∀ k, w2.frozen? ⟨w.heap.size, k, none⟩ = false := fun k => Joins.unfrozen_of_block K1.out k
      clear hb2 HV U1
      go_wp2_with fail
      refine bodyPost_ret (v := .tuple #[.agg #[.int .i64 wh, .slice ua un uc], .bool true]) (by simp [results, Try.results24, go_sem, r0, r1]) rfl ?_
      rw [HR.out]
      refine ⟨_, rfl, ?_, ?_⟩
      · have hw : Wrote (fun p => p.block = w.heap.size) w2 ((w2.setCell ⟨w.heap.size, 0, none⟩ (.int .i64 wh)).setCell ⟨w.heap.size, 1, none⟩ (.slice ua un uc)) := Wrote.setCell (S := fun p => p.block = w.heap.size) (Wrote.setCell (S := fun p => p.block = w.heap.size) (Wrote.refl _ _) rfl _) rfl _
        exact (U2.out.wrote hw (fun p hp => .inl (by have e : p.block = w.heap.size := hp; have := Z1.out.1; omega))).mono (by have := Z1.out.1; omega) (by have := Z1.out.2; simp [World.setCell]; omega)
      · exact Below.setCell (Below.setCell B2.out (Nat.le_refl _) _) (Nat.le_refl _) _
    · have HV := Lib.hid (tvk.valid_no wh _ _ w1 hu.rows (tot_rows8 _) (fun h => hw (HOT.out.1 h)))
      have HR := Lib.hid (resO_no (ps := ps) (wh := wh) (fun h => hw h.2))
      have B1 := Lib.hid hb
      clear hu hb HM hw
      go_wp2_with fail
      refine HV.out.mono ?_
      rintro e w2 ⟨rfl, hb2⟩
      have K1 := Lib.hid (Kr.out.below (below_tr B1.out hb2))
      have B2 := Lib.hid (below_tr B0.out (below_tr B1.out hb2))
      obtain ⟨r0, r1, rl⟩ := two_cells K1.out
      have rf : ∀ k, w2.frozen? ⟨w.heap.size, k, none⟩ = false := fun k => Joins.unfrozen_of_block K1.out k
      clear hb2 HV
      go_wp2_with fail
      refine bodyPost_ret (v := .tuple #[.agg #[.int .i64 0, .slice none 0 0], .bool false]) (by simp [results, Try.results24, go_sem, r0, r1]) rfl ?_
      rw [HR.out]
      refine ⟨_, rfl, OwnRows.nil _ _ _, ?_⟩
      exact Below.setCell (Below.setCell B2.out (Nat.le_refl _) _) (Nat.le_refl _) _
  · rw [withinB_no hok] at HBT
    rw [resO_no (fun h => hok h.1)]
    have HB' := Lib.hid HBT
    clear HBT hok
    go_enter Try.func24, Try.ntmps24
    go_wp2_with fail
    rw [← hW0]
    clear hW0
    refine HB'.out.mono ?_
    rintro e w' ⟨rfl, rfl⟩
    go_wp2_with fail
    refine bodyPost_ret (v := .tuple #[.agg #[.int .i64 0, .slice none 0 0], .bool false]) (by simp [results, Try.results24, go_sem, r0, r1]) rfl ⟨_, rfl, OwnRows.nil _ _ _, ?_⟩
    exact Below.setCell (Below.setCell B0.out (Nat.le_refl _) _) (Nat.le_refl _) _

/-! ### the model -/

set_option maxHeartbeats 8000000 in
theorem says (v : Value) (ps : List Int) (q : Nat) (w : World) (h : Ints w v ps) (hok : within 6 0 1 ps) (hq : q < 8) :
    Calls Try.prog 87 #[v, .int .i64 (q : Int)] w fun e w' => e = .returned (.int .i64 (sp ps q : Int)) ∧ Below w.heap.size w w' := by
  have hl : ps.length = 6 := by have := hok.1; omega
  obtain ⟨A, b, o, cap, rfl, hcap, hmax, hA, hc⟩ := h.form
  rw [hl]
  obtain rfl := hA (by omega)
  have HC := Lib.hid (fun (i : Nat) (hi : i < 6) => (show pb ps i ≤ 1 ∧ w.cell? ⟨b, o + i, none⟩ = some (.int .i64 (pb ps i : Int)) from by
    obtain ⟨h0, h1, h2⟩ := pb_bit hok hi
    exact ⟨h0, by rw [hc i h1, h2]⟩))
  clear h hc hA hmax hcap hok hl
  obtain rfl | rfl | rfl | rfl | rfl | rfl | rfl | rfl : q = 0 ∨ q = 1 ∨ q = 2 ∨ q = 3 ∨ q = 4 ∨ q = 5 ∨ q = 6 ∨ q = 7 := by omega
  · have e : sp ps 0 = 4 * pb ps 0 + 2 * pb ps 2 + pb ps 4 := rfl
    obtain ⟨a0, x0⟩ := HC.out 0 (by omega)
    obtain ⟨a1, x1⟩ := HC.out 2 (by omega)
    obtain ⟨a2, x2⟩ := HC.out 4 (by omega)
    rw [e]
    clear e
    generalize pb ps 0 = a at *
    generalize pb ps 2 = b' at *
    generalize pb ps 4 = c at *
    have w1 : IntKind.i64.wrap (4 * (a : Int)) = 4 * (a : Int) := IntWalk.i64_in _ (by omega)
    have w2 : IntKind.i64.wrap (2 * (b' : Int)) = 2 * (b' : Int) := IntWalk.i64_in _ (by omega)
    have w3 : IntKind.i64.wrap (4 * (a : Int) + 2 * (b' : Int)) = 4 * (a : Int) + 2 * (b' : Int) := IntWalk.i64_in _ (by omega)
    have w4 : IntKind.i64.wrap (4 * (a : Int) + 2 * (b' : Int) + (c : Int)) = 4 * (a : Int) + 2 * (b' : Int) + (c : Int) := IntWalk.i64_in _ (by omega)
    have hA0 : bits BinOp.and IntKind.i64 0 1 = 0 := rfl
    have hA1 : bits BinOp.and IntKind.i64 0 1 = 0 := rfl
    have hA2 : IntKind.i64.wrap (2 + 0) = 2 := rfl
    have hA3 : IntKind.i64.wrap (4 + 0) = 4 := rfl
    have hA4 : IntKind.i64.wrap 2 = 2 := rfl
    have hA5 : IntKind.i64.wrap 4 = 4 := rfl
    simp only [Nat.add_zero] at x0
    clear HC hq
    go_enter Try.func87, Try.ntmps87
    go_wp2_with fail
    go_region_held3 (fun w' => w'.cell? ⟨b, o, none⟩ = some (.int .i64 (a : Int)) ∧ w'.cell? ⟨b, o + 2, none⟩ = some (.int .i64 (b' : Int)) ∧ w'.cell? ⟨b, o + 4, none⟩ = some (.int .i64 (c : Int)) ∧ Below w.heap.size w w')
      ((refine ⟨below_cell ?_ _ _ x0, below_cell ?_ _ _ x1, below_cell ?_ _ _ x2, ?_⟩; all_goals (repeat (first | (with_reducible exact Below.refl _ _) | (with_reducible refine below_dr ?_) | (with_reducible refine below_tr ?_ (by assumption))))))
      (fail)
    go_wp2_with fail
    go_ret
    exact ⟨ints.ret_int (by simp), (Below.refl _ _).drew⟩
  · have e : sp ps 1 = 4 * pb ps 0 + 2 * pb ps 2 + pb ps 5 := rfl
    obtain ⟨a0, x0⟩ := HC.out 0 (by omega)
    obtain ⟨a1, x1⟩ := HC.out 2 (by omega)
    obtain ⟨a2, x2⟩ := HC.out 5 (by omega)
    rw [e]
    clear e
    generalize pb ps 0 = a at *
    generalize pb ps 2 = b' at *
    generalize pb ps 5 = c at *
    have w1 : IntKind.i64.wrap (4 * (a : Int)) = 4 * (a : Int) := IntWalk.i64_in _ (by omega)
    have w2 : IntKind.i64.wrap (2 * (b' : Int)) = 2 * (b' : Int) := IntWalk.i64_in _ (by omega)
    have w3 : IntKind.i64.wrap (4 * (a : Int) + 2 * (b' : Int)) = 4 * (a : Int) + 2 * (b' : Int) := IntWalk.i64_in _ (by omega)
    have w4 : IntKind.i64.wrap (4 * (a : Int) + 2 * (b' : Int) + (c : Int)) = 4 * (a : Int) + 2 * (b' : Int) + (c : Int) := IntWalk.i64_in _ (by omega)
    have hA0 : bits BinOp.and IntKind.i64 0 1 = 0 := rfl
    have hA1 : bits BinOp.and IntKind.i64 1 1 = 1 := rfl
    have hA2 : IntKind.i64.wrap (2 + 0) = 2 := rfl
    have hA3 : IntKind.i64.wrap (4 + 1) = 5 := rfl
    have hA4 : IntKind.i64.wrap 2 = 2 := rfl
    have hA5 : IntKind.i64.wrap 5 = 5 := rfl
    simp only [Nat.add_zero] at x0
    clear HC hq
    go_enter Try.func87, Try.ntmps87
    go_wp2_with fail
    go_region_held3 (fun w' => w'.cell? ⟨b, o, none⟩ = some (.int .i64 (a : Int)) ∧ w'.cell? ⟨b, o + 2, none⟩ = some (.int .i64 (b' : Int)) ∧ w'.cell? ⟨b, o + 5, none⟩ = some (.int .i64 (c : Int)) ∧ Below w.heap.size w w')
      ((refine ⟨below_cell ?_ _ _ x0, below_cell ?_ _ _ x1, below_cell ?_ _ _ x2, ?_⟩; all_goals (repeat (first | (with_reducible exact Below.refl _ _) | (with_reducible refine below_dr ?_) | (with_reducible refine below_tr ?_ (by assumption))))))
      (fail)
    go_wp2_with fail
    go_ret
    exact ⟨ints.ret_int (by simp), (Below.refl _ _).drew⟩
  · have e : sp ps 2 = 4 * pb ps 0 + 2 * pb ps 3 + pb ps 4 := rfl
    obtain ⟨a0, x0⟩ := HC.out 0 (by omega)
    obtain ⟨a1, x1⟩ := HC.out 3 (by omega)
    obtain ⟨a2, x2⟩ := HC.out 4 (by omega)
    rw [e]
    clear e
    generalize pb ps 0 = a at *
    generalize pb ps 3 = b' at *
    generalize pb ps 4 = c at *
    have w1 : IntKind.i64.wrap (4 * (a : Int)) = 4 * (a : Int) := IntWalk.i64_in _ (by omega)
    have w2 : IntKind.i64.wrap (2 * (b' : Int)) = 2 * (b' : Int) := IntWalk.i64_in _ (by omega)
    have w3 : IntKind.i64.wrap (4 * (a : Int) + 2 * (b' : Int)) = 4 * (a : Int) + 2 * (b' : Int) := IntWalk.i64_in _ (by omega)
    have w4 : IntKind.i64.wrap (4 * (a : Int) + 2 * (b' : Int) + (c : Int)) = 4 * (a : Int) + 2 * (b' : Int) + (c : Int) := IntWalk.i64_in _ (by omega)
    have hA0 : bits BinOp.and IntKind.i64 1 1 = 1 := rfl
    have hA1 : bits BinOp.and IntKind.i64 2 1 = 0 := rfl
    have hA2 : IntKind.i64.wrap (2 + 1) = 3 := rfl
    have hA3 : IntKind.i64.wrap (4 + 0) = 4 := rfl
    have hA4 : IntKind.i64.wrap 3 = 3 := rfl
    have hA5 : IntKind.i64.wrap 4 = 4 := rfl
    simp only [Nat.add_zero] at x0
    clear HC hq
    go_enter Try.func87, Try.ntmps87
    go_wp2_with fail
    go_region_held3 (fun w' => w'.cell? ⟨b, o, none⟩ = some (.int .i64 (a : Int)) ∧ w'.cell? ⟨b, o + 3, none⟩ = some (.int .i64 (b' : Int)) ∧ w'.cell? ⟨b, o + 4, none⟩ = some (.int .i64 (c : Int)) ∧ Below w.heap.size w w')
      ((refine ⟨below_cell ?_ _ _ x0, below_cell ?_ _ _ x1, below_cell ?_ _ _ x2, ?_⟩; all_goals (repeat (first | (with_reducible exact Below.refl _ _) | (with_reducible refine below_dr ?_) | (with_reducible refine below_tr ?_ (by assumption))))))
      (fail)
    go_wp2_with fail
    go_ret
    exact ⟨ints.ret_int (by simp), (Below.refl _ _).drew⟩
  · have e : sp ps 3 = 4 * pb ps 0 + 2 * pb ps 3 + pb ps 5 := rfl
    obtain ⟨a0, x0⟩ := HC.out 0 (by omega)
    obtain ⟨a1, x1⟩ := HC.out 3 (by omega)
    obtain ⟨a2, x2⟩ := HC.out 5 (by omega)
    rw [e]
    clear e
    generalize pb ps 0 = a at *
    generalize pb ps 3 = b' at *
    generalize pb ps 5 = c at *
    have w1 : IntKind.i64.wrap (4 * (a : Int)) = 4 * (a : Int) := IntWalk.i64_in _ (by omega)
    have w2 : IntKind.i64.wrap (2 * (b' : Int)) = 2 * (b' : Int) := IntWalk.i64_in _ (by omega)
    have w3 : IntKind.i64.wrap (4 * (a : Int) + 2 * (b' : Int)) = 4 * (a : Int) + 2 * (b' : Int) := IntWalk.i64_in _ (by omega)
    have w4 : IntKind.i64.wrap (4 * (a : Int) + 2 * (b' : Int) + (c : Int)) = 4 * (a : Int) + 2 * (b' : Int) + (c : Int) := IntWalk.i64_in _ (by omega)
    have hA0 : bits BinOp.and IntKind.i64 1 1 = 1 := rfl
    have hA1 : bits BinOp.and IntKind.i64 3 1 = 1 := rfl
    have hA2 : IntKind.i64.wrap (2 + 1) = 3 := rfl
    have hA3 : IntKind.i64.wrap (4 + 1) = 5 := rfl
    have hA4 : IntKind.i64.wrap 3 = 3 := rfl
    have hA5 : IntKind.i64.wrap 5 = 5 := rfl
    simp only [Nat.add_zero] at x0
    clear HC hq
    go_enter Try.func87, Try.ntmps87
    go_wp2_with fail
    go_region_held3 (fun w' => w'.cell? ⟨b, o, none⟩ = some (.int .i64 (a : Int)) ∧ w'.cell? ⟨b, o + 3, none⟩ = some (.int .i64 (b' : Int)) ∧ w'.cell? ⟨b, o + 5, none⟩ = some (.int .i64 (c : Int)) ∧ Below w.heap.size w w')
      ((refine ⟨below_cell ?_ _ _ x0, below_cell ?_ _ _ x1, below_cell ?_ _ _ x2, ?_⟩; all_goals (repeat (first | (with_reducible exact Below.refl _ _) | (with_reducible refine below_dr ?_) | (with_reducible refine below_tr ?_ (by assumption))))))
      (fail)
    go_wp2_with fail
    go_ret
    exact ⟨ints.ret_int (by simp), (Below.refl _ _).drew⟩
  · have e : sp ps 4 = 4 * pb ps 1 + 2 * pb ps 2 + pb ps 4 := rfl
    obtain ⟨a0, x0⟩ := HC.out 1 (by omega)
    obtain ⟨a1, x1⟩ := HC.out 2 (by omega)
    obtain ⟨a2, x2⟩ := HC.out 4 (by omega)
    rw [e]
    clear e
    generalize pb ps 1 = a at *
    generalize pb ps 2 = b' at *
    generalize pb ps 4 = c at *
    have w1 : IntKind.i64.wrap (4 * (a : Int)) = 4 * (a : Int) := IntWalk.i64_in _ (by omega)
    have w2 : IntKind.i64.wrap (2 * (b' : Int)) = 2 * (b' : Int) := IntWalk.i64_in _ (by omega)
    have w3 : IntKind.i64.wrap (4 * (a : Int) + 2 * (b' : Int)) = 4 * (a : Int) + 2 * (b' : Int) := IntWalk.i64_in _ (by omega)
    have w4 : IntKind.i64.wrap (4 * (a : Int) + 2 * (b' : Int) + (c : Int)) = 4 * (a : Int) + 2 * (b' : Int) + (c : Int) := IntWalk.i64_in _ (by omega)
    have hA0 : bits BinOp.and IntKind.i64 2 1 = 0 := rfl
    have hA1 : bits BinOp.and IntKind.i64 4 1 = 0 := rfl
    have hA2 : IntKind.i64.wrap (2 + 0) = 2 := rfl
    have hA3 : IntKind.i64.wrap (4 + 0) = 4 := rfl
    have hA4 : IntKind.i64.wrap 2 = 2 := rfl
    have hA5 : IntKind.i64.wrap 4 = 4 := rfl
    clear HC hq
    go_enter Try.func87, Try.ntmps87
    go_wp2_with fail
    go_region_held3 (fun w' => w'.cell? ⟨b, o + 1, none⟩ = some (.int .i64 (a : Int)) ∧ w'.cell? ⟨b, o + 2, none⟩ = some (.int .i64 (b' : Int)) ∧ w'.cell? ⟨b, o + 4, none⟩ = some (.int .i64 (c : Int)) ∧ Below w.heap.size w w')
      ((refine ⟨below_cell ?_ _ _ x0, below_cell ?_ _ _ x1, below_cell ?_ _ _ x2, ?_⟩; all_goals (repeat (first | (with_reducible exact Below.refl _ _) | (with_reducible refine below_dr ?_) | (with_reducible refine below_tr ?_ (by assumption))))))
      (fail)
    go_wp2_with fail
    go_ret
    exact ⟨ints.ret_int (by simp), (Below.refl _ _).drew⟩
  · have e : sp ps 5 = 4 * pb ps 1 + 2 * pb ps 2 + pb ps 5 := rfl
    obtain ⟨a0, x0⟩ := HC.out 1 (by omega)
    obtain ⟨a1, x1⟩ := HC.out 2 (by omega)
    obtain ⟨a2, x2⟩ := HC.out 5 (by omega)
    rw [e]
    clear e
    generalize pb ps 1 = a at *
    generalize pb ps 2 = b' at *
    generalize pb ps 5 = c at *
    have w1 : IntKind.i64.wrap (4 * (a : Int)) = 4 * (a : Int) := IntWalk.i64_in _ (by omega)
    have w2 : IntKind.i64.wrap (2 * (b' : Int)) = 2 * (b' : Int) := IntWalk.i64_in _ (by omega)
    have w3 : IntKind.i64.wrap (4 * (a : Int) + 2 * (b' : Int)) = 4 * (a : Int) + 2 * (b' : Int) := IntWalk.i64_in _ (by omega)
    have w4 : IntKind.i64.wrap (4 * (a : Int) + 2 * (b' : Int) + (c : Int)) = 4 * (a : Int) + 2 * (b' : Int) + (c : Int) := IntWalk.i64_in _ (by omega)
    have hA0 : bits BinOp.and IntKind.i64 2 1 = 0 := rfl
    have hA1 : bits BinOp.and IntKind.i64 5 1 = 1 := rfl
    have hA2 : IntKind.i64.wrap (2 + 0) = 2 := rfl
    have hA3 : IntKind.i64.wrap (4 + 1) = 5 := rfl
    have hA4 : IntKind.i64.wrap 2 = 2 := rfl
    have hA5 : IntKind.i64.wrap 5 = 5 := rfl
    clear HC hq
    go_enter Try.func87, Try.ntmps87
    go_wp2_with fail
    go_region_held3 (fun w' => w'.cell? ⟨b, o + 1, none⟩ = some (.int .i64 (a : Int)) ∧ w'.cell? ⟨b, o + 2, none⟩ = some (.int .i64 (b' : Int)) ∧ w'.cell? ⟨b, o + 5, none⟩ = some (.int .i64 (c : Int)) ∧ Below w.heap.size w w')
      ((refine ⟨below_cell ?_ _ _ x0, below_cell ?_ _ _ x1, below_cell ?_ _ _ x2, ?_⟩; all_goals (repeat (first | (with_reducible exact Below.refl _ _) | (with_reducible refine below_dr ?_) | (with_reducible refine below_tr ?_ (by assumption))))))
      (fail)
    go_wp2_with fail
    go_ret
    exact ⟨ints.ret_int (by simp), (Below.refl _ _).drew⟩
  · have e : sp ps 6 = 4 * pb ps 1 + 2 * pb ps 3 + pb ps 4 := rfl
    obtain ⟨a0, x0⟩ := HC.out 1 (by omega)
    obtain ⟨a1, x1⟩ := HC.out 3 (by omega)
    obtain ⟨a2, x2⟩ := HC.out 4 (by omega)
    rw [e]
    clear e
    generalize pb ps 1 = a at *
    generalize pb ps 3 = b' at *
    generalize pb ps 4 = c at *
    have w1 : IntKind.i64.wrap (4 * (a : Int)) = 4 * (a : Int) := IntWalk.i64_in _ (by omega)
    have w2 : IntKind.i64.wrap (2 * (b' : Int)) = 2 * (b' : Int) := IntWalk.i64_in _ (by omega)
    have w3 : IntKind.i64.wrap (4 * (a : Int) + 2 * (b' : Int)) = 4 * (a : Int) + 2 * (b' : Int) := IntWalk.i64_in _ (by omega)
    have w4 : IntKind.i64.wrap (4 * (a : Int) + 2 * (b' : Int) + (c : Int)) = 4 * (a : Int) + 2 * (b' : Int) + (c : Int) := IntWalk.i64_in _ (by omega)
    have hA0 : bits BinOp.and IntKind.i64 3 1 = 1 := rfl
    have hA1 : bits BinOp.and IntKind.i64 6 1 = 0 := rfl
    have hA2 : IntKind.i64.wrap (2 + 1) = 3 := rfl
    have hA3 : IntKind.i64.wrap (4 + 0) = 4 := rfl
    have hA4 : IntKind.i64.wrap 3 = 3 := rfl
    have hA5 : IntKind.i64.wrap 4 = 4 := rfl
    clear HC hq
    go_enter Try.func87, Try.ntmps87
    go_wp2_with fail
    go_region_held3 (fun w' => w'.cell? ⟨b, o + 1, none⟩ = some (.int .i64 (a : Int)) ∧ w'.cell? ⟨b, o + 3, none⟩ = some (.int .i64 (b' : Int)) ∧ w'.cell? ⟨b, o + 4, none⟩ = some (.int .i64 (c : Int)) ∧ Below w.heap.size w w')
      ((refine ⟨below_cell ?_ _ _ x0, below_cell ?_ _ _ x1, below_cell ?_ _ _ x2, ?_⟩; all_goals (repeat (first | (with_reducible exact Below.refl _ _) | (with_reducible refine below_dr ?_) | (with_reducible refine below_tr ?_ (by assumption))))))
      (fail)
    go_wp2_with fail
    go_ret
    exact ⟨ints.ret_int (by simp), (Below.refl _ _).drew⟩
  · have e : sp ps 7 = 4 * pb ps 1 + 2 * pb ps 3 + pb ps 5 := rfl
    obtain ⟨a0, x0⟩ := HC.out 1 (by omega)
    obtain ⟨a1, x1⟩ := HC.out 3 (by omega)
    obtain ⟨a2, x2⟩ := HC.out 5 (by omega)
    rw [e]
    clear e
    generalize pb ps 1 = a at *
    generalize pb ps 3 = b' at *
    generalize pb ps 5 = c at *
    have w1 : IntKind.i64.wrap (4 * (a : Int)) = 4 * (a : Int) := IntWalk.i64_in _ (by omega)
    have w2 : IntKind.i64.wrap (2 * (b' : Int)) = 2 * (b' : Int) := IntWalk.i64_in _ (by omega)
    have w3 : IntKind.i64.wrap (4 * (a : Int) + 2 * (b' : Int)) = 4 * (a : Int) + 2 * (b' : Int) := IntWalk.i64_in _ (by omega)
    have w4 : IntKind.i64.wrap (4 * (a : Int) + 2 * (b' : Int) + (c : Int)) = 4 * (a : Int) + 2 * (b' : Int) + (c : Int) := IntWalk.i64_in _ (by omega)
    have hA0 : bits BinOp.and IntKind.i64 3 1 = 1 := rfl
    have hA1 : bits BinOp.and IntKind.i64 7 1 = 1 := rfl
    have hA2 : IntKind.i64.wrap (2 + 1) = 3 := rfl
    have hA3 : IntKind.i64.wrap (4 + 1) = 5 := rfl
    have hA4 : IntKind.i64.wrap 3 = 3 := rfl
    have hA5 : IntKind.i64.wrap 5 = 5 := rfl
    clear HC hq
    go_enter Try.func87, Try.ntmps87
    go_wp2_with fail
    go_region_held3 (fun w' => w'.cell? ⟨b, o + 1, none⟩ = some (.int .i64 (a : Int)) ∧ w'.cell? ⟨b, o + 3, none⟩ = some (.int .i64 (b' : Int)) ∧ w'.cell? ⟨b, o + 5, none⟩ = some (.int .i64 (c : Int)) ∧ Below w.heap.size w w')
      ((refine ⟨below_cell ?_ _ _ x0, below_cell ?_ _ _ x1, below_cell ?_ _ _ x2, ?_⟩; all_goals (repeat (first | (with_reducible exact Below.refl _ _) | (with_reducible refine below_dr ?_) | (with_reducible refine below_tr ?_ (by assumption))))))
      (fail)
    go_wp2_with fail
    go_ret
    exact ⟨ints.ret_int (by simp), (Below.refl _ _).drew⟩


def spl (ps : List Int) (n : Nat) : List Int := (List.range n).map fun q => (sp ps q : Int)
theorem len_spl (ps : List Int) (n : Nat) : (spl ps n).length = n := by simp [spl]
theorem spl_succ (ps : List Int) (n : Nat) : spl ps (n + 1) = spl ps n ++ [(sp ps n : Int)] := by simp [spl, List.range_succ]
theorem spl_at (ps : List Int) {q : Nat} (hq : q < 8) : (spl ps 8).getD q 0 = (sp ps q : Int) := by simp [spl, List.getD, hq]

set_option maxHeartbeats 8000000 in
theorem l11played (v : Value) (ps : List Int) (wh : Int) (w : World) (h : Ints w v ps) (hok : within 6 0 1 ps) :
    Calls Try.prog 60 #[v, .int .i64 wh] w fun e w' => ∃ u, e = .returned (.agg #[.int .i64 wh, u]) ∧ OwnRows w' w.heap.size w'.heap.size u (rows8 (ND (sp ps) wh)) ∧ Below w.heap.size w w' := by
  obtain ⟨i0, hi, hz0, hz1, hz2⟩ := info_parts infoInt
  have HS := Lib.hid (fun (q : Nat) (W : World) (hq : q < 8) (hW : Below w.heap.size w W) => says v ps q W (h.below hW) hok hq)
  have HL := Lib.hid (fun (u : Value) (W : World) (hu : Ints W u (spl ps 8)) => l11of u (spl ps 8) wh W hu (len_spl _ _) (fun q hq => by rw [spl_at ps hq]; have := sp_lt hok hq; omega))
  have HE : Hid (rows8 (ND (sl (spl ps 8)) wh) = rows8 (ND (sp ps) wh)) := Lib.hid (rows8_congr (fun i j hi _ => by unfold ND sl; rw [spl_at ps hi]; rfl))
  obtain ⟨va, vn, vc, rfl⟩ := h.shape
  obtain ⟨W0, hW0⟩ : ∃ W, W = (w.alloc (.cells #[.int .i64 0, .slice none 0 0] 27)).alloc (.cells #[] 3) := ⟨_, rfl⟩
  have T0 : Hid (Blk W0 w.heap.size 27 #[.int .i64 0, .slice none 0 0]) := Lib.hid (by rw [hW0]; exact (Blk.new _ _ _).alloc _)
  have B0 : Hid (Below w.heap.size w W0) := Lib.hid (by rw [hW0]; exact below_al (below_al (Below.refl _ _) _) _)
  have O0 : Hid (W0.ownsRow (w.heap.size + 1) 3 1 (.slice (some ⟨w.heap.size + 1, 0, none⟩) 0 0) 0 (i64s (spl ps 0))) := Lib.hid (by
    rw [hW0]
    have := World.ownsRow_made (base := w.heap.size + 1) (e := 3) (size := 1) (w.alloc (.cells #[.int .i64 0, .slice none 0 0] 27)) #[] 0 (by simp) (Nat.zero_le _) rfl
    simpa [i64s, spl] using this)
  clear h hok
  go_enter Try.func60, Try.ntmps60
  go_wp2_with fail
  rw [← hW0]
  clear hW0
  go_loopw [5, 6] (fun out s wr => ∃ q : Nat, q ≤ 8 ∧ s = .int .i64 q ∧ Hid (wr.ownsRow (w.heap.size + 1) 3 1 out q (i64s (spl ps q))) ∧ Hid (Blk wr w.heap.size 27 #[.int .i64 0, .slice none 0 0]) ∧ Hid (Below w.heap.size w wr)) (fun _ s _ => 8 - (intOf s).toNat)
  case atStart => exact ⟨0, by omega, rfl, O0, T0, B0⟩
  case round =>
    obtain ⟨q, hq, rfl, HO, HT, HB⟩ := hrel
    clear O0 T0 B0
    obtain ⟨wo, rfl⟩ : ∃ wo : World, wo = wr := ⟨_, rfl⟩
    by_cases hlt : q < 8
    · have hqz : (q : Int) < 8 := by omega
      have HP := Lib.hid (HS.out q wo hlt HB.out)
      go_wp2_with fail
      refine HP.out.mono ?_
      rintro e w8 ⟨rfl, hb⟩
      have HO := Lib.hid (app.owns_below HO.out hb)
      have HT := Lib.hid (HT.out.below hb)
      have HB := Lib.hid (below_tr HB.out hb)
      have hsz := HB.out.size
      clear hb HP
      go_wp2_with (at_builtin; go_must (refine wpList_append_own _ rfl (.tmp 12) (.tmp 16) 33 rfl (w.heap.size + 1) 3 i0 (.int .i64 0) 1 8 Try.underlying33 hi hz0 hz1 hz2 rfl (by decide) _ _ _ rfl (HO.out.alloc _) ⟨w8.heap.size, 0, none⟩ 1 1 [.int .i64 (sp ps q : Int)] rfl rfl ?c1 ?c2 ?c3 ?c4 ?c5 ?_))
      try (case c1 => first | exact app.one_at _ _ _ | (intro q u hq; have h5 := app.one_at w8 (.int .i64 (sp ps q : Int)) 3 q u hq; simpa using h5))
      case c2 => first | rfl | (intro u hu; simp at hu; subst hu; rfl)
      case c3 => unfold maxLen; omega
      case c4 => omega
      try (case c5 => first | omega | (simp; omega))
      intro v9 w9 hown hgrow _
      have B9 := Lib.hid ((below_al HB.out _).grown hgrow (by simp; omega) (fun j hj => by have := (HO.out.lt j hj).1; omega))
      have O9 := Lib.hid hown
      rw [app.i64s_snoc] at O9
      have hgrow0 := hgrow
      have hsz9 : w.heap.size + 1 ≤ w8.heap.size := by have := HT.out.lt; omega
      have hsz10 : w.heap.size + 1 ≤ (w8.alloc (.cells #[.int .i64 (sp ps q : Int)] 3)).heap.size := by simp; omega
      clear hown hgrow
      have T9 : Hid (Blk w9 w.heap.size 27 #[.int .i64 0, .slice none 0 0]) := Lib.hid (HT.out.belowB (B := w.heap.size + 1) ((Below.alloc (Below.refl _ _) hsz9 _).grown hgrow0 hsz10 (fun j hj => (HO.out.lt j hj).1)) (by omega))
      go_wp2_with fail
      go_roundw
      case rel => exact ⟨q + 1, by omega, by go_num, Lib.hid (by rw [spl_succ]; exact O9.out), T9, B9⟩
      case measure => simp [intOf]; omega
    · have hqz : ¬ (q : Int) < 8 := by omega
      obtain rfl : q = 8 := by omega
      have hin := app.ints_of_owns HO.out
      obtain ⟨za, zn, zc, rfl⟩ := hin.ints.shape
      have HC := Lib.hid (HL.out _ wo hin.ints)
      clear hin
      go_wp2_with fail
      refine HC.out.mono ?_
      rintro e w2 ⟨u, rfl, hu, hb⟩
      rw [HE.out] at hu
      obtain ⟨ua, un, uc, rfl⟩ := hu.rows.shape
      have K1 := Lib.hid (HT.out.below hb)
      have U1 := Lib.hid hu
      have B1 := Lib.hid (below_tr HB.out hb)
      have Z1 : Hid (w.heap.size < wo.heap.size) := Lib.hid HT.out.lt
      obtain ⟨r0, r1, rl⟩ := two_cells K1.out
      have rf : ∀ k, w2.frozen? ⟨w.heap.size, k, none⟩ = false := fun k => Joins.unfrozen_of_block K1.out k
      clear hu hb HC
      go_wp2_with fail
      refine bodyPost_ret (v := .agg #[.int .i64 wh, .slice ua un uc]) (by simp [results, Try.results60, go_sem, r0, r1]) rfl ⟨_, rfl, ?_, ?_⟩
      · have hw : Wrote (fun p => p.block = w.heap.size) w2 ((w2.setCell ⟨w.heap.size, 0, none⟩ (.int .i64 wh)).setCell ⟨w.heap.size, 1, none⟩ (.slice ua un uc)) := Wrote.setCell (S := fun p => p.block = w.heap.size) (Wrote.setCell (S := fun p => p.block = w.heap.size) (Wrote.refl _ _) rfl _) rfl _
        exact (U1.out.wrote hw (fun p hp => .inl (by have e : p.block = w.heap.size := hp; have := Z1.out; omega))).mono (by have := Z1.out; omega) (by simp [World.setCell])
      · exact Below.setCell (Below.setCell B1.out (Nat.le_refl _) _) (Nat.le_refl _) _

set_option maxHeartbeats 4000000 in
theorem spec_any (v : Value) (ps : List Int) (wh : Int) (w : World) (h : Ints w v ps) :
    Calls Try.prog 22 #[v, .int .i64 wh] w fun e w' => ∃ u, e = .returned (.tuple #[.agg #[.int .i64 (resO ps wh).wh, u], .bool (resO ps wh).ok]) ∧ IRows w' u (resO ps wh).rows ∧ Below w.heap.size w w' := by
  obtain ⟨va, vn, vc, rfl⟩ := h.shape
  obtain ⟨W0, hW0⟩ : ∃ W, W = w.alloc (.cells #[.int .i64 0, .slice none 0 0] 27) := ⟨_, rfl⟩
  have Kr : Hid (Blk W0 w.heap.size 27 #[.int .i64 0, .slice none 0 0]) := Lib.hid (by rw [hW0]; exact Blk.new _ _ _)
  have B0 : Hid (Below w.heap.size w W0) := Lib.hid (by rw [hW0]; exact below_al (Below.refl _ _) _)
  have HI := Lib.hid (h.below B0.out)
  have HBT := play.spec_bits _ ps 6 W0 HI.out
  obtain ⟨r0, r1, rl⟩ := two_cells Kr.out
  have rf : ∀ k, W0.frozen? ⟨w.heap.size, k, none⟩ = false := fun k => Joins.unfrozen_of_block Kr.out k
  clear h
  by_cases hok : within 6 0 1 ps
  · rw [withinB_yes hok] at HBT
    have HB' := Lib.hid HBT
    by_cases hw : 1 ≤ wh ∧ wh ≤ 1000
    · rw [resO_yes ⟨hok, hw⟩]
      have HM := Lib.hid (l11played _ ps wh W0 HI.out hok)
      have HIN := Lib.hid (val.in_yes wh 1 1000 W0 hw.1 hw.2)
      clear HBT hok hw
      go_enter Try.func22, Try.ntmps22
      go_wp2_with fail
      rw [← hW0]
      clear hW0
      refine HB'.out.mono ?_
      rintro e w' ⟨rfl, rfl⟩
      go_wp2_with fail
      refine HIN.out.mono ?_
      rintro e w' ⟨rfl, rfl⟩
      clear r0 r1 rl rf
      go_wp2_with fail
      refine HM.out.mono ?_
      rintro e w1 ⟨u, rfl, hu, hb⟩
      obtain ⟨ua, un, uc, rfl⟩ := hu.rows.shape
      have K1 := Lib.hid (Kr.out.below hb)
      have U1 := Lib.hid hu
      have B1 := Lib.hid (below_tr B0.out hb)
      have Z1 : Hid (w.heap.size < W0.heap.size) := Lib.hid Kr.out.lt
      obtain ⟨r0, r1, rl⟩ := two_cells K1.out
      have rf : ∀ k, w1.frozen? ⟨w.heap.size, k, none⟩ = false := fun k => Joins.unfrozen_of_block K1.out k
      clear hu hb HM
      go_wp2_with fail
      refine bodyPost_ret (v := .tuple #[.agg #[.int .i64 wh, .slice ua un uc], .bool true]) (by simp [results, Try.results22, go_sem, r0, r1]) rfl ⟨_, rfl, ?_, ?_⟩
      · have hw : Wrote (fun p => p.block = w.heap.size) w1 ((w1.setCell ⟨w.heap.size, 0, none⟩ (.int .i64 wh)).setCell ⟨w.heap.size, 1, none⟩ (.slice ua un uc)) := Wrote.setCell (S := fun p => p.block = w.heap.size) (Wrote.setCell (S := fun p => p.block = w.heap.size) (Wrote.refl _ _) rfl _) rfl _
        exact (U1.out.wrote hw (fun p hp => .inl (by have e : p.block = w.heap.size := hp; have := Z1.out; omega))).rows
      · exact Below.setCell (Below.setCell B1.out (Nat.le_refl _) _) (Nat.le_refl _) _
    · rw [resO_no (fun h => hw h.2)]
      have HIN := Lib.hid (val.in_no wh 1 1000 W0 (by omega))
      clear HBT hok hw
      go_enter Try.func22, Try.ntmps22
      go_wp2_with fail
      rw [← hW0]
      clear hW0
      refine HB'.out.mono ?_
      rintro e w' ⟨rfl, rfl⟩
      go_wp2_with fail
      refine HIN.out.mono ?_
      rintro e w' ⟨rfl, rfl⟩
      go_wp2_with fail
      refine bodyPost_ret (v := .tuple #[.agg #[.int .i64 0, .slice none 0 0], .bool false]) (by simp [results, Try.results22, go_sem, r0, r1]) rfl ⟨_, rfl, IRows.nil _, ?_⟩
      exact Below.setCell (Below.setCell B0.out (Nat.le_refl _) _) (Nat.le_refl _) _
  · rw [withinB_no hok] at HBT
    rw [resO_no (fun h => hok h.1)]
    have HB' := Lib.hid HBT
    clear HBT hok
    go_enter Try.func22, Try.ntmps22
    go_wp2_with fail
    rw [← hW0]
    clear hW0
    refine HB'.out.mono ?_
    rintro e w' ⟨rfl, rfl⟩
    go_wp2_with fail
    refine bodyPost_ret (v := .tuple #[.agg #[.int .i64 0, .slice none 0 0], .bool false]) (by simp [results, Try.results22, go_sem, r0, r1]) rfl ⟨_, rfl, IRows.nil _, ?_⟩
    exact Below.setCell (Below.setCell B0.out (Nat.le_refl _) _) (Nat.le_refl _) _

end Go.Proofs.Ytomofmmecpdalaa.ttf
