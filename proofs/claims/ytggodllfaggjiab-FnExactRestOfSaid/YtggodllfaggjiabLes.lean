/- less of the program: one array of sixteen numbers less another. -/
import Derived.Test.YtggodllfaggjiabFrf
namespace Go.Proofs.Ytggodllfaggjiab.les
open Go.RowKit Go.Deep Go.Proofs.Ytggodllfaggjiab.base
open Go.Proofs.Ytggodllfaggjiab.four (arr rv cells16)
open Go.Proofs.Ytggodllfaggjiab.frf

def sub (F G : Nat → Int) (n p : Nat) : Int := if p < n then F p - G p else F p
theorem sub_step (F G : Nat → Int) (n : Nat) : upd (sub F G n) n (F n - G n) = sub F G (n + 1) := by
  funext q
  unfold upd sub
  by_cases e : q = n
  · subst e; simp
  · rw [if_neg e]
    by_cases h : q < n
    · rw [if_pos h, if_pos (by omega)]
    · rw [if_neg h, if_neg (by omega)]
theorem sub_at (F G : Nat → Int) (n : Nat) : sub F G n n = F n := by unfold sub; rw [if_neg (by omega)]


set_option maxRecDepth 100000 in
set_option maxHeartbeats 8000000 in
theorem less (R R' : Nat → Nat → Int) (w : World) (hw : ∀ p, p < 16 → IntKind.i64.wrap (flat R p - flat R' p) = flat R p - flat R' p) :
    Calls Try.prog 100 #[rv R, rv R'] w fun e w' => e = .returned (rv (fun r c => R r c - R' r c)) ∧ Below w.heap.size w w' := by
  have HS0 : Hid (Blk (((w.alloc (.cells (arr R) 118)).alloc (.cells (arr R') 118)).alloc (.cells eqr.zer 118)) w.heap.size 118 (l16 (sub (flat R) (flat R') (4 * 0))).toArray ∧ Blk (((w.alloc (.cells (arr R) 118)).alloc (.cells (arr R') 118)).alloc (.cells eqr.zer 118)) (w.heap.size + 1) 118 (l16 (flat R')).toArray ∧ Blk (((w.alloc (.cells (arr R) 118)).alloc (.cells (arr R') 118)).alloc (.cells eqr.zer 118)) (w.heap.size + 1 + 1) 118 eqr.zer ∧ Below w.heap.size w (((w.alloc (.cells (arr R) 118)).alloc (.cells (arr R') 118)).alloc (.cells eqr.zer 118))) := Lib.hid ⟨by
      have e : l16 (sub (flat R) (flat R') (4 * 0)) = l16 (flat R) := l16_congr (fun p _ => by unfold sub; rw [if_neg (by omega)])
      rw [e, ← arr_flat]
      exact ((Blk.new w 118 (arr R)).alloc _).alloc _, by
      have := (Blk.new (w.alloc (.cells (arr R) 118)) 118 (arr R')).alloc (.cells eqr.zer 118)
      rw [← arr_flat]
      simpa using this, by
      have := Blk.new ((w.alloc (.cells (arr R) 118)).alloc (.cells (arr R') 118)) 118 eqr.zer
      simpa using this, below_al (below_al (below_al (Below.refl _ _) _) _) _⟩
  have HW := Lib.hid hw
  have HRV : Hid (Value.agg (l16 (sub (flat R) (flat R') (4 * 4))).toArray = rv (fun r c => R r c - R' r c)) := Lib.hid (by
    unfold rv
    rw [arr_flat]
    exact congrArg (fun l => Value.agg (List.toArray l)) (l16_congr (fun p hp => by unfold sub; rw [if_pos (by omega)]; rfl)))
  rw [← HRV.out]
  clear hw
  have ez : eqr.zer = #[.int .i64 0, .int .i64 0, .int .i64 0, .int .i64 0, .int .i64 0, .int .i64 0, .int .i64 0, .int .i64 0, .int .i64 0, .int .i64 0, .int .i64 0, .int .i64 0, .int .i64 0, .int .i64 0, .int .i64 0, .int .i64 0] := rfl
  rw [ez] at HS0
  unfold rv
  unfold arr at *
  clear ez
  go_enter Try.func100, Try.ntmps100
  go_wp2_with fail
  go_loopw [5, 6, 7, 10] (fun _ _ i _ wr => ∃ r : Nat, r ≤ 4 ∧ i = .int .i64 r ∧ Hid (Blk wr w.heap.size 118 (l16 (sub (flat R) (flat R') (4 * r))).toArray ∧ Blk wr (w.heap.size + 1) 118 (l16 (flat R')).toArray ∧ Blk wr (w.heap.size + 1 + 1) 118 #[.int .i64 0, .int .i64 0, .int .i64 0, .int .i64 0, .int .i64 0, .int .i64 0, .int .i64 0, .int .i64 0, .int .i64 0, .int .i64 0, .int .i64 0, .int .i64 0, .int .i64 0, .int .i64 0, .int .i64 0, .int .i64 0] ∧ Below w.heap.size w wr)) (fun _ _ i _ _ => 4 - (intOf i).toNat)
  case atStart => exact ⟨0, Nat.zero_le _, rfl, HS0⟩
  case round =>
    obtain ⟨r, hr, rfl, hS⟩ := hrel
    clear HS0
    by_cases hlt : r < 4
    · have hkz : (r : Int) < 4 := by omega
      go_wp2_with fail
      go_loopw [6, 10] (fun _ j wi => ∃ c : Nat, c ≤ 4 ∧ j = .int .i64 c ∧ Hid (Blk wi w.heap.size 118 (l16 (sub (flat R) (flat R') (4 * r + c))).toArray ∧ Blk wi (w.heap.size + 1) 118 (l16 (flat R')).toArray ∧ Blk wi (w.heap.size + 1 + 1) 118 #[.int .i64 0, .int .i64 0, .int .i64 0, .int .i64 0, .int .i64 0, .int .i64 0, .int .i64 0, .int .i64 0, .int .i64 0, .int .i64 0, .int .i64 0, .int .i64 0, .int .i64 0, .int .i64 0, .int .i64 0, .int .i64 0] ∧ Below w.heap.size w wi)) (fun _ j _ => 4 - (intOf j).toNat)
      case atStart => exact ⟨0, Nat.zero_le _, rfl, hS⟩
      case round =>
        obtain ⟨c, hc, rfl, hS⟩ := hrel
        by_cases hlc : c < 4
        · have hkc : (c : Int) < 4 := by omega
          have hp : 4 * r + c < 16 := by omega
          have gc := blk_cell hS.out.1 hp
          rw [sub_at] at gc
          have gd := blk_cell hS.out.2.1 hp
          have e1 : 4 * r + c = r * 4 + c := by omega
          have gc' : wr.cell? ⟨w.heap.size, r * 4 + c, none⟩ = some (.int .i64 (flat R (4 * r + c))) := by rw [← e1]; exact gc
          have gd' : wr.cell? ⟨w.heap.size + 1, r * 4 + c, none⟩ = some (.int .i64 (flat R' (4 * r + c))) := by rw [← e1]; exact gd
          have rf : ∀ q, wr.frozen? ⟨w.heap.size, q, none⟩ = false := fun q => Joins.unfrozen_of_block hS.out.1 q
          have hwp := HW.out _ hp
          have hb0 := blk_set hS.out.1 hp (flat R (4 * r + c) - flat R' (4 * r + c))
          have hms := sub_step (flat R) (flat R') (4 * r + c)
          rw [hms] at hb0
          have HB : Hid (Blk (wr.setCell ⟨w.heap.size, r * 4 + c, none⟩ (.int .i64 (flat R (4 * r + c) - flat R' (4 * r + c)))) w.heap.size 118 (l16 (sub (flat R) (flat R') (4 * r + c + 1))).toArray) := Lib.hid (by rw [← e1]; exact hb0)
          clear hb0 hms
          clear e1 gc gd
          generalize hf : flat R (4 * r + c) = f at gc' hwp HB
          generalize hg : flat R' (4 * r + c) = g at gd' hwp HB
          clear hf hg
          go_wp2_with fail
          go_region
          go_wp2_with fail
          go_roundw
          case rel =>
            refine ⟨c + 1, by omega, by go_num, Lib.hid ⟨?_, ?_, ?_, ?_⟩⟩
            · have hh := HB.out
              rw [show 4 * r + c + 1 = 4 * r + (c + 1) from by omega] at hh
              exact hh.below (below_dr (Below.refl _ _))
            · exact hS.out.2.1.wrote (Wrote.drew (Wrote.setCell (S := fun p => p.block = w.heap.size) (Wrote.refl _ _) rfl _)) (fun p hp => by rw [hp]; omega)
            · exact hS.out.2.2.1.wrote (Wrote.drew (Wrote.setCell (S := fun p => p.block = w.heap.size) (Wrote.refl _ _) rfl _)) (fun p hp => by rw [hp]; omega)
            · exact below_dr (Below.setCell hS.out.2.2.2 (by simp) _)
          case measure => simp [intOf]; omega
        · have hkc : ¬ (c : Int) < 4 := by omega
          have hc4 : c = 4 := by omega
          have HN := Lib.hid hS.out
          rw [hc4, show 4 * r + 4 = 4 * (r + 1) from by omega] at HN
          clear hc4
          go_wp2_with fail
          go_roundw
          case rel => exact ⟨r + 1, by omega, by go_num, HN⟩
          case measure => simp [intOf]; omega
    · have hkz : ¬ (r : Int) < 4 := by omega
      have hr4 : r = 4 := by omega
      have HN := Lib.hid hS.out
      rw [hr4] at HN
      obtain ⟨r0, r1, r2, r3, r4, r5, r6, r7, r8, r9, r10, r11, r12, r13, r14, r15, rl⟩ := cells16 HN.out.2.2.1
      have hB := HN.out.1
      unfold l16 at hB
      obtain ⟨c0, c1, c2, c3, c4, c5, c6, c7, c8, c9, c10, c11, c12, c13, c14, c15, cl⟩ := cells16 hB
      have rf : ∀ k, wr.frozen? ⟨w.heap.size + 1 + 1, k, none⟩ = false := fun k => Joins.unfrozen_of_block HN.out.2.2.1 k
      clear hr4 hS hB
      go_wp2_with fail
      refine bodyPost_ret (v := .agg (l16 (sub (flat R) (flat R') 16)).toArray) (by unfold l16; simp [results, Try.results100, go_sem, r0, r1, r2, r3, r4, r5, r6, r7, r8, r9, r10, r11, r12, r13, r14, r15]) rfl ⟨rfl, ?_⟩
      repeat (first | (with_reducible exact HN.out.2.2.2) | (with_reducible refine Below.setCell ?_ (by simp <;> omega) _))


end Go.Proofs.Ytggodllfaggjiab.les
