/- fourRowsOf and times of the program. -/
import Derived.Test.YtggodllfaggjiabFour
import Derived.Test.YtggodllfaggjiabEqr
import Derived.Test.YtggodllfaggjiabWorthc
import Derived.Laws.CopyOwn
namespace Go.Proofs.Ytggodllfaggjiab.frf
open Go.RowKit Go.Deep Go.Proofs.Ytggodllfaggjiab.base
open Go.Proofs.Ytggodllfaggjiab.four (arr rv cells16)
open Go.Proofs.Ytggodllfaggjiab.val (okBox okSizes)
open Go.Proofs.Ytggodllfaggjiab.row (nn nn_bd)

/-- sixteen numbers, by their places -/
def l16 (F : Nat → Int) : List Value := [.int .i64 (F 0), .int .i64 (F 1), .int .i64 (F 2), .int .i64 (F 3), .int .i64 (F 4), .int .i64 (F 5), .int .i64 (F 6), .int .i64 (F 7), .int .i64 (F 8), .int .i64 (F 9), .int .i64 (F 10), .int .i64 (F 11), .int .i64 (F 12), .int .i64 (F 13), .int .i64 (F 14), .int .i64 (F 15)]
def upd (F : Nat → Int) (p : Nat) (v : Int) (q : Nat) : Int := if q = p then v else F q
theorem l16_len (F : Nat → Int) : (l16 F).length = 16 := rfl
theorem l16_get (F : Nat → Int) {p : Nat} (h : p < 16) : (l16 F)[p]? = some (.int .i64 (F p)) := by
  match p, h with
  | 0, _ => rfl
  | 1, _ => rfl
  | 2, _ => rfl
  | 3, _ => rfl
  | 4, _ => rfl
  | 5, _ => rfl
  | 6, _ => rfl
  | 7, _ => rfl
  | 8, _ => rfl
  | 9, _ => rfl
  | 10, _ => rfl
  | 11, _ => rfl
  | 12, _ => rfl
  | 13, _ => rfl
  | 14, _ => rfl
  | 15, _ => rfl
  | n + 16, h => exact absurd h (by omega)
theorem l16_set (F : Nat → Int) {p : Nat} (h : p < 16) (v : Int) : (l16 F).toArray.setIfInBounds p (.int .i64 v) = (l16 (upd F p v)).toArray := by
  match p, h with
  | 0, _ => simp [l16, upd]
  | 1, _ => simp [l16, upd]
  | 2, _ => simp [l16, upd]
  | 3, _ => simp [l16, upd]
  | 4, _ => simp [l16, upd]
  | 5, _ => simp [l16, upd]
  | 6, _ => simp [l16, upd]
  | 7, _ => simp [l16, upd]
  | 8, _ => simp [l16, upd]
  | 9, _ => simp [l16, upd]
  | 10, _ => simp [l16, upd]
  | 11, _ => simp [l16, upd]
  | 12, _ => simp [l16, upd]
  | 13, _ => simp [l16, upd]
  | 14, _ => simp [l16, upd]
  | 15, _ => simp [l16, upd]
  | n + 16, h => exact absurd h (by omega)
theorem l16_congr {F F' : Nat → Int} (h : ∀ p, p < 16 → F p = F' p) : l16 F = l16 F' := by
  unfold l16
  rw [h 0 (by omega), h 1 (by omega), h 2 (by omega), h 3 (by omega), h 4 (by omega), h 5 (by omega), h 6 (by omega), h 7 (by omega), h 8 (by omega), h 9 (by omega), h 10 (by omega), h 11 (by omega), h 12 (by omega), h 13 (by omega), h 14 (by omega), h 15 (by omega)]
theorem blk_cell {w : World} {g : Nat} {t : TypeId} {F : Nat → Int} (h : Blk w g t (l16 F).toArray) {p : Nat} (hp : p < 16) : w.cell? ⟨g, p, none⟩ = some (.int .i64 (F p)) := by
  rw [Joins.cell_of_block h]
  simpa using l16_get F hp
theorem blk_set {w : World} {g : Nat} {t : TypeId} {F : Nat → Int} (h : Blk w g t (l16 F).toArray) {p : Nat} (hp : p < 16) (v : Int) : Blk (w.setCell ⟨g, p, none⟩ (.int .i64 v)) g t (l16 (upd F p v)).toArray := by
  have := Joins.block_setCell (i := p) h (.int .i64 v)
  rw [l16_set F hp] at this
  exact this
def flat (R : Nat → Nat → Int) (p : Nat) : Int := R (p / 4) (p % 4)
theorem arr_flat (R : Nat → Nat → Int) : arr R = (l16 (flat R)).toArray := rfl
theorem arr_congr {R R' : Nat → Nat → Int} (h : ∀ r c, r < 4 → c < 4 → R r c = R' r c) : arr R = arr R' := by
  rw [arr_flat, arr_flat]
  exact congrArg _ (l16_congr (fun p hp => h _ _ (by omega) (by omega)))
/-- times, so far -/
def mul (F : Nat → Int) (k : Int) (n p : Nat) : Int := if p < n then F p * k else F p
theorem mul_step (F : Nat → Int) (k : Int) (n : Nat) : upd (mul F k n) n (F n * k) = mul F k (n + 1) := by
  funext q
  unfold upd mul
  by_cases e : q = n
  · subst e; simp
  · rw [if_neg e]
    by_cases h : q < n
    · rw [if_pos h, if_pos (by omega)]
    · rw [if_neg h, if_neg (by omega)]
theorem mul_at (F : Nat → Int) (k : Int) (n : Nat) : mul F k n n = F n := by unfold mul; rw [if_neg (by omega)]


set_option maxRecDepth 100000 in
set_option maxHeartbeats 8000000 in
theorem times (R : Nat → Nat → Int) (k : Int) (w : World) (hw : ∀ p, p < 16 → IntKind.i64.wrap (flat R p * k) = flat R p * k) :
    Calls Try.prog 99 #[rv R, .int .i64 k] w fun e w' => e = .returned (rv (fun r c => R r c * k)) ∧ Below w.heap.size w w' := by
  have HS0 : Hid (Blk ((w.alloc (.cells (arr R) 118)).alloc (.cells eqr.zer 118)) w.heap.size 118 (l16 (mul (flat R) k (4 * 0))).toArray ∧ Blk ((w.alloc (.cells (arr R) 118)).alloc (.cells eqr.zer 118)) (w.heap.size + 1) 118 eqr.zer ∧ Below w.heap.size w ((w.alloc (.cells (arr R) 118)).alloc (.cells eqr.zer 118))) := Lib.hid ⟨by
      have e : l16 (mul (flat R) k (4 * 0)) = l16 (flat R) := l16_congr (fun p _ => by unfold mul; rw [if_neg (by omega)])
      rw [e, ← arr_flat]
      exact (Blk.new w 118 (arr R)).alloc _, by
      have := Blk.new (w.alloc (.cells (arr R) 118)) 118 eqr.zer
      simpa using this, below_al (below_al (Below.refl _ _) _) _⟩
  have HW := Lib.hid hw
  have HRV : Hid (Value.agg (l16 (mul (flat R) k (4 * 4))).toArray = rv (fun r c => R r c * k)) := Lib.hid (by
    unfold rv
    rw [arr_flat]
    exact congrArg (fun l => Value.agg (List.toArray l)) (l16_congr (fun p hp => by unfold mul; rw [if_pos (by omega)]; rfl)))
  rw [← HRV.out]
  clear hw
  have ez : eqr.zer = #[.int .i64 0, .int .i64 0, .int .i64 0, .int .i64 0, .int .i64 0, .int .i64 0, .int .i64 0, .int .i64 0, .int .i64 0, .int .i64 0, .int .i64 0, .int .i64 0, .int .i64 0, .int .i64 0, .int .i64 0, .int .i64 0] := rfl
  rw [ez] at HS0
  unfold rv
  unfold arr at *
  clear ez
  go_enter Try.func99, Try.ntmps99
  go_wp2_with fail
  go_loopw [5, 6, 7, 10] (fun _ _ i _ wr => ∃ r : Nat, r ≤ 4 ∧ i = .int .i64 r ∧ Hid (Blk wr w.heap.size 118 (l16 (mul (flat R) k (4 * r))).toArray ∧ Blk wr (w.heap.size + 1) 118 #[.int .i64 0, .int .i64 0, .int .i64 0, .int .i64 0, .int .i64 0, .int .i64 0, .int .i64 0, .int .i64 0, .int .i64 0, .int .i64 0, .int .i64 0, .int .i64 0, .int .i64 0, .int .i64 0, .int .i64 0, .int .i64 0] ∧ Below w.heap.size w wr)) (fun _ _ i _ _ => 4 - (intOf i).toNat)
  case atStart => exact ⟨0, Nat.zero_le _, rfl, HS0⟩
  case round =>
    obtain ⟨r, hr, rfl, hS⟩ := hrel
    clear HS0
    by_cases hlt : r < 4
    · have hkz : (r : Int) < 4 := by omega
      go_wp2_with fail
      go_loopw [6, 10] (fun _ j wi => ∃ c : Nat, c ≤ 4 ∧ j = .int .i64 c ∧ Hid (Blk wi w.heap.size 118 (l16 (mul (flat R) k (4 * r + c))).toArray ∧ Blk wi (w.heap.size + 1) 118 #[.int .i64 0, .int .i64 0, .int .i64 0, .int .i64 0, .int .i64 0, .int .i64 0, .int .i64 0, .int .i64 0, .int .i64 0, .int .i64 0, .int .i64 0, .int .i64 0, .int .i64 0, .int .i64 0, .int .i64 0, .int .i64 0] ∧ Below w.heap.size w wi)) (fun _ j _ => 4 - (intOf j).toNat)
      case atStart => exact ⟨0, Nat.zero_le _, rfl, hS⟩
      case round =>
        obtain ⟨c, hc, rfl, hS⟩ := hrel
        by_cases hlc : c < 4
        · have hkc : (c : Int) < 4 := by omega
          have hp : 4 * r + c < 16 := by omega
          have gc := blk_cell hS.out.1 hp
          rw [mul_at] at gc
          have e1 : 4 * r + c = r * 4 + c := by omega
          have gc' : wr.cell? ⟨w.heap.size, r * 4 + c, none⟩ = some (.int .i64 (flat R (4 * r + c))) := by rw [← e1]; exact gc
          have rf : ∀ q, wr.frozen? ⟨w.heap.size, q, none⟩ = false := fun q => Joins.unfrozen_of_block hS.out.1 q
          have hwp := HW.out _ hp
          have hb0 := blk_set hS.out.1 hp (flat R (4 * r + c) * k)
          have hms := mul_step (flat R) k (4 * r + c)
          rw [hms] at hb0
          have HB : Hid (Blk (wr.setCell ⟨w.heap.size, r * 4 + c, none⟩ (.int .i64 (flat R (4 * r + c) * k))) w.heap.size 118 (l16 (mul (flat R) k (4 * r + c + 1))).toArray) := Lib.hid (by rw [← e1]; exact hb0)
          clear hb0 hms
          clear e1 gc
          generalize hf : flat R (4 * r + c) = f at gc' hwp HB
          clear hf
          go_wp2_with fail
          go_region
          go_wp2_with fail
          go_roundw
          case rel =>
            refine ⟨c + 1, by omega, by go_num, Lib.hid ⟨?_, ?_, ?_⟩⟩
            · have hh := HB.out
              rw [show 4 * r + c + 1 = 4 * r + (c + 1) from by omega] at hh
              exact hh.below (below_dr (Below.refl _ _))
            · exact hS.out.2.1.wrote (Wrote.drew (Wrote.setCell (S := fun p => p.block = w.heap.size) (Wrote.refl _ _) rfl _)) (fun p hp => by rw [hp]; omega)
            · exact below_dr (Below.setCell hS.out.2.2 (by simp) _)
          case measure => simp [intOf]; omega
        · have hkc : ¬ (c : Int) < 4 := by omega
          have hc4 : c = 4 := by omega
          have HN := Lib.hid hS.out
          rw [hc4, show 4 * r + 4 = 4 * (r + 1) from by omega] at HN
          clear hc4
          go_wp2_with fail
          go_roundw
          case rel => exact ⟨r + 1, by omega, by go_num, HN⟩
          case measure => simp [intOf]; omega
    · have hkz : ¬ (r : Int) < 4 := by omega
      have hr4 : r = 4 := by omega
      have HN := Lib.hid hS.out
      rw [hr4] at HN
      obtain ⟨r0, r1, r2, r3, r4, r5, r6, r7, r8, r9, r10, r11, r12, r13, r14, r15, rl⟩ := cells16 HN.out.2.1
      have hB := HN.out.1
      unfold l16 at hB
      obtain ⟨c0, c1, c2, c3, c4, c5, c6, c7, c8, c9, c10, c11, c12, c13, c14, c15, cl⟩ := cells16 hB
      have rf : ∀ k, wr.frozen? ⟨w.heap.size + 1, k, none⟩ = false := fun k => Joins.unfrozen_of_block HN.out.2.1 k
      clear hr4 hS hB
      go_wp2_with fail
      refine bodyPost_ret (v := .agg (l16 (mul (flat R) k 16)).toArray) (by unfold l16; simp [results, Try.results99, go_sem, r0, r1, r2, r3, r4, r5, r6, r7, r8, r9, r10, r11, r12, r13, r14, r15]) rfl ⟨rfl, ?_⟩
      repeat (first | (with_reducible exact HN.out.2.2) | (with_reducible refine Below.setCell ?_ (by simp) _))


end Go.Proofs.Ytggodllfaggjiab.frf
