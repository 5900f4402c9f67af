/- Arrays of twelve signs; signFor, signsOf, isKept and isPicked of the program. -/
import Derived.Test.YtkikdecepdbbnaaSck
namespace Go.Proofs.Ytkikdecepdbbnaa.sgs
open Go.RowKit Go.Deep Go.Proofs.Ytkikdecepdbbnaa.base
open Go.Proofs.Ytkikdecepdbbnaa.ints (ret_int ret_no ret_yes infoInt)
open Go.Proofs.Ytkikdecepdbbnaa.rws (total len_le_total)
open Go.Proofs.Ytkikdecepdbbnaa.val (ret_b)
open Go.Proofs.Ytkikdecepdbbnaa.play (within withinB withinB_yes withinB_no)
open Go.Proofs.Ytkikdecepdbbnaa.scm
open Go.Proofs.Ytkikdecepdbbnaa.sck (asg at_ctx)

def l12 (F : Nat → Int) : List Value := [.int .i64 (F 0), .int .i64 (F 1), .int .i64 (F 2), .int .i64 (F 3), .int .i64 (F 4), .int .i64 (F 5), .int .i64 (F 6), .int .i64 (F 7), .int .i64 (F 8), .int .i64 (F 9), .int .i64 (F 10), .int .i64 (F 11)]
def upd (F : Nat → Int) (p : Nat) (v : Int) (q : Nat) : Int := if q = p then v else F q
theorem l12_get (F : Nat → Int) {p : Nat} (h : p < 12) : (l12 F)[p]? = some (.int .i64 (F p)) := by
  match p, h with
  | 0, _ => rfl
  | 1, _ => rfl
  | 2, _ => rfl
  | 3, _ => rfl
  | 4, _ => rfl
  | 5, _ => rfl
  | 6, _ => rfl
  | 7, _ => rfl
  | 8, _ => rfl
  | 9, _ => rfl
  | 10, _ => rfl
  | 11, _ => rfl
  | n + 12, h => exact absurd h (by omega)
theorem l12_set (F : Nat → Int) {p : Nat} (h : p < 12) (v : Int) : (l12 F).toArray.setIfInBounds p (.int .i64 v) = (l12 (upd F p v)).toArray := by
  match p, h with
  | 0, _ => simp [l12, upd]
  | 1, _ => simp [l12, upd]
  | 2, _ => simp [l12, upd]
  | 3, _ => simp [l12, upd]
  | 4, _ => simp [l12, upd]
  | 5, _ => simp [l12, upd]
  | 6, _ => simp [l12, upd]
  | 7, _ => simp [l12, upd]
  | 8, _ => simp [l12, upd]
  | 9, _ => simp [l12, upd]
  | 10, _ => simp [l12, upd]
  | 11, _ => simp [l12, upd]
  | n + 12, h => exact absurd h (by omega)
theorem l12_congr {F F' : Nat → Int} (h : ∀ p, p < 12 → F p = F' p) : l12 F = l12 F' := by
  unfold l12
  rw [h 0 (by omega), h 1 (by omega), h 2 (by omega), h 3 (by omega), h 4 (by omega), h 5 (by omega), h 6 (by omega), h 7 (by omega), h 8 (by omega), h 9 (by omega), h 10 (by omega), h 11 (by omega)]
theorem cells12 {w : World} {g : Nat} {t : TypeId} {c0 c1 c2 c3 c4 c5 c6 c7 c8 c9 c10 c11 : Value} (h : Blk w g t #[c0, c1, c2, c3, c4, c5, c6, c7, c8, c9, c10, c11]) : w.cell? ⟨g, 0, none⟩ = some c0 ∧ w.cell? ⟨g, 1, none⟩ = some c1 ∧ w.cell? ⟨g, 2, none⟩ = some c2 ∧ w.cell? ⟨g, 3, none⟩ = some c3 ∧ w.cell? ⟨g, 4, none⟩ = some c4 ∧ w.cell? ⟨g, 5, none⟩ = some c5 ∧ w.cell? ⟨g, 6, none⟩ = some c6 ∧ w.cell? ⟨g, 7, none⟩ = some c7 ∧ w.cell? ⟨g, 8, none⟩ = some c8 ∧ w.cell? ⟨g, 9, none⟩ = some c9 ∧ w.cell? ⟨g, 10, none⟩ = some c10 ∧ w.cell? ⟨g, 11, none⟩ = some c11 ∧ g < w.heap.size := by
  have hl := h.lt
  unfold Blk at h
  refine ⟨?_, ?_, ?_, ?_, ?_, ?_, ?_, ?_, ?_, ?_, ?_, ?_, hl⟩ <;> simp only [World.cell?, h] <;> rfl
theorem blk_cell {w : World} {g : Nat} {t : TypeId} {F : Nat → Int} (h : Blk w g t (l12 F).toArray) {p : Nat} (hp : p < 12) : w.cell? ⟨g, p, none⟩ = some (.int .i64 (F p)) := by
  rw [Joins.cell_of_block h]
  simpa using l12_get F hp
theorem blk_set {w : World} {g : Nat} {t : TypeId} {F : Nat → Int} (h : Blk w g t (l12 F).toArray) {p : Nat} (hp : p < 12) (v : Int) : Blk (w.setCell ⟨g, p, none⟩ (.int .i64 v)) g t (l12 (upd F p v)).toArray := by
  have := Joins.block_setCell (i := p) h (.int .i64 v)
  rw [l12_set F hp] at this
  exact this
/-- the array of signs -/
def sv (F : Nat → Int) : Value := .agg (l12 F).toArray
/-- the signs of the first k events -/
def sgk (a : List Int) (k p : Nat) : Int := if p < k then sign a p else 0
theorem sgk_step (a : List Int) (k : Nat) : upd (sgk a k) k (sign a k) = sgk a (k + 1) := by
  funext q
  unfold upd sgk
  by_cases e : q = k
  · subst e; simp
  · rw [if_neg e]
    by_cases h : q < k
    · rw [if_pos h, if_pos (by omega)]
    · rw [if_neg h, if_neg (by omega)]
theorem sgk_all (a : List Int) : l12 (sgk a a.length) = l12 (sign a) := l12_congr (fun p _ => by
  unfold sgk
  by_cases h : p < a.length
  · rw [if_pos h]
  · rw [if_neg h]; unfold sign; rw [if_neg h])
theorem sgk_zero (a : List Int) : (l12 (sgk a 0)).toArray = #[.int .i64 0, .int .i64 0, .int .i64 0, .int .i64 0, .int .i64 0, .int .i64 0, .int .i64 0, .int .i64 0, .int .i64 0, .int .i64 0, .int .i64 0, .int .i64 0] := by unfold l12 sgk; rfl
theorem sign_is {n : Int} {a : List Int} (h : within n 0 1 a) {k : Nat} (hk : k < a.length) : sign a k = 1 + a[k] * (-2) := by
  have h1 := h.2 k hk
  unfold sign
  rw [if_pos hk]
  have : a.getD k 0 = a[k] := by simp [List.getD, hk]
  rw [this]
  by_cases e : a[k] = 1
  · rw [if_pos e, e]; rfl
  · rw [if_neg e, show a[k] = 0 by omega]; rfl


theorem signFor (z : Int) (w : World) (h : z = 0 ∨ z = 1) : Calls Try.prog 88 #[.int .i64 z] w fun e w' => e = .returned (.int .i64 (1 + z * (-2))) ∧ w = w' := by
  rcases h with rfl | rfl
  · go_enter Try.func88, Try.ntmps88
    go_wp2_with fail
    go_ret
    exact ⟨rfl, rfl⟩
  · go_enter Try.func88, Try.ntmps88
    go_wp2_with fail
    go_ret
    exact ⟨rfl, rfl⟩



set_option maxRecDepth 100000 in
set_option maxHeartbeats 8000000 in
theorem signsOf (v : Value) (a : List Int) (n : Int) (w : World) (h : Ints w v a) (hb : within n 0 1 a) (hn : n ≤ 12) :
    Calls Try.prog 58 #[v] w fun e w' => e = .returned (sv (sign a)) ∧ Below w.heap.size w w' := by
  have h12 : a.length ≤ 12 := by have := hb.1; omega
  obtain ⟨A, b, o, cap, rfl, hcap, hmax, hA, hc⟩ := h.form
  have HS0 : Hid (Blk ((w.alloc (.cells #[.int .i64 0, .int .i64 0, .int .i64 0, .int .i64 0, .int .i64 0, .int .i64 0, .int .i64 0, .int .i64 0, .int .i64 0, .int .i64 0, .int .i64 0, .int .i64 0] 59)).alloc (.cells #[.int .i64 0, .int .i64 0, .int .i64 0, .int .i64 0, .int .i64 0, .int .i64 0, .int .i64 0, .int .i64 0, .int .i64 0, .int .i64 0, .int .i64 0, .int .i64 0] 59)) (w.heap.size + 1) 59 (l12 (sgk a 0)).toArray ∧ Blk ((w.alloc (.cells #[.int .i64 0, .int .i64 0, .int .i64 0, .int .i64 0, .int .i64 0, .int .i64 0, .int .i64 0, .int .i64 0, .int .i64 0, .int .i64 0, .int .i64 0, .int .i64 0] 59)).alloc (.cells #[.int .i64 0, .int .i64 0, .int .i64 0, .int .i64 0, .int .i64 0, .int .i64 0, .int .i64 0, .int .i64 0, .int .i64 0, .int .i64 0, .int .i64 0, .int .i64 0] 59)) w.heap.size 59 #[.int .i64 0, .int .i64 0, .int .i64 0, .int .i64 0, .int .i64 0, .int .i64 0, .int .i64 0, .int .i64 0, .int .i64 0, .int .i64 0, .int .i64 0, .int .i64 0] ∧ Below w.heap.size w ((w.alloc (.cells #[.int .i64 0, .int .i64 0, .int .i64 0, .int .i64 0, .int .i64 0, .int .i64 0, .int .i64 0, .int .i64 0, .int .i64 0, .int .i64 0, .int .i64 0, .int .i64 0] 59)).alloc (.cells #[.int .i64 0, .int .i64 0, .int .i64 0, .int .i64 0, .int .i64 0, .int .i64 0, .int .i64 0, .int .i64 0, .int .i64 0, .int .i64 0, .int .i64 0, .int .i64 0] 59))) := Lib.hid ⟨by
      rw [sgk_zero]
      have := Blk.new (w.alloc (.cells #[.int .i64 0, .int .i64 0, .int .i64 0, .int .i64 0, .int .i64 0, .int .i64 0, .int .i64 0, .int .i64 0, .int .i64 0, .int .i64 0, .int .i64 0, .int .i64 0] 59)) 59 #[.int .i64 0, .int .i64 0, .int .i64 0, .int .i64 0, .int .i64 0, .int .i64 0, .int .i64 0, .int .i64 0, .int .i64 0, .int .i64 0, .int .i64 0, .int .i64 0]
      simpa using this, (Blk.new w 59 #[.int .i64 0, .int .i64 0, .int .i64 0, .int .i64 0, .int .i64 0, .int .i64 0, .int .i64 0, .int .i64 0, .int .i64 0, .int .i64 0, .int .i64 0, .int .i64 0]).alloc _, below_al (below_al (Below.refl _ _) _) _⟩
  have HSI := Lib.hid (fun k (hk : k < a.length) => And.intro (sign_is hb hk) (hb.2 k hk))
  have HALL := Lib.hid (sgk_all a)
  clear h hmax hcap hb hn
  go_enter Try.func58, Try.ntmps58
  go_wp2_with fail
  go_loopw [4, 5, 8] (fun _ _ i wr => ∃ k : Nat, k ≤ a.length ∧ i = .int .i64 k ∧ Hid (Blk wr (w.heap.size + 1) 59 (l12 (sgk a k)).toArray ∧ Blk wr w.heap.size 59 #[.int .i64 0, .int .i64 0, .int .i64 0, .int .i64 0, .int .i64 0, .int .i64 0, .int .i64 0, .int .i64 0, .int .i64 0, .int .i64 0, .int .i64 0, .int .i64 0] ∧ Below w.heap.size w wr)) (fun _ _ i _ => a.length - (intOf i).toNat)
  case atStart => exact ⟨0, Nat.zero_le _, rfl, HS0⟩
  case round =>
    obtain ⟨k, hk, rfl, hS⟩ := hrel
    clear HS0
    obtain ⟨wi, rfl⟩ : ∃ wi : World, wi = wr := ⟨_, rfl⟩
    by_cases hlt : k < a.length
    · have hkz : (k : Int) < (a.length : Int) := by omega
      obtain rfl := hA (by omega)
      have g0 := below_cell hS.out.2.2 _ _ (hc k hlt)
      obtain ⟨hs1, hs2⟩ := HSI.out k hlt
      have HSF := Lib.hid (signFor a[k] wi (by omega))
      have hk12 : k < 12 := by omega
      have rf : ∀ q, wi.frozen? ⟨w.heap.size + 1, q, none⟩ = false := fun q => Joins.unfrozen_of_block hS.out.1 q
      have gc := blk_cell hS.out.1 hk12
      have hb0 := blk_set hS.out.1 hk12 (1 + a[k] * (-2))
      rw [← hs1, sgk_step, hs1] at hb0
      have HB := Lib.hid hb0
      have hkk : (k : Int) < 12 := by omega
      clear hb0 hs1 hc hA
      generalize a[k] = z at *
      go_wp2_with fail
      refine HSF.out.mono ?_
      rintro e w' ⟨rfl, rfl⟩
      go_wp2_with fail
      go_roundw
      case rel =>
        refine ⟨k + 1, by omega, by go_num, Lib.hid ⟨HB.out, ?_, ?_⟩⟩
        · exact hS.out.2.1.wrote (Wrote.setCell (S := fun p => p.block = w.heap.size + 1) (Wrote.refl _ _) rfl _) (fun p hp => by rw [hp]; omega)
        · exact Below.setCell hS.out.2.2 (by simp) _
      case measure => simp [intOf]; omega
    · have hkz : ¬ (k : Int) < (a.length : Int) := by omega
      obtain rfl : k = a.length := by omega
      have HN := Lib.hid hS.out
      rw [HALL.out] at HN
      obtain ⟨r0, r1, r2, r3, r4, r5, r6, r7, r8, r9, r10, r11, rl⟩ := cells12 HN.out.2.1
      have hB := HN.out.1
      unfold l12 at hB
      obtain ⟨c0, c1, c2, c3, c4, c5, c6, c7, c8, c9, c10, c11, cl⟩ := cells12 hB
      have rf : ∀ k, wi.frozen? ⟨w.heap.size, k, none⟩ = false := fun k => Joins.unfrozen_of_block HN.out.2.1 k
      clear hS hB hc hA
      go_wp2_with fail
      refine bodyPost_ret (v := .agg (l12 (sign a)).toArray) (by unfold l12; simp [results, Try.results58, go_sem, r0, r1, r2, r3, r4, r5, r6, r7, r8, r9, r10, r11]) rfl ⟨rfl, ?_⟩
      repeat (first | (with_reducible exact HN.out.2.2) | (with_reducible refine Below.setCell ?_ (by simp) _))


end Go.Proofs.Ytkikdecepdbbnaa.sgs
