/- fourRowsOf of the program. -/
import Derived.Test.YtggodllfaggjiabFrf
namespace Go.Proofs.Ytggodllfaggjiab.frf
open Go.RowKit Go.Deep Go.Proofs.Ytggodllfaggjiab.base
open Go.Proofs.Ytggodllfaggjiab.four (arr rv cells16)
open Go.Proofs.Ytggodllfaggjiab.val (okBox okSizes)
open Go.Proofs.Ytggodllfaggjiab.row (nn nn_bd)

/-- the rows of a Box, the first n of them -/
def put (xss : List (List Int)) (n p : Nat) : Int := if p < 4 * n then nn xss (p / 4) (p % 4) else 0
theorem splice_put (xss : List (List Int)) {n : Nat} (h : n < 4) : splice (l16 (put xss n)) (4 * n) [.int .i64 (nn xss n 0), .int .i64 (nn xss n 1), .int .i64 (nn xss n 2), .int .i64 (nn xss n 3)] = l16 (put xss (n + 1)) := by
  match n, h with
  | 0, _ => simp [splice, l16, put]
  | 1, _ => simp [splice, l16, put]
  | 2, _ => simp [splice, l16, put]
  | 3, _ => simp [splice, l16, put]
  | n + 4, h => exact absurd h (by omega)

set_option maxRecDepth 100000 in
set_option maxHeartbeats 8000000 in
theorem rowsof (x y wh : Int) (v : Value) (xss : List (List Int)) (w : World) (h : IRows w v xss) (hok : okBox x y wh xss) (hl : xss.length = 4) :
    Calls Try.prog 98 #[.agg #[.int .i64 x, .int .i64 y, .int .i64 wh, v]] w fun e w' => e = .returned (rv (nn xss)) ∧ Below w.heap.size w w' := by
  obtain ⟨A, b, o, cap, R, rfl, hcap, hmax, hA, hc⟩ := h.form
  obtain rfl := hA (by omega)
  have HC : Hid (∀ k (hk : k < 4), w.cell? ⟨b, o + k, none⟩ = some (R k) ∧ ∃ b' o' cap', R k = .slice (some ⟨b', o', none⟩) 4 cap' ∧ ∀ c, c < 4 → w.cell? ⟨b', o' + c, none⟩ = some (.int .i64 (nn xss k c))) := Lib.hid (fun k hk => by
    obtain ⟨g0, g1⟩ := hc k (by omega)
    obtain ⟨b', o', cap', e, _, _, hcc⟩ := worth.row4 (r := k) (by omega) (worth.box_len hok (by omega)) g1
    exact ⟨g0, b', o', cap', e, hcc⟩)
  rw [hl] at *
  have HS0 : Hid (Blk (((w.alloc (.cells #[.int .i64 x, .int .i64 y, .int .i64 wh, .slice (some ⟨b, o, none⟩) 4 cap] 54)).alloc (.cells eqr.zer 118)).alloc (.cells eqr.zer 118)) (w.heap.size + 1 + 1) 118 (l16 (put xss 0)).toArray ∧ Blk (((w.alloc (.cells #[.int .i64 x, .int .i64 y, .int .i64 wh, .slice (some ⟨b, o, none⟩) 4 cap] 54)).alloc (.cells eqr.zer 118)).alloc (.cells eqr.zer 118)) (w.heap.size + 1) 118 eqr.zer ∧ Below w.heap.size w (((w.alloc (.cells #[.int .i64 x, .int .i64 y, .int .i64 wh, .slice (some ⟨b, o, none⟩) 4 cap] 54)).alloc (.cells eqr.zer 118)).alloc (.cells eqr.zer 118))) := Lib.hid ⟨by
      have e : eqr.zer = (l16 (put xss 0)).toArray := by simp [eqr.zer, l16, put]
      have := Blk.new ((w.alloc (.cells #[.int .i64 x, .int .i64 y, .int .i64 wh, .slice (some ⟨b, o, none⟩) 4 cap] 54)).alloc (.cells eqr.zer 118)) 118 eqr.zer
      rw [← e]
      simpa using this, by
      have := (Blk.new (w.alloc (.cells #[.int .i64 x, .int .i64 y, .int .i64 wh, .slice (some ⟨b, o, none⟩) 4 cap] 54)) 118 eqr.zer).alloc (.cells eqr.zer 118)
      simpa using this, below_al (below_al (below_al (Below.refl _ _) _) _) _⟩
  have HRV : Hid (Value.agg (l16 (put xss 4)).toArray = rv (nn xss)) := Lib.hid (by
    unfold rv
    rw [arr_flat]
    exact congrArg (fun l => Value.agg (List.toArray l)) (l16_congr (fun p hp => by unfold put; rw [if_pos (by omega)]; rfl)))
  rw [← HRV.out]
  have ez : eqr.zer = #[.int .i64 0, .int .i64 0, .int .i64 0, .int .i64 0, .int .i64 0, .int .i64 0, .int .i64 0, .int .i64 0, .int .i64 0, .int .i64 0, .int .i64 0, .int .i64 0, .int .i64 0, .int .i64 0, .int .i64 0, .int .i64 0] := rfl
  rw [ez] at HS0
  clear h hc hok hl hA hmax hcap ez
  go_enter Try.func98, Try.ntmps98
  go_wp2_with fail
  go_loopw [4, 5, 9] (fun _ _ i wr => ∃ r : Nat, r ≤ 4 ∧ i = .int .i64 r ∧ Hid (Blk wr (w.heap.size + 1 + 1) 118 (l16 (put xss r)).toArray ∧ Blk wr (w.heap.size + 1) 118 #[.int .i64 0, .int .i64 0, .int .i64 0, .int .i64 0, .int .i64 0, .int .i64 0, .int .i64 0, .int .i64 0, .int .i64 0, .int .i64 0, .int .i64 0, .int .i64 0, .int .i64 0, .int .i64 0, .int .i64 0, .int .i64 0] ∧ Below w.heap.size w wr)) (fun _ _ i _ => 4 - (intOf i).toNat)
  case atStart => exact ⟨0, Nat.zero_le _, rfl, HS0⟩
  case round =>
    obtain ⟨r, hr, rfl, hS⟩ := hrel
    clear HS0
    obtain ⟨wi, rfl⟩ : ∃ wi : World, wi = wr := ⟨_, rfl⟩
    by_cases hlt : r < 4
    · have hkz : (r : Int) < 4 := by omega
      obtain ⟨g0, b', o', cap', eR, hcc⟩ := HC.out r hlt
      have g1 := below_cell hS.out.2.2 _ _ g0
      rw [eR] at g1
      have HCC := Lib.hid (fun c (hc : c < 4) => below_cell hS.out.2.2 _ _ (hcc c hc))
      have HBK := Lib.hid hS.out.1
      have e1 : 4 * r = r * 4 := by omega
      have HSP := Lib.hid (splice_put xss hlt)
      rw [e1] at HSP
      clear g0 eR hcc
      go_wp2_with (with_reducible refine wpList_copy_splice rfl (.tmp 16) (.tmp 17) 29 29 rfl 3 Try.underlying29 (by kernel_rfl) (some ⟨w.heap.size + 1 + 1, r * 4, none⟩) (some ⟨b', o', none⟩) 4 4 4 cap' rfl rfl (w.heap.size + 1 + 1) (r * 4) (l16 (put xss r)) 118 ?e1 [.int .i64 (nn xss r 0), .int .i64 (nn xss r 1), .int .i64 (nn xss r 2), .int .i64 (nn xss r 3)] ?e2 ?e3 ?e4 ?e5 (w.heap.size + 1 + 1) wi ?e6 ?e7 ?_)
      case e1 => exact HBK.out
      case e2 => rfl
      case e3 =>
        have key : ∀ (j : Nat) (v : Value), ([.int .i64 (nn xss r 0), .int .i64 (nn xss r 1), .int .i64 (nn xss r 2), .int .i64 (nn xss r 3)] : List Value)[j]? = some v → wi.cell? ⟨b', o' + j, none⟩ = some v := by
          intro j v hj
          match j, hj with
          | 0, hj => simp at hj; subst hj; exact HCC.out 0 (by omega)
          | 1, hj => simp at hj; subst hj; exact HCC.out 1 (by omega)
          | 2, hj => simp at hj; subst hj; exact HCC.out 2 (by omega)
          | 3, hj => simp at hj; subst hj; exact HCC.out 3 (by omega)
          | n + 4, hj => simp at hj
        first
          | exact key
          | exact fun _ => key
          | exact fun _ => ⟨rfl, _, rfl, fun j v hj => by rw [row.opn_add]; exact key j v hj⟩
      case e4 => simp [l16]; omega
      case e5 => intro v hv; simp at hv; rcases hv with rfl | rfl | rfl | rfl <;> rfl
      case e6 => exact Below.refl _ _
      case e7 => exact Nat.le_refl _
      intro w1 HG1 hB1
      have HN : Hid (Blk w1 (w.heap.size + 1 + 1) 118 (l16 (put xss (r + 1))).toArray) := Lib.hid (by have := HG1.out; rw [HSP.out] at this; exact this)
      have HR := Lib.hid (hS.out.2.1.belowB hB1 (Nat.lt_succ_self _))
      have HBB := Lib.hid (hS.out.2.2.trans (hB1.mono (by omega)))
      clear HG1 hB1 g1 HCC HBK HSP hS
      go_wp2_with fail
      go_roundw
      case rel => exact ⟨r + 1, by omega, by go_num, Lib.hid ⟨HN.out, HR.out, HBB.out⟩⟩
      case measure => simp [intOf]; omega
    · have hkz : ¬ (r : Int) < 4 := by omega
      have hr4 : r = 4 := by omega
      have HN := Lib.hid hS.out
      rw [hr4] at HN
      obtain ⟨r0, r1, r2, r3, r4, r5, r6, r7, r8, r9, r10, r11, r12, r13, r14, r15, rl⟩ := cells16 HN.out.2.1
      have hB := HN.out.1
      unfold l16 at hB
      obtain ⟨c0, c1, c2, c3, c4, c5, c6, c7, c8, c9, c10, c11, c12, c13, c14, c15, cl⟩ := cells16 hB
      have rf : ∀ k, wi.frozen? ⟨w.heap.size + 1, k, none⟩ = false := fun k => Joins.unfrozen_of_block HN.out.2.1 k
      clear hr4 hS hB
      go_wp2_with fail
      refine bodyPost_ret (v := .agg (l16 (put xss 4)).toArray) (by unfold l16; simp [results, Try.results98, go_sem, r0, r1, r2, r3, r4, r5, r6, r7, r8, r9, r10, r11, r12, r13, r14, r15]) rfl ⟨rfl, ?_⟩
      repeat (first | (with_reducible exact HN.out.2.2) | (with_reducible refine Below.setCell ?_ (by simp) _))


end Go.Proofs.Ytggodllfaggjiab.frf
