/- slices.Index and slices.Contains over pairs. -/
import Derived.Test.YtimfnhejiiagmaaQpr
import Derived.BigQuiet
namespace Go.Proofs.Ytimfnhejiiagmaa.qix
open Go.RowKit Go.Deep Go.Proofs.Ytimfnhejiiagmaa.base
open Go.Proofs.Ytimfnhejiiagmaa.prs Go.Proofs.Ytimfnhejiiagmaa.pro
open Go.Proofs.Ytimfnhejiiagmaa.prt (infoA2 two_cells)

@[go_sem] theorem eqA2 (a b c d : Int) (w : World) : (Op.equalIn 10000 26 (.agg #[.int .i64 a, .int .i64 b]) (.agg #[.int .i64 c, .int .i64 d])).run Try.prog w = .ok (a == c && b == d) w := by
  have u3 := Try.underlying3
  have a3 := Try.isAgg3
  have z3 := Try.sizeOf3
  rw [show (10000 : Nat) = 9999 + 1 from rfl, Op.equalIn]
  simp only [Sem.run_bind, run_underlying Try.underlying26, Result.andThen_ok]
  simp only [Std.Legacy.Range.forIn_eq_forIn_range', Std.Legacy.Range.size, Nat.sub_zero, Nat.add_sub_cancel, Nat.div_one, List.range'_succ, List.range'_zero, List.forIn_cons, List.forIn_nil]
  go_simp
  by_cases h1 : a = c <;> by_cases h2 : b = d <;> simp [h1, h2]


set_option maxHeartbeats 4000000 in
theorem index (v : Value) (ps : List (Int × Int)) (x y : Int) (w : World) (h : Pairs w v ps) :
    Calls Try.prog 220 #[v, .agg #[.int .i64 x, .int .i64 y]] w fun e w' => (∃ k : Int, e = .returned (.int .i64 k) ∧ (0 ≤ k ↔ (x, y) ∈ ps)) ∧ Below w.heap.size w w' := by
  obtain ⟨A, b, o, cap, rfl, hcap, hmax, hA, hc⟩ := h.form
  have B0 := Lib.hid (below_al (Below.refl w.heap.size w) (.cells #[.int .i64 x, .int .i64 y] 26))
  obtain ⟨c0, c1, _⟩ := two_cells (Blk.new w 26 #[.int .i64 x, .int .i64 y])
  have HC := Lib.hid (fun k (hk : k < ps.length) => And.intro (below_cell B0.out _ _ (hc k hk).1) (below_cell B0.out _ _ (hc k hk).2))
  have lm : (ps.length : Int) ≤ 9223372036854775807 := by unfold maxLen at hmax; omega
  clear hc h hcap hmax
  go_enter Try.func220, Try.ntmps220
  go_wp2_with fail
  go_loopw [4, 5, 8] (fun z4 z5 s wr => ∃ k : Nat, k ≤ ps.length ∧ s = .int .i64 (k : Nat) ∧ z4 = .int .i64 0 ∧ (∃ z, z5 = z) ∧ Hid (∀ i (hi : i < ps.length), i < k → ps[i] ≠ (x, y)) ∧ ∃ n, wr = (w.alloc (.cells #[.int .i64 x, .int .i64 y] 26)).drewN n) (fun _ _ s _ => ps.length - (intOf s).toNat)
  case atStart => exact ⟨0, Nat.zero_le _, rfl, rfl, ⟨_, rfl⟩, fun i hi h => absurd h (Nat.not_lt_zero _), 0, by first | rfl | exact (World.drewN_zero _).symm⟩
  case round =>
    obtain ⟨k, hk, rfl, rfl, ⟨z5, rfl⟩, hH, n, rfl⟩ := hrel
    by_cases hlt : k < ps.length
    · have hkz : (k : Int) < (ps.length : Int) := by omega
      obtain rfl := hA (by omega)
      obtain ⟨⟨a, d⟩, hp⟩ : ∃ q, ps[k] = q := ⟨_, rfl⟩
      obtain ⟨p0, p1⟩ := HC.out k hlt
      rw [hp] at p0 p1
      have HP : Hid (∃ hk : k < ps.length, ps[k] = (a, d)) := Lib.hid ⟨hlt, hp⟩
      by_cases he : x = a ∧ y = d
      · have dk : (x == a && y == d) = true := by simp [he]
        have HM : Hid ((x, y) ∈ ps) := Lib.hid (by rw [he.1, he.2, ← hp]; exact List.getElem_mem hlt)
        clear hp he
        go_wp2_with fail
        go_quiet (fail)
        go_wp2_with fail
        go_ret
        exact ⟨⟨k, rfl, ⟨fun _ => HM.out, fun _ => by omega⟩⟩, by first | exact below_drewN B0.out _ | exact below_drewN (below_drewN B0.out _) _⟩
      · have dk : (x == a && y == d) = false := by simpa using he
        have HM : Hid (∀ i (hi : i < ps.length), i < k + 1 → ps[i] ≠ (x, y)) := Lib.hid (fun i hi hk e => by
          rcases Nat.lt_or_ge i k with h1 | h1
          · exact hH.out i hi h1 e
          · obtain rfl : i = k := by omega
            rw [hp] at e
            injection e with e1 e2
            exact he ⟨e1.symm, e2.symm⟩)
        clear hp he
        go_wp2_with fail
        go_quiet (fail)
        go_wp2_with fail
        go_roundw
        case rel => exact ⟨k + 1, by omega, by go_num, rfl, ⟨_, rfl⟩, HM, by first | exact ⟨_, rfl⟩ | exact ⟨_, World.drewN_drewN _ _ _⟩⟩
        case measure => simp [intOf]; omega
    · have hkz : ¬ (k : Int) < (ps.length : Int) := by omega
      go_wp2_with fail
      go_ret
      refine ⟨⟨-1, rfl, ⟨fun h => absurd h (by omega), fun h => ?_⟩⟩, below_drewN B0.out _⟩
      obtain ⟨i, hi, e⟩ := List.getElem_of_mem h
      exact absurd e (hH.out i hi (by omega))



open Classical in
noncomputable def memB (p : Int × Int) (ps : List (Int × Int)) : Bool := if p ∈ ps then true else false
theorem memB_yes {p : Int × Int} {ps : List (Int × Int)} (h : p ∈ ps) : memB p ps = true := if_pos h
theorem memB_no {p : Int × Int} {ps : List (Int × Int)} (h : ¬ p ∈ ps) : memB p ps = false := if_neg h
set_option maxHeartbeats 1000000 in
theorem contains (v : Value) (ps : List (Int × Int)) (x y : Int) (w : World) (h : Pairs w v ps) :
    Calls Try.prog 205 #[v, .agg #[.int .i64 x, .int .i64 y]] w fun e w' => e = .returned (.bool (memB (x, y) ps)) ∧ Below w.heap.size w w' := by
  have B0 := Lib.hid (below_al (Below.refl w.heap.size w) (.cells #[.int .i64 x, .int .i64 y] 26))
  obtain ⟨c0, c1, _⟩ := two_cells (Blk.new w 26 #[.int .i64 x, .int .i64 y])
  have HI := Lib.hid (index v ps x y _ (h.below B0.out))
  obtain ⟨va, vn, vc, rfl⟩ := h.shape
  clear h
  go_enter Try.func205, Try.ntmps205
  go_wp2_with fail
  refine HI.out.mono ?_
  rintro e w' ⟨⟨k, rfl, hk⟩, hb⟩
  have B1 := Lib.hid (below_tr B0.out hb)
  by_cases hm : (x, y) ∈ ps
  · have HM := Lib.hid hm
    have dk : decide (0 ≤ k) = true := by simp [hk.2 hm]
    clear hk hm hb
    go_wp2_with fail
    go_ret
    exact ⟨val.ret_b (memB_yes HM.out).symm, B1.out⟩
  · have HM := Lib.hid hm
    have dk : decide (0 ≤ k) = false := by have h5 : ¬ 0 ≤ k := fun h => hm (hk.1 h); simp; omega
    clear hk hm hb
    go_wp2_with fail
    go_ret
    exact ⟨val.ret_b (memB_no HM.out).symm, B1.out⟩

end Go.Proofs.Ytimfnhejiiagmaa.qix
