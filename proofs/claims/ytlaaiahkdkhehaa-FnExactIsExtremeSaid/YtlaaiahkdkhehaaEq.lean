/- '==' of two values of the program's fourRows. -/
import Derived.Test.YtlaaiahkdkhehaaFrf
import Derived.Laws.StructEq
namespace Go.Proofs.Ytlaaiahkdkhehaa.eqq
open Go.RowKit Go.Deep Go.Proofs.Ytlaaiahkdkhehaa.base

theorem eq4 (d : Nat) (a0 a1 a2 a3 c0 c1 c2 c3 : Int) (w : World) : (Op.equalIn (d + 1 + 1) 65 (.agg #[.int .i64 a0, .int .i64 a1, .int .i64 a2, .int .i64 a3]) (.agg #[.int .i64 c0, .int .i64 c1, .int .i64 c2, .int .i64 c3])).run Try.prog w = .ok (a0 == c0 && (a1 == c1 && (a2 == c2 && a3 == c3))) w := by
  have u3 := Try.underlying3
  rw [Op.equalIn]
  simp only [Sem.run_bind, run_underlying Try.underlying65, Result.andThen_ok]
  simp only [Std.Legacy.Range.forIn_eq_forIn_range', Std.Legacy.Range.size, Nat.sub_zero, Nat.add_sub_cancel, Nat.div_one, List.range'_succ, List.range'_zero, List.forIn_cons, List.forIn_nil]
  go_simp
  by_cases h0 : a0 = c0
  · by_cases h1 : a1 = c1
    · by_cases h2 : a2 = c2
      · by_cases h3 : a3 = c3 <;> simp [h0, h1, h2, h3]
      · simp [h0, h1, h2]
    · simp [h0, h1]
  · simp [h0]
def e4 (F F' : Nat → Int) (r : Nat) : Bool := F (4 * r) == F' (4 * r) && (F (4 * r + 1) == F' (4 * r + 1) && (F (4 * r + 2) == F' (4 * r + 2) && F (4 * r + 3) == F' (4 * r + 3)))
theorem e4_no (F F' : Nat → Int) (r : Nat) : (F (4 * r) = F' (4 * r) → F (4 * r + 1) = F' (4 * r + 1) → F (4 * r + 2) = F' (4 * r + 2) → ¬ F (4 * r + 3) = F' (4 * r + 3)) ↔ e4 F F' r = false := by
  unfold e4
  simp
set_option maxRecDepth 100000 in
set_option maxHeartbeats 4000000 in
theorem eq16 (F F' : Nat → Int) (w : World) : (Op.equalIn 10000 67 (.agg (frf.l16 F).toArray) (.agg (frf.l16 F').toArray)).run Try.prog w = .ok (e4 F F' 0 && (e4 F F' 1 && (e4 F F' 2 && e4 F F' 3))) w := by
  have E := fun a0 a1 a2 a3 c0 c1 c2 c3 W => eq4 9997 a0 a1 a2 a3 c0 c1 c2 c3 W
  unfold frf.l16
  rw [show (10000 : Nat) = 9999 + 1 from rfl, Op.equalIn]
  simp only [Sem.run_bind, run_underlying Try.underlying67, Result.andThen_ok]
  simp only [Std.Legacy.Range.forIn_eq_forIn_range', Std.Legacy.Range.size, Nat.sub_zero, Nat.add_sub_cancel, Nat.div_one, List.range'_succ, List.range'_zero, List.forIn_cons, List.forIn_nil]
  go_simp
  have k0 : (F 0 = F' 0 → F 1 = F' 1 → F 2 = F' 2 → ¬ F 3 = F' 3) ↔ e4 F F' 0 = false := e4_no F F' 0
  have k1 : (F 4 = F' 4 → F 5 = F' 5 → F 6 = F' 6 → ¬ F 7 = F' 7) ↔ e4 F F' 1 = false := e4_no F F' 1
  have k2 : (F 8 = F' 8 → F 9 = F' 9 → F 10 = F' 10 → ¬ F 11 = F' 11) ↔ e4 F F' 2 = false := e4_no F F' 2
  have k3 : (F 12 = F' 12 → F 13 = F' 13 → F 14 = F' 14 → ¬ F 15 = F' 15) ↔ e4 F F' 3 = false := e4_no F F' 3
  simp only [k0, k1, k2, k3]
  cases e4 F F' 0 <;> cases e4 F F' 1 <;> cases e4 F F' 2 <;> cases e4 F F' 3 <;> simp
theorem all_iff (F F' : Nat → Int) : (e4 F F' 0 && (e4 F F' 1 && (e4 F F' 2 && e4 F F' 3))) = true ↔ ∀ p, p < 16 → F p = F' p := by
  unfold e4
  simp only [Bool.and_eq_true, beq_iff_eq]
  constructor
  · rintro ⟨⟨a0, a1, a2, a3⟩, ⟨b0, b1, b2, b3⟩, ⟨c0, c1, c2, c3⟩, d0, d1, d2, d3⟩ p hp
    match p, hp with
    | 0, _ => exact a0
    | 1, _ => exact a1
    | 2, _ => exact a2
    | 3, _ => exact a3
    | 4, _ => exact b0
    | 5, _ => exact b1
    | 6, _ => exact b2
    | 7, _ => exact b3
    | 8, _ => exact c0
    | 9, _ => exact c1
    | 10, _ => exact c2
    | 11, _ => exact c3
    | 12, _ => exact d0
    | 13, _ => exact d1
    | 14, _ => exact d2
    | 15, _ => exact d3
    | n + 16, h => exact absurd h (by omega)
  · intro h
    exact ⟨⟨h _ (by omega), h _ (by omega), h _ (by omega), h _ (by omega)⟩, ⟨h _ (by omega), h _ (by omega), h _ (by omega), h _ (by omega)⟩, ⟨h _ (by omega), h _ (by omega), h _ (by omega), h _ (by omega)⟩, h _ (by omega), h _ (by omega), h _ (by omega), h _ (by omega)⟩
end Go.Proofs.Ytlaaiahkdkhehaa.eqq
