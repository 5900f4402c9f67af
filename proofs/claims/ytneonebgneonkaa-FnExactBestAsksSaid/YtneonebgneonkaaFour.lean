/- Four rows as one array value (the program's fourRows): its cells, and the Box made of it. -/
import Derived.Test.YtneonebgneonkaaEqs
namespace Go.Proofs.Ytneonebgneonkaa.four
open Go.RowKit Go.Deep Go.Proofs.Ytneonebgneonkaa.base
open Go.Proofs.Ytneonebgneonkaa.ints (ret_int infoInt infoInts)

def arr (R : Nat → Nat → Int) : Array Value := #[.int .i64 (R 0 0), .int .i64 (R 0 1), .int .i64 (R 0 2), .int .i64 (R 0 3), .int .i64 (R 1 0), .int .i64 (R 1 1), .int .i64 (R 1 2), .int .i64 (R 1 3), .int .i64 (R 2 0), .int .i64 (R 2 1), .int .i64 (R 2 2), .int .i64 (R 2 3), .int .i64 (R 3 0), .int .i64 (R 3 1), .int .i64 (R 3 2), .int .i64 (R 3 3)]
/-- the value of the rows R -/
def rv (R : Nat → Nat → Int) : Value := .agg (arr R)
theorem cells16 {w : World} {b : Nat} {t : TypeId} {c0 c1 c2 c3 c4 c5 c6 c7 c8 c9 c10 c11 c12 c13 c14 c15 : Value} (h : Blk w b t #[c0, c1, c2, c3, c4, c5, c6, c7, c8, c9, c10, c11, c12, c13, c14, c15]) :
    w.cell? ⟨b, 0, none⟩ = some c0 ∧ w.cell? ⟨b, 1, none⟩ = some c1 ∧ w.cell? ⟨b, 2, none⟩ = some c2 ∧ w.cell? ⟨b, 3, none⟩ = some c3 ∧ w.cell? ⟨b, 4, none⟩ = some c4 ∧ w.cell? ⟨b, 5, none⟩ = some c5 ∧ w.cell? ⟨b, 6, none⟩ = some c6 ∧ w.cell? ⟨b, 7, none⟩ = some c7 ∧ w.cell? ⟨b, 8, none⟩ = some c8 ∧ w.cell? ⟨b, 9, none⟩ = some c9 ∧ w.cell? ⟨b, 10, none⟩ = some c10 ∧ w.cell? ⟨b, 11, none⟩ = some c11 ∧ w.cell? ⟨b, 12, none⟩ = some c12 ∧ w.cell? ⟨b, 13, none⟩ = some c13 ∧ w.cell? ⟨b, 14, none⟩ = some c14 ∧ w.cell? ⟨b, 15, none⟩ = some c15 ∧ b < w.heap.size := by
  have hl := h.lt
  unfold Blk at h
  refine ⟨?_, ?_, ?_, ?_, ?_, ?_, ?_, ?_, ?_, ?_, ?_, ?_, ?_, ?_, ?_, ?_, hl⟩ <;> simp only [World.cell?, h] <;> rfl



end Go.Proofs.Ytneonebgneonkaa.four
