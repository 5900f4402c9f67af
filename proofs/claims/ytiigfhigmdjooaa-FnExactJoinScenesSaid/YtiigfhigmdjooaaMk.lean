/- Rows of four numbers each; what is said of blocks and their types. -/
import Derived.Test.YtiigfhigmdjooaaRow
import Derived.Test.YtiigfhigmdjooaaApp
namespace Go.Proofs.Ytiigfhigmdjooaa.make
open Go.RowKit Go.Deep Go.Proofs.Ytiigfhigmdjooaa.base
open Go.Proofs.Ytiigfhigmdjooaa.ints (ret_int infoInt infoInts)
open Go.Proofs.Ytiigfhigmdjooaa.rws (total)

def quad (N : Nat → Nat → Int) (r : Nat) : List Int := [N r 0, N r 1, N r 2, N r 3]
/-- the first k rows -/
def rowsOf (N : Nat → Nat → Int) (k : Nat) : List (List Int) := (List.range k).map (quad N)
theorem len_rowsOf (N : Nat → Nat → Int) (k : Nat) : (rowsOf N k).length = k := by simp [rowsOf]

theorem blk_type {w : World} {b : Nat} {t t' : TypeId} {c c' : Array Value} {f f' : Nat × Nat} (h : w.heap[b]? = some (.cells c t f)) (h' : w.heap[b]? = some (.cells c' t' f')) : t = t' := by
  rw [h] at h'; injection h' with e; injection e
theorem own_type {w : World} {B e z n b : Nat} {v : Value} {xs : List Value} (h : w.ownsRow B e z v n xs) (hv : v.ownBlock = some b) : ∃ c, w.heap[b]? = some (.cells c e (0, 0)) := by
  rcases h.2 with ⟨rfl, _⟩ | ⟨g, cap, cur, rfl, _, hh, _⟩
  · simp [Value.ownBlock] at hv
  · simp [Value.ownBlock] at hv; subst hv; exact ⟨_, hh⟩

theorem in_row {g : Nat} {p : Addr} (h : In (.slice (some ⟨g, 0, none⟩) 4 4) p) : p.block = g ∧ p.spot = none ∧ p.off < 4 := by
  obtain ⟨b, o, len, cap, hv, hb, hs, h1, h2⟩ := h
  injection hv with e1 e2 e3
  injection e1 with e1
  injection e1 with e1 e4
  subst e1; subst e2; subst e4
  exact ⟨hb, hs, by omega⟩

theorem mk4 (w : World) : (Instr.makeSlice 39 (.int .i64 4) (.int .i64 4)).run Try.prog w = .ok (.slice (some ⟨w.heap.size, 0, none⟩) 4 4) (w.alloc (.cells #[.int .i64 0, .int .i64 0, .int .i64 0, .int .i64 0] 3)) := by kernel_rfl

theorem shape {w : World} {B e n : Nat} {v : Value} {vals : List Value} (h : w.ownsRow B e 1 v n vals) : ∃ a l c, v = .slice a l c := by
  obtain ⟨A, cap, hv, _⟩ := app.sl_of_owns h; exact ⟨_, _, _, hv⟩


theorem total_rowsOf (N : Nat → Nat → Int) (k : Nat) (hk : k ≤ 9) : total (rowsOf N k) ≤ 1048576 := by
  have : ∀ k, ((rowsOf N k).map List.length).sum = 4 * k := by
    intro k
    induction k with
    | zero => rfl
    | succ k ih =>
      have e : rowsOf N (k + 1) = rowsOf N k ++ [quad N k] := by simp [rowsOf, List.range_succ]
      rw [e, List.map_append, List.sum_append, ih]
      simp [quad]; omega
  unfold total; rw [this, len_rowsOf]; omega

end Go.Proofs.Ytiigfhigmdjooaa.make
