/- WorthOf of the model and of the program. -/
import Derived.Test.YtiigfhigmdjooaaWorthb
namespace Go.Proofs.Ytiigfhigmdjooaa.worth
open Go.RowKit Go.Deep Go.Proofs.Ytiigfhigmdjooaa.base
open Go.Proofs.Ytiigfhigmdjooaa.val (okSizes okBox ret_b mul_small boxB boxB_yes boxB_no)
open Go.Proofs.Ytiigfhigmdjooaa.play (within withinB withinB_yes withinB_no)
open Go.Proofs.Ytiigfhigmdjooaa.row (nn)
open Go.Proofs.Ytiigfhigmdjooaa.rws (total)
open Go.Proofs.Ytiigfhigmdjooaa.ints (ret_int)

/-- the cells of a row of four -/
theorem row4 {W : World} {u : Value} {xss : List (List Int)} {r : Nat} (hr : r < xss.length) (hl : xss[r].length = 4) (hu : Ints W u xss[r]) :
    ∃ b o cap, u = .slice (some ⟨b, o, none⟩) 4 cap ∧ 4 ≤ cap ∧ b < W.heap.size ∧ ∀ c, c < 4 → W.cell? ⟨b, o + c, none⟩ = some (.int .i64 (nn xss r c)) := by
  obtain ⟨A, b, o, cap, hv, h1, h2, h3, hc⟩ := hu.form
  rw [hl] at hv h1 h3
  have hA := h3 (by omega)
  have g : ∀ c, c < 4 → W.cell? ⟨b, o + c, none⟩ = some (.int .i64 (nn xss r c)) := fun c hcl => by
    rw [hc c (by omega)]
    exact congrArg (fun z => some (Value.int .i64 z)) (nn_row xss hr (by omega))
  exact ⟨b, o, cap, by rw [hv, hA], h1, World.block_lt_of_cell? _ _ (g 0 (by omega)), g⟩
theorem fun_len {x y : Int} {fss : List (List Int)} (h : okFun x y fss) {r : Nat} (hr : r < fss.length) : fss[r].length = 4 := by
  have := (h.2.2 r hr).1; omega
theorem box_len {x y wh : Int} {xss : List (List Int)} (h : okBox x y wh xss) {r : Nat} (hr : r < xss.length) : xss[r].length = 4 := (h.2.2.2 r hr).1







end Go.Proofs.Ytiigfhigmdjooaa.worth
