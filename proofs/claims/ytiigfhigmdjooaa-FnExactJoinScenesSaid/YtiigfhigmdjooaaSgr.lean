/- Sign games: their cells; numbers read off them. -/
import Derived.Test.YtiigfhigmdjooaaSgn
import Derived.Test.YtiigfhigmdjooaaWorth
namespace Go.Proofs.Ytiigfhigmdjooaa.sgn
open Go.RowKit Go.Deep Go.Proofs.Ytiigfhigmdjooaa.base
open Go.Proofs.Ytiigfhigmdjooaa.val (okSizes ret_b)
open Go.Proofs.Ytiigfhigmdjooaa.play (within withinB withinB_yes withinB_no)
open Go.Proofs.Ytiigfhigmdjooaa.row (nn)

theorem pos {xss : List (List Int)} (h : okSign xss) : 0 < xss.length := by have := h.1.1; omega
theorem len3 {xss : List (List Int)} (h : okSign xss) : xss.length ≤ 3 := by have := h.1.1; omega
theorem wide3 {xss : List (List Int)} (h : okSign xss) : 1 ≤ wide xss ∧ wide xss ≤ 3 := by have := h.1.2; omega
theorem rowlen {xss : List (List Int)} (h : okSign xss) {r : Nat} (hr : r < xss.length) : xss[r].length = wide xss := by have := (h.2 r hr).1; omega
theorem nn_bd {xss : List (List Int)} (h : okSign xss) {r c : Nat} (hr : r < xss.length) (hc : c < wide xss) : -9 ≤ nn xss r c ∧ nn xss r c ≤ 9 := by
  have hl := rowlen h hr
  rw [← worth.nn_row xss hr (by omega)]
  exact (h.2 r hr).2 c (by omega)
/-- a row's cells -/
theorem cells {w : World} {d q : Nat} {u : Value} {xss : List (List Int)} (h : okSign xss) {r : Nat} (hr : r < xss.length) (hc : w.cell? ⟨d, q + r, none⟩ = some u) (hu : Ints w u xss[r]) :
    ∃ b o cap, w.cell? ⟨d, q + r, none⟩ = some (.slice (some ⟨b, o, none⟩) (wide xss : Nat) cap) ∧ ∀ c, c < wide xss → w.cell? ⟨b, o + c, none⟩ = some (.int .i64 (nn xss r c)) := by
  obtain ⟨A, b, o, cap, rfl, _, _, hA, hcell⟩ := hu.form
  have hl := rowlen h hr
  have hw := wide3 h
  obtain rfl := hA (by omega)
  refine ⟨b, o, cap, by rw [hc, hl], fun c h1 => ?_⟩
  rw [hcell c (by omega), worth.nn_row xss hr (by omega)]
/-- the first row's length -/
theorem cell0 {w : World} {v : Value} {xss : List (List Int)} (h : okSign xss) (hv : IRows w v xss) :
    ∃ d q cap, v = .slice (some ⟨d, q, none⟩) xss.length cap ∧ (∃ a c, w.cell? ⟨d, q, none⟩ = some (.slice a (wide xss : Nat) c)) ∧
      ∀ r, r < xss.length → ∃ b o cap, w.cell? ⟨d, q + r, none⟩ = some (.slice (some ⟨b, o, none⟩) (wide xss : Nat) cap) ∧ ∀ c, c < wide xss → w.cell? ⟨b, o + c, none⟩ = some (.int .i64 (nn xss r c)) := by
  obtain ⟨B, d, q, cap, R, rfl, _, _, hB, hr⟩ := hv.form
  have hp := pos h
  obtain rfl := hB (by omega)
  refine ⟨d, q, cap, rfl, ?_, fun r h1 => cells h h1 (hr r h1).1 (hr r h1).2⟩
  obtain ⟨b, o, c, h1, _⟩ := cells h hp (hr 0 hp).1 (hr 0 hp).2
  exact ⟨_, _, h1⟩

end Go.Proofs.Ytiigfhigmdjooaa.sgn
