/- The cells of lists and of rows that are not empty. It speaks of no program. -/
import Derived.Test.YtiigfhigmdjooaaRow
namespace Go.Proofs.Ytiigfhigmdjooaa.cll
open Go.RowKit Go.Deep Go.Proofs.Ytiigfhigmdjooaa.base
open Go.Proofs.Ytiigfhigmdjooaa.row (nn)

theorem ints {w : World} {v : Value} {xs : List Int} {n : Nat} (h : Ints w v xs) (hl : xs.length = n) (h0 : 0 < n) :
    ∃ b o cap, v = .slice (some ⟨b, o, none⟩) n cap ∧ n ≤ cap ∧ cap ≤ maxLen ∧ ∀ k, k < n → w.cell? ⟨b, o + k, none⟩ = some (.int .i64 (xs.getD k 0)) := by
  obtain ⟨A, b, o, cap, rfl, hcap, hmax, hA, hc⟩ := h.form
  rw [hl] at hcap
  obtain rfl := hA (by omega)
  rw [hl]
  refine ⟨b, o, cap, rfl, hcap, hmax, fun k hk => ?_⟩
  have hk' : k < xs.length := by omega
  rw [hc k hk']
  simp [List.getD, hk']
theorem rows {w : World} {v : Value} {xss : List (List Int)} {n Y : Nat} (h : IRows w v xss) (hl : xss.length = n) (h0 : 0 < n) (hY : 0 < Y) (hr : ∀ r, r < n → (xss.getD r []).length = Y) :
    ∃ b o cap, v = .slice (some ⟨b, o, none⟩) n cap ∧ n ≤ cap ∧ cap ≤ maxLen ∧ ∀ r, r < n → ∃ b' o' cap', w.cell? ⟨b, o + r, none⟩ = some (.slice (some ⟨b', o', none⟩) Y cap') ∧ ∀ c, c < Y → w.cell? ⟨b', o' + c, none⟩ = some (.int .i64 (nn xss r c)) := by
  obtain ⟨A, b, o, cap, R, rfl, hcap, hmax, hA, hc⟩ := h.form
  rw [hl] at hcap
  obtain rfl := hA (by omega)
  rw [hl]
  refine ⟨b, o, cap, rfl, hcap, hmax, fun r hr' => ?_⟩
  have hk' : r < xss.length := by omega
  obtain ⟨g, i⟩ := hc r hk'
  have e := row.getD_lt hk'
  have hy := hr r hr'
  rw [e] at hy
  obtain ⟨b', o', cap', hv, _, _, hcells⟩ := ints i hy hY
  refine ⟨b', o', cap', by rw [g, hv], fun c hc' => ?_⟩
  rw [hcells c hc']
  unfold nn
  rw [e]

end Go.Proofs.Ytiigfhigmdjooaa.cll
