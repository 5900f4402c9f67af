/- The cells of a valid Rule. It speaks of no program. -/
import Derived.Test.YtiigfhigmdjooaaWrm
import Derived.Test.YtiigfhigmdjooaaRule
import Derived.Test.YtiigfhigmdjooaaCll
namespace Go.Proofs.Ytiigfhigmdjooaa.rcl
open Go.RowKit Go.Deep Go.Proofs.Ytiigfhigmdjooaa.base
open Go.Proofs.Ytiigfhigmdjooaa.row (nn)
open Go.Proofs.Ytiigfhigmdjooaa.play (within)
open Go.Proofs.Ytiigfhigmdjooaa.wrm (rule tab bit get_bit tab_get)
open Go.Proofs.Ytiigfhigmdjooaa.rule (RV)

/-- n bits -/
def Bits (w : World) (b o : Nat) (xs : List Int) (n : Nat) : Prop := ∀ k, k < n → w.cell? ⟨b, o + k, none⟩ = some (.int .i64 (bit xs k : Int)) ∧ bit xs k ≤ 1
/-- two rows of n bits -/
def BRows (w : World) (b o : Nat) (xss : List (List Int)) (n : Nat) : Prop := ∀ r, r < 2 → ∃ b' o' c', w.cell? ⟨b, o + r, none⟩ = some (.slice (some ⟨b', o', none⟩) n c') ∧ Bits w b' o' (xss.getD r []) n
theorem Bits.below {w w' : World} {b o n : Nat} {xs : List Int} (h : Bits w b o xs n) (hb : Below w.heap.size w w') : Bits w' b o xs n := fun k hk => ⟨below_cell hb _ _ (h k hk).1, (h k hk).2⟩
theorem BRows.below {w w' : World} {b o n : Nat} {xss : List (List Int)} (h : BRows w b o xss n) (hb : Below w.heap.size w w') : BRows w' b o xss n := fun r hr => by
  obtain ⟨b', o', c', h1, h2⟩ := h r hr
  exact ⟨b', o', c', below_cell hb _ _ h1, h2.below hb⟩
theorem bits {w : World} {v : Value} {xs : List Int} {n : Nat} (h : Ints w v xs) (hw : within n 0 1 xs) (h0 : 0 < n) : ∃ b o c, v = .slice (some ⟨b, o, none⟩) n c ∧ Bits w b o xs n := by
  obtain ⟨b, o, c, hv, _, _, hc⟩ := cll.ints h (by have := hw.1; omega) h0
  refine ⟨b, o, c, hv, fun k hk => ?_⟩
  obtain ⟨h1, h2, h3⟩ := get_bit hw hk
  refine ⟨?_, h3⟩
  rw [hc k hk, ← h2]
  simp [List.getD, h1]
theorem rows {w : World} {v : Value} {xss : List (List Int)} {n : Nat} (h : IRows w v xss) (ht : tab n xss) (h0 : 0 < n) : ∃ b o c, v = .slice (some ⟨b, o, none⟩) 2 c ∧ BRows w b o xss n := by
  obtain ⟨b, o, c, hv, _, _, hc⟩ := cll.rows h ht.1 (by omega) h0 (fun r hr => by
    obtain ⟨_, _, hw⟩ := tab_get ht hr
    have := hw.1; omega)
  refine ⟨b, o, c, hv, fun r hr => ?_⟩
  obtain ⟨b', o', c', h1, h2⟩ := hc r hr
  obtain ⟨_, _, hw⟩ := tab_get ht hr
  refine ⟨b', o', c', h1, fun k hk => ?_⟩
  obtain ⟨g1, g2, g3⟩ := get_bit hw hk
  refine ⟨?_, g3⟩
  rw [h2 k hk, ← g2]
  simp [nn, List.getD] at g1 ⊢
  simp [g1]
/-- the parts of a valid Rule -/
theorem parts {w : World} {sv u nv : Value} {ss : List Int} {xss yss : List (List Int)} (h : RV w sv ss u xss nv yss) (hr : rule ss xss yss) :
    ∃ b0 o0 c0 b1 o1 c1 b2 o2 c2, sv = .slice (some ⟨b0, o0, none⟩) 2 c0 ∧ u = .slice (some ⟨b1, o1, none⟩) 2 c1 ∧ nv = .slice (some ⟨b2, o2, none⟩) 2 c2 ∧ Bits w b0 o0 ss 2 ∧ BRows w b1 o1 xss 2 ∧ BRows w b2 o2 yss 4 := by
  obtain ⟨b0, o0, c0, e0, k0⟩ := bits (n := 2) h.ints hr.1 (by omega)
  obtain ⟨b1, o1, c1, e1, k1⟩ := rows (n := 2) h.rows hr.2.1 (by omega)
  obtain ⟨b2, o2, c2, e2, k2⟩ := rows (n := 4) h.rows2 hr.2.2 (by omega)
  exact ⟨b0, o0, c0, b1, o1, c1, b2, o2, c2, e0, e1, e2, k0, k1, k2⟩

end Go.Proofs.Ytiigfhigmdjooaa.rcl
