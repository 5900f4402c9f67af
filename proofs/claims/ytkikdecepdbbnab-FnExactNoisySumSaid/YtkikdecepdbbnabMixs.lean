/- MixBoxes of the model: the mixed box. -/
import Derived.Test.YtkikdecepdbbnabBuilt
import Derived.Test.YtkikdecepdbbnabStep
import Derived.Deep.RegionHeld3
namespace Go.Proofs.Ytkikdecepdbbnab.mix
open Go.RowKit Go.Deep Go.Proofs.Ytkikdecepdbbnab.base
open Go.Proofs.Ytkikdecepdbbnab.ints (ret_int infoInt infoInts)
open Go.Proofs.Ytkikdecepdbbnab.rws (total)
open Go.Proofs.Ytkikdecepdbbnab.val (okSizes okBox boxB boxB_yes boxB_no)
open Go.Proofs.Ytkikdecepdbbnab.row (nn nn_bd at_ at_lt)

def N (xss yss : List (List Int)) (r k : Nat) : Int := nn xss r k + nn yss r k
theorem take_succ (M : Nat → Nat → Int) (r c : Nat) (h : c < 4) : (make.quad M r).take c ++ [M r c] = (make.quad M r).take (c + 1) := by
  obtain rfl | rfl | rfl | rfl : c = 0 ∨ c = 1 ∨ c = 2 ∨ c = 3 := by omega
  all_goals rfl
theorem lows6 {n : Nat} {w w' : World} {p0 p1 p2 p3 p4 p5 : Addr} {u0 u1 u2 u3 u4 u5 : Value} (h0 : w.cell? p0 = some u0) (h1 : w.cell? p1 = some u1) (h2 : w.cell? p2 = some u2) (h3 : w.cell? p3 = some u3) (h4 : w.cell? p4 = some u4) (h5 : w.cell? p5 = some u5)
    (l0 : p0.block < n) (l1 : p1.block < n) (l2 : p2.block < n) (l3 : p3.block < n) (l4 : p4.block < n) (l5 : p5.block < n) (h : step.Low n w w') :
    w'.cell? p0 = some u0 ∧ w'.cell? p1 = some u1 ∧ w'.cell? p2 = some u2 ∧ w'.cell? p3 = some u3 ∧ w'.cell? p4 = some u4 ∧ w'.cell? p5 = some u5 :=
  ⟨(h _ l0).trans h0, (h _ l1).trans h1, (h _ l2).trans h2, (h _ l3).trans h3, (h _ l4).trans h4, (h _ l5).trans h5⟩
/-- the four cells of a row -/
theorem rowcells {x y wh : Int} {xss : List (List Int)} {w : World} {r : Nat} {u : Value} (h : okBox x y wh xss) (hr : r < xss.length) (hu : Ints w u xss[r]) :
    ∃ (b2 o2 cap2 : Nat), u = .slice (some ⟨b2, o2, none⟩) 4 cap2 ∧ (∀ k, k < 4 → w.cell? ⟨b2, o2 + k, none⟩ = some (.int .i64 (nn xss r k))) ∧ (∀ k, k < 4 → 0 ≤ nn xss r k ∧ nn xss r k ≤ 1000) := by
  obtain ⟨b2, o2, cap2, e, _, _, k0, k1, k2, k3⟩ := row.cells4 (W := w) h hr (by rw [row.getD_lt hr]; exact hu)
  refine ⟨b2, o2, cap2, e, fun k hk => ?_, fun k hk => nn_bd h hr hk⟩
  obtain rfl | rfl | rfl | rfl : k = 0 ∨ k = 1 ∨ k = 2 ∨ k = 3 := by omega
  · exact k0
  · exact k1
  · exact k2
  · exact k3

/-- rows of four numbers each, not too great ones -/
def wide (n : Nat) (wh : Int) (yss : List (List Int)) : Prop := yss.length = n ∧ (0 ≤ wh ∧ wh ≤ 1000000) ∧ ∀ r (h : r < yss.length), yss[r].length = 4 ∧ ∀ k, k < 4 → 0 ≤ nn yss r k ∧ nn yss r k ≤ 1000000
theorem rowcellsw {n : Nat} {wh : Int} {xss : List (List Int)} {w : World} {r : Nat} {u : Value} (h : wide n wh xss) (hr : r < xss.length) (hu : Ints w u xss[r]) :
    ∃ (b2 o2 cap2 : Nat), u = .slice (some ⟨b2, o2, none⟩) 4 cap2 ∧ (∀ k, k < 4 → w.cell? ⟨b2, o2 + k, none⟩ = some (.int .i64 (nn xss r k))) ∧ (∀ k, k < 4 → 0 ≤ nn xss r k ∧ nn xss r k ≤ 1000000) := by
  obtain ⟨hl, hb⟩ := h.2.2 r hr
  obtain ⟨A, b, o, cap, hv, h1, h2, h3, hc⟩ := hu.form
  rw [hl] at hv h1 h3
  rw [h3 (by omega)] at hv
  refine ⟨b, o, cap, hv, fun k hk => ?_, hb⟩
  have := hc k (by omega)
  have e : nn xss r k = xss[r][k]'(by omega) := by
    unfold nn
    rw [row.getD_lt hr]
    simp [List.getD, show k < xss[r].length by omega]
  rw [e]
  exact this


theorem wide_of {x y wh wh' : Int} {xss yss : List (List Int)} (h : okBox x y wh xss) (h' : okBox x y wh' yss) : wide xss.length wh' yss :=
  ⟨by have h1 := h.2.2.1; have h2 := h'.2.2.1; omega, by have := h'.2.1; omega, fun r hr => ⟨(h'.2.2.2 r hr).1, fun k hk => by have := nn_bd h' hr hk; omega⟩⟩


end Go.Proofs.Ytkikdecepdbbnab.mix
