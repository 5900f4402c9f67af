/- The numbers of a Trio: number and turnedNumber of the program. -/
import Derived.Test.YtomofmmecpdalabTrv
import Derived.Test.YtomofmmecpdalabTrb
import Derived.Test.YtomofmmecpdalabHld
import Derived.Deep.RegionHeld3
namespace Go.Proofs.Ytomofmmecpdalab.trn
open Go.RowKit Go.Deep Go.Proofs.Ytomofmmecpdalab.base
open Go.Proofs.Ytomofmmecpdalab.tri (two_cells)
open Go.Proofs.Ytomofmmecpdalab.trb (b3 b2 tb tw three_cells)
open Go.Proofs.Ytomofmmecpdalab.hld
open Go.Proofs.Ytomofmmecpdalab.trv (okTrio)

def tc (xss : List (List Int)) (q k : Nat) : Int := (xss.getD q []).getD k 0
def shape (xss : List (List Int)) : Prop := xss.length = 8 ∧ ∀ q, q < 8 → (xss.getD q []).length = 8
theorem getD_at {α : Type} {xs : List α} {d : α} {k : Nat} (h : k < xs.length) : xs.getD k d = xs[k] := by simp [List.getD, h]
theorem shape_of {wh : Int} {xss : List (List Int)} (h : okTrio wh xss) : shape xss := ⟨h.2.1, fun q hq => by
  have hl := h.2.1
  have hql : q < xss.length := by omega
  rw [getD_at hql]
  exact (h.2.2 q hql).1⟩
theorem tc_in {wh : Int} {xss : List (List Int)} (h : okTrio wh xss) {q k : Nat} (hq : q < 8) (hk : k < 8) : 0 ≤ tc xss q k ∧ tc xss q k ≤ 1000 := by
  have hl := h.2.1
  obtain ⟨h1, h2, _⟩ := h.2.2 q (by omega)
  have hql : q < xss.length := by omega
  have hkl : k < xss[q].length := by rw [h1]; exact hk
  unfold tc
  rw [getD_at hql, getD_at hkl]
  have := h2 k hkl
  have := h.1.2
  omega
/-- a Trio's rows in memory, cell by cell -/
theorem forms {w : World} {v : Value} {xss : List (List Int)} (h : IRows w v xss) (hs : shape xss) :
    ∃ (b o cap : Nat) (rb ro rc : Nat → Nat), v = .slice (some ⟨b, o, none⟩) 8 cap ∧ (∀ q, q < 8 → w.cell? ⟨b, o + q, none⟩ = some (.slice (some ⟨rb q, ro q, none⟩) 8 (rc q))) ∧
      ∀ q, q < 8 → ∀ k, k < 8 → w.cell? ⟨rb q, ro q + k, none⟩ = some (.int .i64 (tc xss q k)) := by
  obtain ⟨A, b, o, cap, R, rfl, hcap, hmax, hA, hc⟩ := h.form
  obtain ⟨hl, hr⟩ := hs
  obtain rfl := hA (by omega)
  have key : ∀ q : Nat, ∃ (x y z : Nat), q < 8 → (R q = .slice (some ⟨x, y, none⟩) 8 z ∧ ∀ k, k < 8 → w.cell? ⟨x, y + k, none⟩ = some (.int .i64 (tc xss q k))) := by
    intro q
    by_cases hq : q < 8
    · have hql : q < xss.length := by omega
      obtain ⟨_, hi⟩ := hc q hql
      have hl8 : xss[q].length = 8 := by have := hr q hq; rw [getD_at hql] at this; exact this
      obtain ⟨A', b', o', cap', e, _, _, hA', hc'⟩ := hi.form
      obtain rfl := hA' (by omega)
      refine ⟨b', o', cap', fun _ => ⟨by rw [e, hl8], fun k hk => ?_⟩⟩
      have hkl : k < xss[q].length := by rw [hl8]; exact hk
      have := hc' k hkl
      rw [this]
      unfold tc
      rw [getD_at hql, getD_at hkl]
    · exact ⟨0, 0, 0, fun h => absurd h hq⟩
  refine ⟨b, o, cap, fun q => (key q).choose, fun q => (key q).choose_spec.choose, fun q => (key q).choose_spec.choose_spec.choose, by rw [hl], fun q hq => ?_, fun q hq k hk => ?_⟩
  · have h1 := (hc q (by omega)).1
    have h2 := ((key q).choose_spec.choose_spec.choose_spec hq).1
    rw [h1, h2]
  · exact ((key q).choose_spec.choose_spec.choose_spec hq).2 k hk







end Go.Proofs.Ytomofmmecpdalab.trn
