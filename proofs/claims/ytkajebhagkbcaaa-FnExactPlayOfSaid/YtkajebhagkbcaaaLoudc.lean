/- IsQuiet and FirstLoud of the model, IsQuiet of the program. -/
import Derived.Test.YtkajebhagkbcaaaLoudb
namespace Go.Proofs.Ytkajebhagkbcaaa.loud
open Go.RowKit Go.Deep Go.Proofs.Ytkajebhagkbcaaa.base
open Go.Proofs.Ytkajebhagkbcaaa.val (okBox okRow okSizes boxB boxB_yes boxB_no)
open Go.Proofs.Ytkajebhagkbcaaa.ints (ret_int)
open Go.Proofs.Ytkajebhagkbcaaa.rws (total)
open Go.Proofs.Ytkajebhagkbcaaa.row (one at_ nn)







/-! ### IsQuiet of the program -/
theorem least {p : Nat → Prop} : ∀ n, p n → ∃ m, p m ∧ ∀ j, j < m → ¬ p j := by
  intro n
  induction n using Nat.strongRecOn with
  | _ n ih =>
    intro hn
    by_cases h : ∃ j, j < n ∧ p j
    · obtain ⟨j, hj, hp⟩ := h; exact ih j hj hp
    · exact ⟨n, hn, fun j hj hp => h ⟨j, hj, hp⟩⟩
theorem ex_first {xss : List (List Int)} {X Y : Nat} (h : ¬ Quiet xss X Y) : ∃ p q, First xss X Y p q := by
  by_cases h0 : ∃ j, j < X ∧ loud0 xss Y j
  · obtain ⟨j, hj, hl⟩ := h0
    obtain ⟨m, hm, hmin⟩ := least (p := fun j => loud0 xss Y j) j hl
    refine ⟨0, m, .inl ⟨rfl, ?_, hm, hmin⟩⟩
    rcases Nat.lt_or_ge j m with g | g
    · exact absurd hl (hmin j g)
    · omega
  · have h0' : ∀ j, j < X → ¬ loud0 xss Y j := fun j hj hl => h0 ⟨j, hj, hl⟩
    by_cases h1 : ∃ j, j < Y ∧ loud1 xss X Y j
    · obtain ⟨j, hj, hl⟩ := h1
      obtain ⟨m, hm, hmin⟩ := least (p := fun j => loud1 xss X Y j) j hl
      refine ⟨1, m, .inr ⟨rfl, h0', ?_, hm, hmin⟩⟩
      rcases Nat.lt_or_ge j m with g | g
      · exact absurd hl (hmin j g)
      · omega
    · exact absurd ⟨h0', fun j hj hl => h1 ⟨j, hj, hl⟩⟩ h
theorem quiet_fl {X Y : Nat} {wh : Int} {xss : List (List Int)} (h : okBox X Y wh xss) : (!(fl X Y wh xss).2.2) = quietB X Y wh xss := by
  by_cases hq : Quiet xss X Y
  · rw [fl_quiet h hq, quietB_yes h hq]; rfl
  · obtain ⟨p, q, hf⟩ := ex_first hq
    rw [fl_first h hf, quietB_loud hf]; rfl



end Go.Proofs.Ytkajebhagkbcaaa.loud
