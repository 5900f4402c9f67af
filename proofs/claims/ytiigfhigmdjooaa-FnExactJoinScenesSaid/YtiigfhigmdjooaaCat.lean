/- Two lists of lists joined. -/
import Derived.Test.YtiigfhigmdjooaaSgr
import Derived.Test.YtiigfhigmdjooaaPile
namespace Go.Proofs.Ytiigfhigmdjooaa.cat
open Go.RowKit Go.Deep Go.Proofs.Ytiigfhigmdjooaa.base
open Go.Proofs.Ytiigfhigmdjooaa.ints (infoInts)

/-- memory of the call's own that holds some values -/
structure Cat (w W : World) (B : Nat) (v : Value) (vals : List Value) : Prop where
  below : Below w.heap.size w W
  base : w.heap.size ≤ B
  le : B ≤ W.heap.size
  owns : W.ownsRow B 39 1 v vals.length vals

theorem Cat.rows {w W : World} {B : Nat} {v : Value} {vals : List Value} {xss : List (List Int)} (h : Cat w W B v vals) (hl : vals.length = xss.length) (hr : ∀ r (h : r < xss.length), ∃ u, vals[r]? = some u ∧ Ints w u xss[r]) : IRows W v xss :=
  ⟨vals, app.sl_of_owns h.owns, hl, fun r hr' => by obtain ⟨u, h1, h2⟩ := hr r hr'; exact ⟨u, h1, h2.below h.below⟩⟩
theorem Cat.grow {w W w' : World} {B m : Nat} {v v' : Value} {vals news : List Value} (h : Cat w W B v vals) (hm : news.length = m) (ho : w'.ownsRow B 39 1 v' (vals.length + m) (vals ++ news)) (hg : W.grownBy w' v.ownBlock) : Cat w w' B v' (vals ++ news) :=
  ⟨h.below.grown hg h.below.size (fun j hj => Nat.le_trans h.base (h.owns.lt j hj).1), h.base, Nat.le_trans h.le hg.size, by rw [List.length_append, hm]; exact ho⟩

theorem parts {w : World} {v : Value} {xss : List (List Int)} (h : IRows w v xss) (hp : 0 < xss.length) :
    ∃ (b o cap : Nat) (vals : List Value), v = .slice (some ⟨b, o, none⟩) xss.length cap ∧ vals.length = xss.length ∧ (∀ (j : Nat) (u : Value), vals[j]? = some u → w.cell? ((⟨b, o, none⟩ : Addr).add j) = some u) ∧ (∀ u ∈ vals, u.oneCell' = true) ∧
      ∀ r (h : r < xss.length), ∃ u, vals[r]? = some u ∧ Ints w u xss[r] := by
  obtain ⟨vals, h1, h2, h3⟩ := h
  obtain ⟨A, b, o, cap, hv, g1, g2, g3, hc⟩ := h1.form
  obtain rfl := g3 (by omega)
  refine ⟨b, o, cap, vals, by rw [hv, h2], h2, fun j u hu => ?_, fun u hu => ?_, h3⟩
  · rw [row.opn_add]; exact hc j u hu
  · obtain ⟨r, hr⟩ := List.mem_iff_getElem?.1 hu
    have hlt : r < vals.length := by
      rcases Nat.lt_or_ge r vals.length with h | h
      · exact h
      · rw [List.getElem?_eq_none h] at hr; cases hr
    obtain ⟨u', h4, h5⟩ := h3 r (by omega)
    rw [hr] at h4
    injection h4 with h4
    subst h4
    obtain ⟨A, c, hv, _⟩ := h5
    rw [hv]; rfl

theorem joined {w : World} {rvals pvals : List Value} {rss pss : List (List Int)} (hl : rvals.length = rss.length)
    (h : ∀ r (h : r < rss.length), ∃ u, rvals[r]? = some u ∧ Ints w u rss[r]) (h' : ∀ r (h : r < pss.length), ∃ u, pvals[r]? = some u ∧ Ints w u pss[r]) :
    ∀ r (h : r < (rss ++ pss).length), ∃ u, (rvals ++ pvals)[r]? = some u ∧ Ints w u (rss ++ pss)[r] := by
  intro r hr
  rw [List.length_append] at hr
  by_cases e : r < rss.length
  · obtain ⟨u, h1, h2⟩ := h r e
    exact ⟨u, by rw [List.getElem?_append_left (by omega)]; exact h1, by rw [List.getElem_append_left e]; exact h2⟩
  · obtain ⟨u, h1, h2⟩ := h' (r - rss.length) (by omega)
    exact ⟨u, by rw [List.getElem?_append_right (by omega), hl]; exact h1, by rw [List.getElem_append_right (by omega)]; exact h2⟩

end Go.Proofs.Ytiigfhigmdjooaa.cat
