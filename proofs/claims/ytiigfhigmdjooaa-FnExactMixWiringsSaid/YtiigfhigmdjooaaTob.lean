/- tableOf of the program: lists of the same length, copied to a table. -/
import Derived.Test.YtiigfhigmdjooaaTab
import Derived.Test.YtiigfhigmdjooaaCll
import Derived.Laws.CopyOwn
namespace Go.Proofs.Ytiigfhigmdjooaa.tab
open Go.RowKit Go.Deep Go.Proofs.Ytiigfhigmdjooaa.base
open Go.Proofs.Ytiigfhigmdjooaa.ints (ret_int infoInt infoInts)
open Go.Proofs.Ytiigfhigmdjooaa.row (nn)

def G (xss : List (List Int)) (Y n i : Nat) : Int := if i < n then nn xss (i / Y) (i % Y) else 0
theorem dmt (a Y c : Nat) (hc : c < Y) : (a * Y + c) / Y = a ∧ (a * Y + c) % Y = c := by
  rw [Nat.mul_comm]
  refine ⟨?_, ?_⟩
  · rw [Nat.mul_add_div (by omega), Nat.div_eq_of_lt hc, Nat.add_zero]
  · rw [Nat.mul_add_mod, Nat.mod_eq_of_lt hc]
theorem G_step (xss : List (List Int)) (Y a i : Nat) : (if a * Y ≤ i ∧ i < a * Y + Y then nn xss a (i - a * Y) else G xss Y (a * Y) i) = G xss Y ((a + 1) * Y) i := by
  unfold G
  rw [Nat.add_mul, Nat.one_mul]
  by_cases h : a * Y ≤ i ∧ i < a * Y + Y
  · rw [if_pos h, if_pos h.2]
    obtain ⟨c, rfl⟩ : ∃ c, i = a * Y + c := ⟨i - a * Y, by omega⟩
    obtain ⟨e1, e2⟩ := dmt a Y c (by omega)
    rw [e1, e2, Nat.add_sub_cancel_left]
  · rw [if_neg h]
    by_cases h2 : i < a * Y
    · rw [if_pos h2, if_pos (by omega)]
    · rw [if_neg h2, if_neg (by omega)]

/-- the finished table -/
theorem Tab.rowsG {w W : World} {g X Y M : Nat} {v : Value} {xss : List (List Int)} (h : Tab w W g v X Y M (G xss Y (X * Y))) (hM : M = X * Y) (hm : M ≤ 12) (hX : xss.length = X) (hr : ∀ r, r < X → (xss.getD r []).length = Y) : OwnRows W w.heap.size W.heap.size v xss := by
  have hs := app.sl_of_owns h.own
  have vb : ∀ p, In v p → v.ownBlock = some p.block := by
    rintro p ⟨b, o, len, cap, rfl, hb, _⟩
    simp [Value.ownBlock, hb]
  have su : ∀ u ∈ slots g Y X, ∃ i, i < X ∧ u = .slice (some ⟨g, i * Y, none⟩) Y Y := by
    intro u hu
    obtain ⟨i, hi, rfl⟩ := List.mem_map.1 hu
    exact ⟨i, List.mem_range.1 hi, rfl⟩
  have inu : ∀ i p, In (.slice (some ⟨g, i * Y, none⟩) Y Y) p → p.block = g ∧ p.spot = none ∧ i * Y ≤ p.off ∧ p.off < i * Y + Y := by
    rintro i p ⟨b, o, len, cap, hv, h1, h2, h3, h4⟩
    injection hv with e1 e2 _
    injection e1 with e1
    injection e1 with e1 e3
    subst e1; subst e2; subst e3
    exact ⟨h1, h2, h3, h4⟩
  have far : ∀ i j : Nat, i < j → i * Y + Y ≤ j * Y := fun i j hij => by
    calc i * Y + Y = (i + 1) * Y := by rw [Nat.add_mul, Nat.one_mul]
      _ ≤ j * Y := Nat.mul_le_mul_right _ hij
  refine ⟨slots g Y X, hs, by rw [len_slots, hX], ?_, ?_, fun p hp => In.lt hs hp, ?_, ?_, ?_, ?_, ?_⟩
  · intro r hrl
    have hr' : r < X := by omega
    have e := row.getD_lt hrl
    have hy := hr r hr'
    rw [e] at hy
    have h9 : r * Y + Y ≤ X * Y := by
      calc r * Y + Y = (r + 1) * Y := by rw [Nat.add_mul, Nat.one_mul]
        _ ≤ X * Y := Nat.mul_le_mul_right _ hr'
    refine ⟨_, slots_at hr', some ⟨g, r * Y, none⟩, Y, ?_, ?_, ?_, ?_⟩
    · rw [len_i64s, hy]
    · rw [len_i64s, hy]; exact Nat.le_refl _
    · unfold maxLen; omega
    · intro k u hu
      have hk : k < Y := by
        rcases Nat.lt_or_ge k Y with h' | h'
        · exact h'
        · rw [List.getElem?_eq_none (by rw [len_i64s, hy]; exact h')] at hu; cases hu
      refine ⟨g, r * Y, rfl, ?_⟩
      obtain ⟨e1, e2⟩ := dmt r Y k hk
      have hc := h.num.cell (i := r * Y + k) (by omega)
      rw [hc]
      unfold G
      rw [if_pos (by omega), e1, e2]
      rw [← hu, get_i64s (by omega : k < xss[r].length)]
      unfold nn
      rw [e]
      have hk2 : k < xss[r].length := by omega
      simp [List.getD, hk2]
  · intro p hp; have := (h.own.lt _ (vb p hp)).1; have := h.ge; omega
  · intro u hu p hp
    obtain ⟨i, _, rfl⟩ := su u hu
    rw [(inu i p hp).1]; exact h.ge
  · intro u hu p hp
    obtain ⟨i, _, rfl⟩ := su u hu
    rw [(inu i p hp).1]; exact h.num.lt
  · intro u hu p hp
    obtain ⟨i, _, rfl⟩ := su u hu
    obtain ⟨e1, e2, _, _⟩ := inu i p hp
    have := h.num.frozen p.off
    obtain ⟨pb, po, pst⟩ := p
    simp only at e1 e2 this
    subst e1; subst e2
    exact this
  · intro u hu p hp hq
    obtain ⟨i, _, rfl⟩ := su u hu
    have h1 := (inu i p hp).1
    have h2 := (h.own.lt _ (vb p hq)).1
    omega
  · intro r s a b hne ha hb p hp hq
    have hr : r < X := by
      rcases Nat.lt_or_ge r X with h' | h'
      · exact h'
      · rw [List.getElem?_eq_none (by rw [len_slots]; omega)] at ha; cases ha
    have hs' : s < X := by
      rcases Nat.lt_or_ge s X with h' | h'
      · exact h'
      · rw [List.getElem?_eq_none (by rw [len_slots]; omega)] at hb; cases hb
    rw [slots_at hr] at ha
    rw [slots_at hs'] at hb
    injection ha with ha
    injection hb with hb
    subst ha; subst hb
    obtain ⟨_, _, h3, h4⟩ := inu r p hp
    obtain ⟨_, _, h5, h6⟩ := inu s p hq
    rcases Nat.lt_or_gt_of_ne hne with e | e
    · have := far r s e; omega
    · have := far s r e; omega



end Go.Proofs.Ytiigfhigmdjooaa.tab
