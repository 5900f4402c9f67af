/- Pairs gathered by append: a slice of the call's own, two cells a place. -/
import Derived.Test.YtimfnhejiiagmaaApp
import Derived.Test.YtimfnhejiiagmaaPrt
import Derived.Test.YtimfnhejiiagmaaApl
namespace Go.Proofs.Ytimfnhejiiagmaa.pro
open Go.RowKit Go.Deep Go.Proofs.Ytimfnhejiiagmaa.base
open Go.Proofs.Ytimfnhejiiagmaa.prs

def pcs (ps : List (Int × Int)) : List Value := ps.flatMap fun p => [.int .i64 p.1, .int .i64 p.2]
theorem pcs_append (a b : List (Int × Int)) : pcs (a ++ b) = pcs a ++ pcs b := by simp [pcs]
theorem pcs_snoc (a : List (Int × Int)) (x y : Int) : pcs a ++ [.int .i64 x, .int .i64 y] = pcs (a ++ [(x, y)]) := by simp [pcs]
theorem pcs_one (x y : Int) : pcs [(x, y)] = [.int .i64 x, .int .i64 y] := by simp [pcs]
theorem len_pcs : ∀ ps : List (Int × Int), (pcs ps).length = ps.length * 2
  | [] => rfl
  | p :: ps => by show ([Value.int .i64 p.1, .int .i64 p.2] ++ pcs ps).length = _; rw [List.length_append, len_pcs ps]; simp; omega
theorem pcs_get : ∀ (ps : List (Int × Int)) (k : Nat) (h : k < ps.length), (pcs ps)[k * 2]? = some (.int .i64 ps[k].1) ∧ (pcs ps)[k * 2 + 1]? = some (.int .i64 ps[k].2)
  | [], k, h => absurd h (by simp)
  | p :: ps, 0, _ => ⟨rfl, rfl⟩
  | p :: ps, k + 1, h => by
    have ih := pcs_get ps k (by simpa using h)
    have e : pcs (p :: ps) = .int .i64 p.1 :: .int .i64 p.2 :: pcs ps := rfl
    rw [e, show (k + 1) * 2 = k * 2 + 2 by omega]
    simpa using ih
theorem pcs_one' (ps : List (Int × Int)) : ∀ u ∈ pcs ps, u.oneCell' = true := by
  intro u hu
  obtain ⟨p, _, hp⟩ := List.mem_flatMap.1 hu
  simp at hp
  rcases hp with rfl | rfl <;> rfl
/-- the cells of a slice of pairs, one after another -/
theorem src {w : World} {b o cap : Nat} {ps : List (Int × Int)} (h : Pairs w (.slice (some ⟨b, o, none⟩) ps.length cap) ps) : ∀ j u, (pcs ps)[j]? = some u → w.cell? ((⟨b, o, none⟩ : Addr).add j) = some u := by
  intro j u hj
  obtain ⟨A, b', o', cap', hv, _, _, hA, hc⟩ := h.form
  have hl : j < ps.length * 2 := by have := (List.getElem?_eq_some_iff.1 hj).1; rw [len_pcs] at this; exact this
  injection hv with e1 _ _
  rw [hA (by omega)] at e1
  injection e1 with e1
  injection e1 with e1 e2
  subst e1; subst e2
  rw [opn.add_none]
  have hk : j / 2 < ps.length := by omega
  obtain ⟨g1, g2⟩ := hc (j / 2) hk
  obtain ⟨q1, q2⟩ := pcs_get ps (j / 2) hk
  rcases (by omega : j = j / 2 * 2 ∨ j = j / 2 * 2 + 1) with e | e
  · rw [e] at hj
    rw [q1] at hj
    rw [e, g1, hj]
  · rw [e] at hj
    rw [q2] at hj
    rw [e, ← Nat.add_assoc, g2, hj]
theorem two_at (w : World) (a b : Value) (t : TypeId) : ∀ (j : Nat) (u : Value), [a, b][j]? = some u → (w.alloc (.cells #[a, b] t)).cell? ((⟨w.heap.size, 0, none⟩ : Addr).add j) = some u := by
  intro j u hj
  match j, hj with
  | 0, hj => simp at hj; subst hj; simp [Addr.add]
  | 1, hj => simp at hj; subst hj; simp [Addr.add]
/-- what an own slice of pairs reads as -/
theorem pairs_of_owns {w : World} {B e n : Nat} {v : Value} {ps : List (Int × Int)} (h : w.ownsRow B e 2 v n (pcs ps)) : OwnPairs w B w.heap.size v ps := by
  have hn : ps.length = n := by have := h.1; rw [len_pcs] at this; omega
  subst hn
  have hp : Pairs w v ps := by
    rcases h.2 with ⟨rfl, h0⟩ | ⟨g, cap, cur, rfl, hg, hh, hnc, hm, hs, ht⟩
    · have : ps = [] := List.eq_nil_of_length_eq_zero h0
      subst this; exact Pairs.nil w
    · refine ⟨some ⟨g, 0, none⟩, cap, rfl, hnc, hm, fun k hk => ⟨g, 0, rfl, ?_, ?_⟩⟩
      · have := (pcs_get ps k hk).1
        rw [← ht, List.getElem?_take, if_pos (by omega)] at this
        rw [Nat.zero_add, Joins.cell_of_block hh]
        simpa using this
      · have := (pcs_get ps k hk).2
        rw [← ht, List.getElem?_take, if_pos (by omega)] at this
        rw [Nat.zero_add, Joins.cell_of_block hh]
        simpa using this
  refine ⟨hp, ?_, fun p hp' => PIn.lt hp hp', ?_⟩
  · rintro p ⟨b, o, len, cap, rfl, hb, _⟩
    have := h.lt b (by simp [Value.ownBlock])
    omega
  · rintro ⟨pb, po, ps'⟩ ⟨b, o, len, cap, rfl, hb, hs, _⟩
    simp at hb hs
    subst hb; subst hs
    rcases h.2 with ⟨h0, _⟩ | ⟨g, cap, cur, hv, hg, hh, _⟩
    · cases h0
    · injection hv with e1 _ _
      injection e1 with e1
      injection e1 with e1 _ _
      subst e1
      exact Joins.unfrozen_of_block hh po
theorem some_of_owns {w : World} {B e n : Nat} {v : Value} {vals : List Value} (h : w.ownsRow B e 2 v n vals) (hn : 0 < n) : ∃ b o c, v = .slice (some ⟨b, o, none⟩) n c := by
  rcases h.2 with ⟨_, h0⟩ | ⟨g, cap, cur, rfl, _⟩
  · omega
  · exact ⟨_, _, _, rfl⟩
theorem empty (w : World) (b : Nat) : Pairs w (.slice (some ⟨b, 0, none⟩) 0 0) [] := ⟨some ⟨b, 0, none⟩, 0, rfl, Nat.le_refl _, Nat.zero_le _, fun k h => absurd h (by simp)⟩
end Go.Proofs.Ytimfnhejiiagmaa.pro
