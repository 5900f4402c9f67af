/- Outcomes of relays: lists of three numbers a place, gathered by append, beside blocks that are kept. -/
import Derived.Test.YtnjaocgciokpaabApp
import Derived.Test.YtnjaocgciokpaabApl
import Derived.Test.YtnjaocgciokpaabPrt
namespace Go.Proofs.Ytnjaocgciokpaab.oco
open Go.RowKit Go.Deep Go.Proofs.Ytnjaocgciokpaab.base

/-- message, turned, number -/
abbrev Oc := Nat × Nat × Int
def oc (p : Oc) : List Value := [.int .i64 (p.1 : Int), .int .i64 (p.2.1 : Int), .int .i64 p.2.2]
def ocs (os : List Oc) : List Value := os.flatMap oc
theorem ocs_snoc (a : List Oc) (p : Oc) : ocs a ++ oc p = ocs (a ++ [p]) := by simp [ocs]
theorem len_ocs : ∀ os : List Oc, (ocs os).length = os.length * 3
  | [] => rfl
  | p :: os => by show (oc p ++ ocs os).length = _; rw [List.length_append, len_ocs os]; simp [oc]; omega
theorem ocs_get : ∀ (os : List Oc) (k : Nat) (h : k < os.length), (ocs os)[k * 3]? = some (.int .i64 (os[k].1 : Int)) ∧ (ocs os)[k * 3 + 1]? = some (.int .i64 (os[k].2.1 : Int)) ∧ (ocs os)[k * 3 + 2]? = some (.int .i64 os[k].2.2)
  | [], k, h => absurd h (by simp)
  | p :: os, 0, _ => ⟨rfl, rfl, rfl⟩
  | p :: os, k + 1, h => by
    have ih := ocs_get os k (by simpa using h)
    have e : ocs (p :: os) = .int .i64 (p.1 : Int) :: .int .i64 (p.2.1 : Int) :: .int .i64 p.2.2 :: ocs os := rfl
    rw [e, show (k + 1) * 3 = k * 3 + 3 by omega]
    simpa using ih
theorem three_at (w : World) (a b c : Value) (t : TypeId) : ∀ (j : Nat) (u : Value), [a, b, c][j]? = some u → (w.alloc (.cells #[a, b, c] t)).cell? ((⟨w.heap.size, 0, none⟩ : Addr).add j) = some u := by
  intro j u hj
  match j, hj with
  | 0, hj => simp at hj; subst hj; simp [Addr.add]
  | 1, hj => simp at hj; subst hj; simp [Addr.add]
  | 2, hj => simp at hj; subst hj; simp [Addr.add]

/-- the list u of the outcomes os lies from the start of the block b -/
def Lies (w : World) (b : Nat) (u : Value) (os : List Oc) (cur : Array Value) : Prop :=
  ∃ cap, u = .slice (some ⟨b, 0, none⟩) os.length cap ∧ Blk w b 178 cur ∧ cur.toList.take (os.length * 3) = ocs os
/-- what a call at w that ended at w' has answered: a list of outcomes in memory of its own -/
def Got (w w' : World) (u : Value) (L : List Oc) : Prop := ∃ b cur, Lies w' b u L cur ∧ w.heap.size ≤ b ∧ Below w.heap.size w w'
theorem cells_at {w : World} {b : Nat} {os : List Oc} {cur : Array Value} (hb : Blk w b 178 cur) (ht : cur.toList.take (os.length * 3) = ocs os) {k : Nat} (hk : k < os.length) :
    w.cell? ⟨b, k * 3, none⟩ = some (.int .i64 (os[k].1 : Int)) ∧ w.cell? ⟨b, k * 3 + 1, none⟩ = some (.int .i64 (os[k].2.1 : Int)) ∧ w.cell? ⟨b, k * 3 + 2, none⟩ = some (.int .i64 os[k].2.2) := by
  obtain ⟨h0, h1, h2⟩ := ocs_get os k hk
  refine ⟨?_, ?_, ?_⟩
  · rw [← ht, List.getElem?_take, if_pos (by omega)] at h0
    rw [Joins.cell_of_block hb]
    simpa using h0
  · rw [← ht, List.getElem?_take, if_pos (by omega)] at h1
    rw [Joins.cell_of_block hb]
    simpa using h1
  · rw [← ht, List.getElem?_take, if_pos (by omega)] at h2
    rw [Joins.cell_of_block hb]
    simpa using h2
theorem lies_of_owns {w : World} {B : Nat} {v : Value} {os : List Oc} (h : w.ownsRow B 178 3 v os.length (ocs os)) (hn : 0 < os.length) : ∃ b cur, Lies w b v os cur ∧ B ≤ b := by
  rcases h.2 with ⟨_, h0⟩ | ⟨g, cap, cur, rfl, hg, hh, _, _, _, ht⟩
  · omega
  · exact ⟨g, cur, ⟨cap, rfl, hh, ht⟩, hg⟩

/-- outcomes gathered in v, and blocks K that are kept -/
structure Inv (w wr : World) (v : Value) (os : List Oc) (K : List (Nat × TypeId × Array Value)) : Prop where
  below : Below w.heap.size w wr
  owns : wr.ownsRow w.heap.size 178 3 v os.length (ocs os)
  kept : ∀ x ∈ K, Blk wr x.1 x.2.1 x.2.2 ∧ v.ownBlock ≠ some x.1
theorem Inv.keep {w wr w2 : World} {v : Value} {os : List Oc} {K : List (Nat × TypeId × Array Value)} (h : Inv w wr v os K) (hb : Below wr.heap.size wr w2) : Inv w w2 v os K :=
  ⟨below_tr h.below hb, app.owns_below h.owns hb, fun x hx => ⟨(h.kept x hx).1.below hb, (h.kept x hx).2⟩⟩
theorem Inv.add {w wr : World} {v : Value} {os : List Oc} {K : List (Nat × TypeId × Array Value)} (h : Inv w wr v os K) {w2 : World} (hb : Below wr.heap.size wr w2) {x : Nat × TypeId × Array Value} (hx : Blk w2 x.1 x.2.1 x.2.2) (hn : wr.heap.size ≤ x.1) : Inv w w2 v os (x :: K) := by
  have h2 := h.keep hb
  refine ⟨h2.below, h2.owns, fun y hy => ?_⟩
  rcases List.mem_cons.1 hy with rfl | hy
  · exact ⟨hx, fun e => by have := (h.owns.lt _ e).2; omega⟩
  · exact h2.kept y hy
theorem Inv.less {w wr : World} {v : Value} {os : List Oc} {K K' : List (Nat × TypeId × Array Value)} (h : Inv w wr v os K) (hk : ∀ x ∈ K', x ∈ K) : Inv w wr v os K' := ⟨h.below, h.owns, fun x hx => h.kept x (hk x hx)⟩
theorem Inv.step {w wr w3 : World} {v v' : Value} {os : List Oc} {K : List (Nat × TypeId × Array Value)} (h : Inv w wr v os K) {p : Oc} {o : Obj}
    (ho : w3.ownsRow w.heap.size 178 3 v' (os.length + 1) (ocs os ++ oc p)) (hg : (wr.alloc o).grownBy w3 v.ownBlock) (hl : v'.ownBlock = v.ownBlock ∨ v'.ownBlock = some (wr.alloc o).heap.size) : Inv w w3 v' (os ++ [p]) K := by
  refine ⟨(below_al h.below o).grown hg (by have := h.below.size; simp; omega) (fun j hj => (h.owns.lt j hj).1), by rw [List.length_append, ← ocs_snoc]; exact ho, fun x hx => ?_⟩
  obtain ⟨h1, h2⟩ := h.kept x hx
  have h3 := h1.alloc o
  refine ⟨(hg.block _ h3.lt (fun e => h2 e.symm)).trans h3, ?_⟩
  rcases hl with e | e
  · rw [e]; exact h2
  · rw [e]
    intro e2
    injection e2 with e2
    have := h3.lt
    omega

/-- what a relay makes of the outcomes of its two parts, of the bit y that it is asked for -/
def one (y : Nat) (R : Nat → Nat → Int) (p q : Oc) (a : Nat) : Oc := (p.1 ^^^ (a / 2), (if y = 0 then p.2.1 else q.2.1) ^^^ (a % 2), p.2.2 * q.2.2 * R (p.1 ^^^ q.1) a)
def four (y : Nat) (R : Nat → Nat → Int) (p q : Oc) (k : Nat) : List Oc := (List.range k).map (one y R p q)
def row (y : Nat) (R : Nat → Nat → Int) (p : Oc) (L : List Oc) : List Oc := L.flatMap fun q => four y R p q 4
def comb (y : Nat) (R : Nat → Nat → Int) (L1 L2 : List Oc) : List Oc := L1.flatMap fun p => row y R p L2
theorem four_succ (y : Nat) (R : Nat → Nat → Int) (p q : Oc) (k : Nat) : four y R p q (k + 1) = four y R p q k ++ [one y R p q k] := by simp [four, List.range_succ]
theorem len_four (y : Nat) (R : Nat → Nat → Int) (p q : Oc) (k : Nat) : (four y R p q k).length = k := by simp [four]
theorem len_row (y : Nat) (R : Nat → Nat → Int) (p : Oc) : ∀ L, (row y R p L).length = L.length * 4
  | [] => rfl
  | q :: L => by show (four y R p q 4 ++ row y R p L).length = _; rw [List.length_append, len_row y R p L, len_four]; simp; omega
theorem len_comb (y : Nat) (R : Nat → Nat → Int) (L2 : List Oc) : ∀ L1, (comb y R L1 L2).length = L1.length * (L2.length * 4)
  | [] => by simp [comb]
  | p :: L => by show (row y R p L2 ++ comb y R L L2).length = _; rw [List.length_append, len_comb y R L2 L, len_row]; simp [Nat.add_mul]; omega
theorem take_row {y : Nat} {R : Nat → Nat → Int} {p : Oc} {L : List Oc} {k : Nat} (h : k < L.length) : row y R p (L.take (k + 1)) = row y R p (L.take k) ++ four y R p L[k] 4 := by
  unfold row; rw [List.take_succ_eq_append_getElem h, List.flatMap_append]; simp only [List.flatMap_cons, List.flatMap_nil, List.append_nil]
theorem take_comb {y : Nat} {R : Nat → Nat → Int} {L1 L2 : List Oc} {k : Nat} (h : k < L1.length) : comb y R (L1.take (k + 1)) L2 = comb y R (L1.take k) L2 ++ row y R L1[k] L2 := by
  unfold comb; rw [List.take_succ_eq_append_getElem h, List.flatMap_append]; simp only [List.flatMap_cons, List.flatMap_nil, List.append_nil]
/-- messages and turned are bits, numbers not greater than B -/
def Fine (B : Int) (L : List Oc) : Prop := ∀ p ∈ L, p.1 ≤ 1 ∧ p.2.1 ≤ 1 ∧ 0 ≤ p.2.2 ∧ p.2.2 ≤ B
theorem xor1 {a b : Nat} (h : a ≤ 1) (h' : b ≤ 1) : a ^^^ b ≤ 1 := by
  have h1 : a = 0 ∨ a = 1 := by omega
  have h2 : b = 0 ∨ b = 1 := by omega
  rcases h1 with rfl | rfl <;> rcases h2 with rfl | rfl <;> decide
theorem prod_bd {B wh a b c : Int} (ha : 0 ≤ a ∧ a ≤ B) (hb : 0 ≤ b ∧ b ≤ B) (hc : 0 ≤ c ∧ c ≤ wh) : 0 ≤ a * b * c ∧ a * b * c ≤ B * B * wh := by
  have h1 : 0 ≤ a * b := Int.mul_nonneg ha.1 hb.1
  have h2 : a * b ≤ B * B := Int.mul_le_mul ha.2 hb.2 hb.1 (by omega)
  exact ⟨Int.mul_nonneg h1 hc.1, Int.mul_le_mul h2 hc.2 hc.1 (by omega)⟩
theorem fine_comb {y : Nat} {R : Nat → Nat → Int} {L1 L2 : List Oc} {B wh : Int} (h1 : Fine B L1) (h2 : Fine B L2) (hr : ∀ x a, x ≤ 1 → a < 4 → 0 ≤ R x a ∧ R x a ≤ wh) : Fine (B * B * wh) (comb y R L1 L2) := by
  intro z hz
  obtain ⟨p, hp, hz⟩ := List.mem_flatMap.1 hz
  obtain ⟨q, hq, hz⟩ := List.mem_flatMap.1 hz
  obtain ⟨a, ha, rfl⟩ := List.mem_map.1 hz
  have ha4 := List.mem_range.1 ha
  obtain ⟨p1, p2, p3⟩ := h1 p hp
  obtain ⟨q1, q2, q3⟩ := h2 q hq
  refine ⟨xor1 p1 (by omega), xor1 ?_ (by omega), prod_bd p3 q3 (hr _ _ (xor1 p1 q1) ha4)⟩
  show (if y = 0 then p.2.1 else q.2.1) ≤ 1
  split <;> assumption
end Go.Proofs.Ytnjaocgciokpaab.oco
