/- An append to memory of the call's own as one step of a region that draws its order. It speaks of no program. -/
import Derived.Test.YtiigfhigmdjooaaBase
import Derived.Deep.RegionLaw
import Derived.Laws.AppendOwn
namespace Go.Proofs.Ytiigfhigmdjooaa.step
open Go.RowKit Go.Deep Go.Proofs.Ytiigfhigmdjooaa.base

theorem own {P : Program} {ops : Array Oper} {o : Oper} {a : Act} {w : World} {K : Act → World → Prop} {Q : Exit → Act → World → Prop} {E : Prop}
    (hg : o.guard = none) (s x : Operand) (t : TypeId) (hop : o.op = Op.call { callee := Callee.builtin Builtin.append, args := #[s, x], argTypes := #[t, t] })
    (e : TypeId) (i : TypeInfo) (z : Value) (size bytes : Nat) (h1 : P.underlying t = some (.slice e)) (h2 : P.info? e = some i) (h3 : i.zero = some z) (h4 : i.size = size) (h5 : i.bytes = bytes) (h6 : z.cells.size = size) (h7 : 0 < size)
    (B : Nat) (v : Value) (n : Nat) (olds : List Value) (hown : w.ownsRow B e size v n olds) (hs : a.eval s = v)
    (ad : Addr) (m c : Nat) (news : List Value) (hx : a.eval x = .slice (some ad) m c) (hn : news.length = m * size) (hc : ∀ j u, news[j]? = some u → w.cell? (ad.add j) = some u) (h1c : ∀ u ∈ news, u.oneCell' = true)
    (b1 : n + m ≤ maxLen) (b2 : (n + m) * bytes ≤ 140737488355328) (hB : B ≤ w.heap.size)
    (hK : ∀ v' w', w'.ownsRow B e size v' (n + m) (olds ++ news) → w.grownBy w' v.ownBlock → K (a.put o.dst v') w') :
    if Region.wanted o (yielded ops a.tmps) = true then Oper.wp P o a w K Q else E := by
  have hw : Region.wanted o (yielded ops a.tmps) = true := by simp [Region.wanted, hg]
  rw [if_pos hw]
  obtain ⟨v', w', hrun, r1, r2, _⟩ := run_append_own (P := P) w B t o.type e i z size bytes h1 h2 h3 h4 h5 h6 h7 v n olds hown ad m c news hn hc h1c b1 b2 hB
  unfold Oper.wp
  simp [execOp, hop, resolve, invoke, builtin, hs, hx, hrun, Result.andThen]
  exact hK v' w' r1 r2

/-- the cells below a block stand as they did -/
def Low (n : Nat) (w w' : World) : Prop := ∀ p : Addr, p.block < n → w'.cell? p = w.cell? p
theorem Low.refl (n : Nat) (w : World) : Low n w w := fun _ _ => rfl
theorem Low.drew {n : Nat} {w w' : World} (h : Low n w w') : Low n w w'.drew := fun p hp => h p hp
theorem Low.alloc {n : Nat} {w w' : World} (h : Low n w w') (hn : n ≤ w'.heap.size) (o : Obj) : Low n w (w'.alloc o) := fun p hp => (World.cell?_alloc_lt w' o p (Nat.lt_of_lt_of_le hp hn)).trans (h p hp)
theorem Low.setCell {n : Nat} {w w' : World} (h : Low n w w') (a : Addr) (v : Value) (ha : n ≤ a.block) : Low n w (w'.setCell a v) := fun p hp => (World.cell?_setCell_other w' a p v (fun e => by subst e; omega)).trans (h p hp)
theorem Low.grown {n : Nat} {w w' w'' : World} {r : Option Nat} (h : Low n w w') (hg : w'.grownBy w'' r) (hn : n ≤ w'.heap.size) (hr : ∀ q, r = some q → n ≤ q) : Low n w w'' := fun p hp =>
  (World.cell?_of_block (hg.block _ (Nat.lt_of_lt_of_le hp hn) (fun e => by have := hr _ e.symm; omega))).trans (h p hp)
theorem Low.below {w w' : World} (h : Below w.heap.size w w') : Low w.heap.size w w' := fun _ hp => h.cell hp
theorem Low.trans {n : Nat} {w w' w'' : World} (h : Low n w w') (k : Low n w' w'') : Low n w w'' := fun p hp => (k p hp).trans (h p hp)
theorem Low.mono {n m : Nat} {w w' : World} (h : Low n w w') (hm : m ≤ n) : Low m w w' := fun p hp => h p (by omega)
theorem lows4 {n : Nat} {w w' : World} {b o : Nat} {u0 u1 u2 u3 : Value} (h0 : w.cell? ⟨b, o, none⟩ = some u0) (h1 : w.cell? ⟨b, o + 1, none⟩ = some u1) (h2 : w.cell? ⟨b, o + 2, none⟩ = some u2) (h3 : w.cell? ⟨b, o + 3, none⟩ = some u3) (hb : b < n) (h : Low n w w') :
    w'.cell? ⟨b, o, none⟩ = some u0 ∧ w'.cell? ⟨b, o + 1, none⟩ = some u1 ∧ w'.cell? ⟨b, o + 2, none⟩ = some u2 ∧ w'.cell? ⟨b, o + 3, none⟩ = some u3 :=
  ⟨(h _ hb).trans h0, (h _ hb).trans h1, (h _ hb).trans h2, (h _ hb).trans h3⟩

/-- what a cell holds -/
def peek (w : World) (a : Addr) : Value := (w.cell? a).getD .nilFunc
theorem peek_of {w : World} {a : Addr} {u : Value} (h : w.cell? a = some u) : w.cell? a = some (peek w a) := by unfold peek; rw [h]; rfl
theorem peek_is {w : World} {a : Addr} {u : Value} (h : w.cell? a = some u) : peek w a = u := by unfold peek; rw [h]; rfl
theorem lows4p {n : Nat} {w w' : World} {b o : Nat} {u0 u1 u2 u3 : Value} {q : Addr} (h0 : w.cell? ⟨b, o, none⟩ = some u0) (h1 : w.cell? ⟨b, o + 1, none⟩ = some u1) (h2 : w.cell? ⟨b, o + 2, none⟩ = some u2) (h3 : w.cell? ⟨b, o + 3, none⟩ = some u3) (hb : b < n) (h : Low n w w') (hq : w'.cell? q = some (peek w' q)) :
    w'.cell? ⟨b, o, none⟩ = some u0 ∧ w'.cell? ⟨b, o + 1, none⟩ = some u1 ∧ w'.cell? ⟨b, o + 2, none⟩ = some u2 ∧ w'.cell? ⟨b, o + 3, none⟩ = some u3 ∧ w'.cell? q = some (peek w' q) :=
  ⟨(h _ hb).trans h0, (h _ hb).trans h1, (h _ hb).trans h2, (h _ hb).trans h3, hq⟩

/-- all that was there stands as it did, but for one block -/
def Off (R : Nat) (w w' : World) : Prop := w.heap.size ≤ w'.heap.size ∧ ∀ p : Addr, p.block ≠ R → p.block < w.heap.size → w'.cell? p = w.cell? p
theorem Off.refl (R : Nat) (w : World) : Off R w w := ⟨Nat.le_refl _, fun _ _ _ => rfl⟩
theorem Off.drew {R : Nat} {w w' : World} (h : Off R w w') : Off R w w'.drew := ⟨h.1, fun p h1 h2 => h.2 p h1 h2⟩
theorem Off.alloc {R : Nat} {w w' : World} (h : Off R w w') (o : Obj) : Off R w (w'.alloc o) := ⟨by have := h.1; simp; omega, fun p h1 h2 => (World.cell?_alloc_lt w' o p (Nat.lt_of_lt_of_le h2 h.1)).trans (h.2 p h1 h2)⟩
theorem Off.below {R : Nat} {w w' w'' : World} (h : Off R w w') (hb : Below w'.heap.size w' w'') : Off R w w'' := ⟨Nat.le_trans h.1 hb.size, fun p h1 h2 => (hb.cell (Nat.lt_of_lt_of_le h2 h.1)).trans (h.2 p h1 h2)⟩
theorem Off.setCell {R : Nat} {w w' : World} (h : Off R w w') (a : Addr) (v : Value) (ha : a.block = R) : Off R w (w'.setCell a v) := ⟨by have := h.1; simpa [World.setCell] using this, fun p h1 h2 => (World.cell?_setCell_other w' a p v (fun e => h1 (by rw [← e, ha]))).trans (h.2 p h1 h2)⟩
theorem offs5 {R : Nat} {w w' : World} {p0 p1 p2 p3 p4 : Addr} {u0 u1 u2 u3 u4 : Value} (h0 : w.cell? p0 = some u0) (h1 : w.cell? p1 = some u1) (h2 : w.cell? p2 = some u2) (h3 : w.cell? p3 = some u3) (h4 : w.cell? p4 = some u4)
    (n0 : p0.block ≠ R) (n1 : p1.block ≠ R) (n2 : p2.block ≠ R) (n3 : p3.block ≠ R) (n4 : p4.block ≠ R) (h : Off R w w') :
    w'.cell? p0 = some u0 ∧ w'.cell? p1 = some u1 ∧ w'.cell? p2 = some u2 ∧ w'.cell? p3 = some u3 ∧ w'.cell? p4 = some u4 :=
  ⟨(h.2 _ n0 (World.block_lt_of_cell? _ _ h0)).trans h0, (h.2 _ n1 (World.block_lt_of_cell? _ _ h1)).trans h1, (h.2 _ n2 (World.block_lt_of_cell? _ _ h2)).trans h2, (h.2 _ n3 (World.block_lt_of_cell? _ _ h3)).trans h3, (h.2 _ n4 (World.block_lt_of_cell? _ _ h4)).trans h4⟩

theorem fours {w w' : World} {p0 p1 p2 p3 : Addr} {u0 u1 u2 u3 : Value} (h0 : w.cell? p0 = some u0) (h1 : w.cell? p1 = some u1) (h2 : w.cell? p2 = some u2) (h3 : w.cell? p3 = some u3) (hb : Below w.heap.size w w') :
    w'.cell? p0 = some u0 ∧ w'.cell? p1 = some u1 ∧ w'.cell? p2 = some u2 ∧ w'.cell? p3 = some u3 := ⟨below_cell hb _ _ h0, below_cell hb _ _ h1, below_cell hb _ _ h2, below_cell hb _ _ h3⟩
theorem fours_grown {w w' : World} {b : Nat} {o0 o1 o2 o3 : Nat} {u0 u1 u2 u3 : Value} {r : Option Nat} (h : w.cell? ⟨b, o0, none⟩ = some u0 ∧ w.cell? ⟨b, o1, none⟩ = some u1 ∧ w.cell? ⟨b, o2, none⟩ = some u2 ∧ w.cell? ⟨b, o3, none⟩ = some u3) (hg : w.grownBy w' r) (hne : some b ≠ r) :
    w'.cell? ⟨b, o0, none⟩ = some u0 ∧ w'.cell? ⟨b, o1, none⟩ = some u1 ∧ w'.cell? ⟨b, o2, none⟩ = some u2 ∧ w'.cell? ⟨b, o3, none⟩ = some u3 := ⟨hg.cell h.1 hne, hg.cell h.2.1 hne, hg.cell h.2.2.1 hne, hg.cell h.2.2.2 hne⟩

theorem offs7 {R : Nat} {w w' : World} {p0 p1 p2 p3 p4 p5 p6 : Addr} {u0 u1 u2 u3 u4 u5 u6 : Value} (h0 : w.cell? p0 = some u0) (h1 : w.cell? p1 = some u1) (h2 : w.cell? p2 = some u2) (h3 : w.cell? p3 = some u3) (h4 : w.cell? p4 = some u4) (h5 : w.cell? p5 = some u5) (h6 : w.cell? p6 = some u6)
    (n0 : p0.block ≠ R) (n1 : p1.block ≠ R) (n2 : p2.block ≠ R) (n3 : p3.block ≠ R) (n4 : p4.block ≠ R) (n5 : p5.block ≠ R) (n6 : p6.block ≠ R) (h : Off R w w') :
    w'.cell? p0 = some u0 ∧ w'.cell? p1 = some u1 ∧ w'.cell? p2 = some u2 ∧ w'.cell? p3 = some u3 ∧ w'.cell? p4 = some u4 ∧ w'.cell? p5 = some u5 ∧ w'.cell? p6 = some u6 :=
  ⟨(h.2 _ n0 (World.block_lt_of_cell? _ _ h0)).trans h0, (h.2 _ n1 (World.block_lt_of_cell? _ _ h1)).trans h1, (h.2 _ n2 (World.block_lt_of_cell? _ _ h2)).trans h2, (h.2 _ n3 (World.block_lt_of_cell? _ _ h3)).trans h3, (h.2 _ n4 (World.block_lt_of_cell? _ _ h4)).trans h4, (h.2 _ n5 (World.block_lt_of_cell? _ _ h5)).trans h5, (h.2 _ n6 (World.block_lt_of_cell? _ _ h6)).trans h6⟩

end Go.Proofs.Ytiigfhigmdjooaa.step
