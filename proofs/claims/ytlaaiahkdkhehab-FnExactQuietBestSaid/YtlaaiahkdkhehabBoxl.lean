/- Lists of Boxes (two questions each, the Whole 2) that the code gathers by append. -/
import Derived.Test.YtlaaiahkdkhehabMake
import Derived.Test.YtlaaiahkdkhehabStepw
namespace Go.Proofs.Ytlaaiahkdkhehab.boxl
open Go.RowKit Go.Deep Go.Proofs.Ytlaaiahkdkhehab.base

theorem infoBox : (Try.prog.info? 40).map (fun i => (i.zero, i.size, i.bytes)) = some (some (.agg #[.int .i64 0, .int .i64 0, .int .i64 0, .slice none 0 0]), 4, 48) := by kernel_rfl

theorem app_lies {P : Program} {w : World} {ops : Array Oper} {rest : List Oper} {o : Oper} {a : Act} {Q : Exit → Act → World → Prop} (hgd : o.guard = none) (s x : Operand) (t : TypeId)
    (ho : o.op = .call { callee := .builtin .append, args := #[s, x], argTypes := #[t, t] })
    (base : Nat) (e : TypeId) (i : TypeInfo) (z : Value) (size bytes : Nat) (ht : P.underlying t = some (.slice e)) (hi : P.info? e = some i) (hz : i.zero = some z)
    (hsize : i.size = size) (hby : i.bytes = bytes) (hzs : z.cells.size = size) (hsz : 0 < size)
    (v : Value) (n : Nat) (xs : List Value) (hs : a.eval s = v) (hown : w.ownsRow base e size v n xs)
    (ad : Addr) (m c : Nat) (news : List Value) (hx : a.eval x = .slice (some ad) m c) (hl : news.length = m * size) (hnews : ∀ j u, news[j]? = some u → w.cell? (ad.add j) = some u) (h1 : ∀ u ∈ news, u.oneCell' = true)
    (h63 : n + m ≤ maxLen) (hbytes : (n + m) * bytes ≤ 140737488355328) (hbase : base ≤ w.heap.size) (hm : 0 < m)
    (h : ∀ v' w', w'.ownsRow base e size v' (n + m) (xs ++ news) → w.grownBy w' v.ownBlock → (v'.ownBlock = v.ownBlock ∨ v'.ownBlock = some w.heap.size) → wpList P ops Q rest (a.put o.dst v') w') : wpList P ops Q (o :: rest) a w := by
  refine wpList_plain hgd fun _ hK => ?_
  obtain ⟨v', w', hr, h2, h3, _⟩ := run_append_own (P := P) w base t o.type e i z size bytes ht hi hz hsize hby hzs hsz v n xs hown ad m c news hl hnews h1 h63 hbytes hbase
  have r3 := step.lies ht hi hz hsize hby hsz hown hl hnews h1 h63 hbytes hm hr
  unfold Oper.wp execOp
  simp only [ho, resolve, invoke, builtin, Sem.run_bind, Sem.run_pure, Result.andThen_ok, List.map_toArray, List.map_cons, List.map_nil, hs, hx, hr]
  exact hK _ _ (h v' w' h2 h3 r3)

theorem shapez {w : World} {B e z n : Nat} {v : Value} {vals : List Value} (h : w.ownsRow B e z v n vals) : ∃ a l c, v = .slice a l c := by
  rcases h.2 with ⟨rfl, _⟩ | ⟨g, cap, cur, rfl, _⟩
  · exact ⟨_, _, _, rfl⟩
  · exact ⟨_, _, _, rfl⟩

def four (u : Value) : List Value := [.int .i64 2, .int .i64 2, .int .i64 2, u]
def cells (us : List Value) : List Value := us.flatMap four
theorem cells_snoc (us : List Value) (u : Value) : cells (us ++ [u]) = cells us ++ four u := by simp [cells]
theorem cells_get : ∀ (us : List Value) (i : Nat) (u : Value), us[i]? = some u → ∀ k, k < 4 → (cells us)[4 * i + k]? = (four u)[k]?
  | [], i, u, h, _, _ => by simp at h
  | x :: us, 0, u, h, k, hk => by
    simp at h
    subst h
    show (four x ++ cells us)[4 * 0 + k]? = _
    rw [List.getElem?_append_left (by simp [four]; omega)]
    simp
  | x :: us, i + 1, u, h, k, hk => by
    have h' : us[i]? = some u := by simpa using h
    show (four x ++ cells us)[4 * (i + 1) + k]? = _
    rw [List.getElem?_append_right (by simp [four]; omega)]
    have e : 4 * (i + 1) + k - (four x).length = 4 * i + k := by simp [four]; omega
    rw [e]
    exact cells_get us i u h' k hk

theorem rows_heap {w w' : World} {B T : Nat} {v : Value} {xss : List (List Int)} (h : OwnRows w B T v xss) (hk : ∀ k, B ≤ k → k < T → w'.heap[k]? = w.heap[k]?) : OwnRows w' B T v xss := by
  obtain ⟨vals, h⟩ := h
  have hi : ∀ u ∈ vals, ∀ p, In u p → w'.heap[p.block]? = w.heap[p.block]? := fun u hu p hp => hk _ (h.ge u hu p hp) (h.lt u hu p hp)
  refine ⟨vals, pile.sl_heap h.outer (fun p hp => hk _ (h.geo p hp) (h.lto p hp)), h.len, fun r hr => ?_, h.geo, h.lto, h.ge, h.lt, fun u hu p hp => (pile.frozen_heap (hi u hu p hp)).trans (h.free u hu p hp), h.apart, h.each⟩
  obtain ⟨u, hu, hx⟩ := h.row r hr
  exact ⟨u, hu, pile.sl_heap hx (hi u (List.mem_of_getElem? hu))⟩

/-- so many Boxes gathered -/
structure Pl (w wr : World) (B : Nat) (v : Value) (us : List Value) (rss : List (List (List Int))) : Prop where
  below : Below w.heap.size w wr
  base : w.heap.size ≤ B
  top : B ≤ wr.heap.size
  owns : wr.ownsRow B 40 4 v rss.length (cells us)
  len : us.length = rss.length
  row : ∀ i (h : i < rss.length), ∃ u, us[i]? = some u ∧ ∃ Bi Ti, OwnRows wr Bi Ti u rss[i] ∧ w.heap.size ≤ Bi ∧ Ti ≤ wr.heap.size ∧ ∀ b, v.ownBlock = some b → b < Bi ∨ Ti ≤ b
theorem Pl.start {w wr : World} {B : Nat} {v : Value} (hb : Below w.heap.size w wr) (hB : w.heap.size ≤ B) (ho : wr.ownsRow B 40 4 v 0 []) (hm : B ≤ wr.heap.size) : Pl w wr B v [] [] :=
  ⟨hb, hB, hm, ho, rfl, fun i h => by simp at h⟩
theorem Pl.keep {w wr w2 : World} {B : Nat} {v : Value} {us : List Value} {rss : List (List (List Int))} (h : Pl w wr B v us rss) (hb : Below wr.heap.size wr w2) : Pl w w2 B v us rss :=
  ⟨below_tr h.below hb, h.base, Nat.le_trans h.top hb.size, app.owns_below h.owns hb, h.len, fun i hi => by
    obtain ⟨u, hu, Bi, Ti, ho, h1, h2, h3⟩ := h.row i hi
    exact ⟨u, hu, Bi, Ti, ho.keep hb, h1, Nat.le_trans h2 hb.size, h3⟩⟩
theorem Pl.grow {w W w' : World} {B Bu Tu : Nat} {v v' u : Value} {us : List Value} {rss : List (List (List Int))} {rs : List (List Int)} (h : Pl w W B v us rss) (hu : OwnRows W Bu Tu u rs) (hBu : w.heap.size ≤ Bu) (hTu : Tu ≤ W.heap.size)
    (hd : ∀ b, v.ownBlock = some b → b < Bu ∨ Tu ≤ b)
    (ho : w'.ownsRow B 40 4 v' (rss.length + 1) (cells us ++ four u)) (hg : W.grownBy w' v.ownBlock) (hl : v'.ownBlock = v.ownBlock ∨ v'.ownBlock = some W.heap.size) : Pl w w' B v' (us ++ [u]) (rss ++ [rs]) := by
  have far : ∀ Bi Ti, Ti ≤ W.heap.size → (∀ b, v.ownBlock = some b → b < Bi ∨ Ti ≤ b) → ∀ k, Bi ≤ k → k < Ti → w'.heap[k]? = W.heap[k]? := fun Bi Ti h1 h2 k hk hk' =>
    hg.block k (Nat.lt_of_lt_of_le hk' h1) (fun e => by have := h2 k e.symm; omega)
  have near : ∀ Bi Ti, Ti ≤ W.heap.size → (∀ b, v.ownBlock = some b → b < Bi ∨ Ti ≤ b) → ∀ b, v'.ownBlock = some b → b < Bi ∨ Ti ≤ b := fun Bi Ti h1 h2 b hb => by
    rcases hl with e | e
    · exact h2 b (by rw [← e]; exact hb)
    · rw [e] at hb; injection hb with hb; omega
  refine ⟨h.below.grown hg h.below.size (fun j hj => by have := (h.owns.lt j hj).1; have := h.base; omega), h.base, Nat.le_trans h.top hg.size, ?_, by simp [h.len], ?_⟩
  · rw [cells_snoc, List.length_append]
    exact ho
  · intro i hi
    by_cases e : i < rss.length
    · obtain ⟨u', hu', Bi, Ti, k1, k2, k3, k4⟩ := h.row i e
      refine ⟨u', by rw [List.getElem?_append_left (by rw [h.len]; exact e)]; exact hu', Bi, Ti, ?_, k2, Nat.le_trans k3 hg.size, near Bi Ti k3 k4⟩
      rw [List.getElem_append_left e]
      exact rows_heap k1 (far Bi Ti k3 k4)
    · have hi' : i = rss.length := by simp at hi; omega
      subst hi'
      refine ⟨u, by rw [List.getElem?_append_right (by rw [h.len]; exact Nat.le_refl _)]; simp [h.len], Bu, Tu, ?_, hBu, Nat.le_trans hTu hg.size, near Bu Tu hTu hd⟩
      rw [List.getElem_append_right (Nat.le_refl _)]
      simp only [Nat.sub_self, List.getElem_cons_zero]
      exact rows_heap hu (far Bu Tu hTu hd)
/-- the own block lies below all that is made later -/
theorem Pl.apart {w wr : World} {B m T : Nat} {v : Value} {us : List Value} {rss : List (List (List Int))} (h : Pl w wr B v us rss) (hm : wr.heap.size ≤ m) : ∀ b, v.ownBlock = some b → b < m ∨ T ≤ b := fun b hb =>
  .inl (Nat.lt_of_lt_of_le (h.owns.lt b hb).2 hm)
/-- one of them: its cells and its rows -/
theorem Pl.at_ {w wr : World} {B : Nat} {v : Value} {us : List Value} {rss : List (List (List Int))} (h : Pl w wr B v us rss) {i : Nat} (hi : i < rss.length) :
    ∃ (g cap : Nat) (u : Value), v = .slice (some ⟨g, 0, none⟩) rss.length cap ∧ us[i]? = some u ∧ (∀ k, k < 4 → wr.cell? ⟨g, 4 * i + k, none⟩ = (four u)[k]?) ∧ ∃ Bi Ti, OwnRows wr Bi Ti u rss[i] ∧ w.heap.size ≤ Bi ∧ Ti ≤ wr.heap.size := by
  obtain ⟨u, hu, Bi, Ti, k1, k2, k3, _⟩ := h.row i hi
  rcases h.owns.2 with ⟨e1, e2⟩ | ⟨g, cap, cur, rfl, hb, hh, h3⟩
  · omega
  · refine ⟨g, cap, u, rfl, hu, fun k hk => ?_, Bi, Ti, k1, k2, k3⟩
    have h1 := cells_get us i u hu k hk
    have hc := h.owns.cells (g := g) rfl
    have hex : ∃ x, (four u)[k]? = some x := by
      match k, hk with
      | 0, _ => exact ⟨_, rfl⟩
      | 1, _ => exact ⟨_, rfl⟩
      | 2, _ => exact ⟨_, rfl⟩
      | 3, _ => exact ⟨_, rfl⟩
    obtain ⟨x, hx⟩ := hex
    rw [hx] at h1 ⊢
    have := hc _ _ h1
    rw [row.opn_add] at this
    simpa using this

end Go.Proofs.Ytlaaiahkdkhehab.boxl
