/- validBox of the program and l2Kept of the model; what a function that makes a Box answers. -/
import Derived.Test.YtiigfhigmdjooaaPile
namespace Go.Proofs.Ytiigfhigmdjooaa.make
open Go.RowKit Go.Deep Go.Proofs.Ytiigfhigmdjooaa.base
open Go.Proofs.Ytiigfhigmdjooaa.ints (ret_int infoInt infoInts)
open Go.Proofs.Ytiigfhigmdjooaa.rws (total)

/-- what a box under way holds: its own block, that of the result, the slice of the rows, each row in a block of its own -/
structure Way (w wr : World) (bb : Nat) (x y wh : Int) (k : Nat) (v : Value) (vals : List Value) (N : Nat → Nat → Int) : Prop where
  below : Below w.heap.size w wr
  bge : w.heap.size < bb
  blk : Blk wr bb 28 #[.int .i64 x, .int .i64 y, .int .i64 wh, v]
  res : Blk wr w.heap.size 28 #[.int .i64 0, .int .i64 0, .int .i64 0, .slice none 0 0]
  owns : wr.ownsRow (w.heap.size + 1) 39 1 v k vals
  row : ∀ r u, vals[r]? = some u → ∃ g, u = .slice (some ⟨g, 0, none⟩) 4 4 ∧ w.heap.size + 1 ≤ g ∧ wr.rowIs g 3 4 (fun j => .int .i64 ((quad N r).getD j 0))
  each : ∀ (r s : Nat) (g g' : Nat), r ≠ s → vals[r]? = some (.slice (some ⟨g, 0, none⟩) 4 4) → vals[s]? = some (.slice (some ⟨g', 0, none⟩) 4 4) → g ≠ g'

theorem Way.keep {w wr w2 : World} {bb k : Nat} {x y wh : Int} {v : Value} {vals : List Value} {N : Nat → Nat → Int} (h : Way w wr bb x y wh k v vals N) (hb : Below wr.heap.size wr w2) : Way w w2 bb x y wh k v vals N :=
  ⟨below_tr h.below hb, h.bge, h.blk.below hb, h.res.below hb, app.owns_below h.owns hb, fun r u hu => by
    obtain ⟨g, e, hg, hr⟩ := h.row r u hu
    exact ⟨g, e, hg, hr.of_block (hb.block _ hr.lt)⟩, h.each⟩

theorem Way.grow {w W w' : World} {bb k g : Nat} {x y wh : Int} {v v' : Value} {vals : List Value} {N : Nat → Nat → Int} (h : Way w W bb x y wh k v vals N)
    (hr : W.rowIs g 3 4 (fun j => .int .i64 ((quad N k).getD j 0))) (hge : w.heap.size + 1 ≤ g) (hfr : ∀ (r g' : Nat), vals[r]? = some (Value.slice (some ⟨g', 0, none⟩) 4 4) → g' ≠ g)
    (ho : w'.ownsRow (w.heap.size + 1) 39 1 v' (k + 1) (vals ++ [.slice (some ⟨g, 0, none⟩) 4 4])) (hg : W.grownBy w' v.ownBlock) :
    Way w (w'.setCell ⟨bb, 3, none⟩ v') bb x y wh (k + 1) v' (vals ++ [.slice (some ⟨g, 0, none⟩) 4 4]) N := by
  have hlen : vals.length = k := by have := h.owns.1; omega
  have nb : some bb ≠ v.ownBlock := fun e => by
    obtain ⟨c, hc⟩ := own_type h.owns e.symm
    exact absurd (blk_type hc h.blk) (by decide)
  have nr : some w.heap.size ≠ v.ownBlock := fun e => by
    obtain ⟨c, hc⟩ := own_type h.owns e.symm
    exact absurd (blk_type hc h.res) (by decide)
  have rows : ∀ g' f, W.rowIs g' 3 4 f → (w'.setCell ⟨bb, 3, none⟩ v').rowIs g' 3 4 f := fun g' f hr' => by
    have n1 : some g' ≠ v.ownBlock := fun e => by
      obtain ⟨c, hc⟩ := own_type h.owns e.symm
      obtain ⟨c', hc', _⟩ := hr'
      exact absurd (blk_type hc hc') (by decide)
    have n2 : g' ≠ bb := fun e => by
      obtain ⟨c', hc', _⟩ := hr'
      rw [e] at hc'
      exact absurd (blk_type hc' h.blk) (by decide)
    exact (hr'.of_block (hg.block _ hr'.lt n1)).setOther n2 _
  have hB' : Blk w' bb 28 #[.int .i64 x, .int .i64 y, .int .i64 wh, v] := (hg.block _ h.blk.lt nb).trans h.blk
  have hR' : Blk w' w.heap.size 28 #[.int .i64 0, .int .i64 0, .int .i64 0, .slice none 0 0] := (hg.block _ h.res.lt nr).trans h.res
  have nv' : v'.ownBlock ≠ some bb := fun e => by
    obtain ⟨c, hc⟩ := own_type ho e
    exact absurd (blk_type hc hB') (by decide)
  refine ⟨?_, h.bge, ?_, ?_, ownsRow_setCell_other ho nv' _, ?_, ?_⟩
  · exact (h.below.grown hg h.below.size (fun j hj => Nat.le_of_succ_le (h.owns.lt j hj).1)).setCell (Nat.le_of_lt h.bge) _
  · have := Joins.block_setCell (i := 3) hB' v'
    unfold Blk
    simpa using this
  · have e : (w'.setCell ⟨bb, 3, none⟩ v').heap[w.heap.size]? = w'.heap[w.heap.size]? := Below.heap_setCell _ _ _ _ (by have := h.bge; simp; omega)
    exact e.trans hR'
  · intro r u hu
    by_cases e : r < vals.length
    · rw [List.getElem?_append_left e] at hu
      obtain ⟨g', e', hg', hr'⟩ := h.row r u hu
      exact ⟨g', e', hg', rows g' _ hr'⟩
    · rw [List.getElem?_append_right (by omega)] at hu
      rcases Nat.eq_zero_or_pos (r - vals.length) with z | z
      · rw [z] at hu; simp at hu
        obtain rfl : r = k := by omega
        exact ⟨g, hu.symm, hge, rows g _ hr⟩
      · rw [List.getElem?_eq_none (by simp; omega)] at hu; cases hu
  · intro r s g1 g2 hne h1 h2
    have old : ∀ r u, (vals ++ [Value.slice (some ⟨g, 0, none⟩) 4 4])[r]? = some u → (r < vals.length ∧ vals[r]? = some u) ∨ (r = vals.length ∧ u = .slice (some ⟨g, 0, none⟩) 4 4) := by
      intro r u hu
      by_cases e : r < vals.length
      · rw [List.getElem?_append_left e] at hu; exact .inl ⟨e, hu⟩
      · rw [List.getElem?_append_right (by omega)] at hu
        rcases Nat.eq_zero_or_pos (r - vals.length) with z | z
        · rw [z] at hu; simp at hu; exact .inr ⟨by omega, hu.symm⟩
        · rw [List.getElem?_eq_none (by simp; omega)] at hu; cases hu
    have inj : ∀ a b : Nat, Value.slice (some ⟨a, 0, none⟩) 4 4 = Value.slice (some ⟨b, 0, none⟩) 4 4 → a = b := fun a b e => by injection e with e; injection e with e; injection e
    rcases old r _ h1 with ⟨_, e1⟩ | ⟨e1, q1⟩ <;> rcases old s _ h2 with ⟨_, e2⟩ | ⟨e2, q2⟩
    · exact h.each r s g1 g2 hne e1 e2
    · have := inj _ _ q2; subst this; exact hfr r g1 e1
    · have := inj _ _ q1; subst this; exact (hfr s g2 e2).symm
    · omega

theorem Way.field {w W w' : World} {bb k : Nat} {x y wh : Int} {v : Value} {vals : List Value} {N : Nat → Nat → Int} (h : Way w W bb x y wh k v vals N) (hg : W.grownBy w' v.ownBlock) :
    w'.cell? ⟨bb, 3, none⟩ = some v ∧ w'.frozen? ⟨bb, 3, none⟩ = false := by
  have nb : some bb ≠ v.ownBlock := fun e => by
    obtain ⟨c, hc⟩ := own_type h.owns e.symm
    exact absurd (blk_type hc h.blk) (by decide)
  have hB' : Blk w' bb 28 #[.int .i64 x, .int .i64 y, .int .i64 wh, v] := (hg.block _ h.blk.lt nb).trans h.blk
  exact ⟨(four_cells hB').2.2.2.1, Joins.unfrozen_of_block hB' 3⟩

theorem Way.done {w W : World} {bb k : Nat} {x y wh : Int} {v : Value} {vals : List Value} {N : Nat → Nat → Int} (h : Way w W bb x y wh k v vals N) : OwnRows W (w.heap.size + 1) W.heap.size v (rowsOf N k) := by
  have hlen : vals.length = k := by have := h.owns.1; omega
  have hs : Sl W v vals := app.sl_of_owns h.owns
  have vb : ∀ p, In v p → v.ownBlock = some p.block := by
    rintro p ⟨b, o, len, cap, rfl, hb, _⟩
    simp [Value.ownBlock, hb]
  refine ⟨vals, hs, by rw [hlen, len_rowsOf], ?_, fun p hp => (h.owns.lt _ (vb p hp)).1, fun p hp => In.lt hs hp, ?_, ?_, ?_, ?_, ?_⟩
  · intro r hr
    rw [len_rowsOf] at hr
    have hu := List.getElem?_eq_getElem (l := vals) (i := r) (by omega)
    obtain ⟨g, e, hg, hrow⟩ := h.row r _ hu
    refine ⟨_, hu, ?_⟩
    rw [e]
    have eq : (rowsOf N k)[r]'(by rw [len_rowsOf]; exact hr) = quad N r := by simp [rowsOf]
    rw [eq]
    have := ints.own_of_row (w := W) (B := 0) (T := W.heap.size) (xs := quad N r) hrow (Nat.zero_le _) hrow.lt (by simp [quad, maxLen])
    exact this.ints
  · intro u hu p hp
    obtain ⟨r, hr⟩ := List.mem_iff_getElem?.1 hu
    obtain ⟨g, rfl, hg, hrow⟩ := h.row r u hr
    obtain ⟨e, _⟩ := in_row hp
    omega
  · intro u hu p hp
    obtain ⟨r, hr⟩ := List.mem_iff_getElem?.1 hu
    obtain ⟨g, rfl, hg, hrow⟩ := h.row r u hr
    obtain ⟨e, _⟩ := in_row hp
    have := hrow.lt
    omega
  · rintro u hu ⟨pb, po, ps⟩ hp
    obtain ⟨r, hr⟩ := List.mem_iff_getElem?.1 hu
    obtain ⟨g, rfl, hg, hrow⟩ := h.row r u hr
    obtain ⟨e, e2, _⟩ := in_row hp
    simp at e e2
    subst e; subst e2
    exact hrow.frozen po
  · intro u hu p hp hq
    obtain ⟨r, hr⟩ := List.mem_iff_getElem?.1 hu
    obtain ⟨g, rfl, hg, hrow⟩ := h.row r u hr
    obtain ⟨e, _⟩ := in_row hp
    obtain ⟨c, hc⟩ := own_type h.owns (vb p hq)
    obtain ⟨c', hc', _⟩ := hrow
    rw [e] at hc
    exact absurd (blk_type hc hc') (by decide)
  · intro r s a b hne ha hb p hp hq
    obtain ⟨g, rfl, _, _⟩ := h.row r a ha
    obtain ⟨g', rfl, _, _⟩ := h.row s b hb
    have e1 := (in_row hp).1
    have e2 := (in_row hq).1
    exact h.each r s g g' hne ha hb (by omega)


set_option maxHeartbeats 1000000 in
theorem valid_yes (x y wh : Int) (v : Value) (xss : List (List Int)) (w : World) (h : IRows w v xss) (hn : total xss ≤ 1048576) (hok : val.okBox x y wh xss) :
    Calls Try.prog 142 #[.agg #[.int .i64 x, .int .i64 y, .int .i64 wh, v]] w fun e w' => e = .returned (.tuple #[.agg #[.int .i64 x, .int .i64 y, .int .i64 wh, v], .bool true]) ∧ Below w.heap.size w w' := by
  obtain ⟨va, vn, vc, rfl⟩ := h.shape
  have K0 := Lib.hid ((Blk.new w 28 #[.int .i64 x, .int .i64 y, .int .i64 wh, .slice va vn vc]).alloc (.cells #[.int .i64 0, .int .i64 0, .int .i64 0, .slice none 0 0] 28))
  have R0 : Hid (Blk ((w.alloc (.cells #[.int .i64 x, .int .i64 y, .int .i64 wh, .slice va vn vc] 28)).alloc (.cells #[.int .i64 0, .int .i64 0, .int .i64 0, .slice none 0 0] 28)) (w.heap.size + 1) 28 #[.int .i64 0, .int .i64 0, .int .i64 0, .slice none 0 0]) := Lib.hid (by
    have := Blk.new (w.alloc (.cells #[.int .i64 x, .int .i64 y, .int .i64 wh, .slice va vn vc] 28)) 28 #[.int .i64 0, .int .i64 0, .int .i64 0, .slice none 0 0]
    simpa using this)
  have hr := val.impl_any x y wh _ xss _ (h.below (below_al (below_al (Below.refl _ _) (.cells #[.int .i64 x, .int .i64 y, .int .i64 wh, .slice va vn vc] 28)) (.cells #[.int .i64 0, .int .i64 0, .int .i64 0, .slice none 0 0] 28))) hn
  rw [val.boxB_yes hok] at hr
  have HR := Lib.hid hr
  clear h hr hok
  go_enter Try.func142, Try.ntmps142
  go_wp2_with fail
  refine HR.out.mono ?_
  rintro e w1 ⟨rfl, hb⟩
  have B1 := Lib.hid (below_tr (below_al (below_al (Below.refl _ _) _) _) hb)
  have K1 := Lib.hid (K0.out.below hb)
  have R1 := Lib.hid (R0.out.below hb)
  obtain ⟨c0, c1, c2, c3, c4⟩ := four_cells K1.out
  obtain ⟨r0, r1, r2, r3, r4⟩ := four_cells R1.out
  have rf : ∀ k, w1.frozen? ⟨w.heap.size + 1, k, none⟩ = false := fun k => Joins.unfrozen_of_block R1.out k
  clear hb HR K0 R0
  go_wp2_with fail
  refine bodyPost_ret (v := .tuple #[.agg #[.int .i64 x, .int .i64 y, .int .i64 wh, .slice va vn vc], .bool true]) (by simp [results, Try.results142, go_sem, r0, r1, r2, r3]) rfl ⟨rfl, ?_⟩
  repeat (refine Below.setCell ?_ (by simp <;> omega) _)
  exact B1.out



set_option maxHeartbeats 1000000 in
theorem valid_no (x y wh : Int) (v : Value) (xss : List (List Int)) (w : World) (h : IRows w v xss) (hn : total xss ≤ 1048576) (hok : ¬ val.okBox x y wh xss) :
    Calls Try.prog 142 #[.agg #[.int .i64 x, .int .i64 y, .int .i64 wh, v]] w fun e w' => e = .returned (.tuple #[.agg #[.int .i64 0, .int .i64 0, .int .i64 0, .slice none 0 0], .bool false]) ∧ Below w.heap.size w w' := by
  obtain ⟨va, vn, vc, rfl⟩ := h.shape
  have R0 : Hid (Blk ((w.alloc (.cells #[.int .i64 x, .int .i64 y, .int .i64 wh, .slice va vn vc] 28)).alloc (.cells #[.int .i64 0, .int .i64 0, .int .i64 0, .slice none 0 0] 28)) (w.heap.size + 1) 28 #[.int .i64 0, .int .i64 0, .int .i64 0, .slice none 0 0]) := Lib.hid (by
    have := Blk.new (w.alloc (.cells #[.int .i64 x, .int .i64 y, .int .i64 wh, .slice va vn vc] 28)) 28 #[.int .i64 0, .int .i64 0, .int .i64 0, .slice none 0 0]
    simpa using this)
  have hr := val.impl_any x y wh _ xss _ (h.below (below_al (below_al (Below.refl _ _) (.cells #[.int .i64 x, .int .i64 y, .int .i64 wh, .slice va vn vc] 28)) (.cells #[.int .i64 0, .int .i64 0, .int .i64 0, .slice none 0 0] 28))) hn
  rw [val.boxB_no hok] at hr
  have HR := Lib.hid hr
  clear h hr hok
  go_enter Try.func142, Try.ntmps142
  go_wp2_with fail
  refine HR.out.mono ?_
  rintro e w1 ⟨rfl, hb⟩
  have B1 := Lib.hid (below_tr (below_al (below_al (Below.refl _ _) _) _) hb)
  have R1 := Lib.hid (R0.out.below hb)
  obtain ⟨r0, r1, r2, r3, r4⟩ := four_cells R1.out
  have rf : ∀ k, w1.frozen? ⟨w.heap.size + 1, k, none⟩ = false := fun k => Joins.unfrozen_of_block R1.out k
  clear hb HR R0
  go_wp2_with fail
  refine bodyPost_ret (v := .tuple #[.agg #[.int .i64 0, .int .i64 0, .int .i64 0, .slice none 0 0], .bool false]) (by simp [results, Try.results142, go_sem, r0, r1, r2, r3]) rfl ⟨rfl, ?_⟩
  repeat (refine Below.setCell ?_ (by simp <;> omega) _)
  exact B1.out






/-- what a function that makes a Box answers -/
structure Res where
  x : Int
  y : Int
  wh : Int
  rows : List (List Int)
  ok : Bool
def Res.zero : Res := ⟨0, 0, 0, [], false⟩
theorem ok_rowsOf {x y : Nat} {wh : Int} {N : Nat → Nat → Int} (hs : val.okSizes x y) (hw : 1 ≤ wh ∧ wh ≤ 1000) (hq : ∀ r, r < x * y → val.okRow wh (quad N r)) : val.okBox x y wh (rowsOf N (x * y)) := by
  refine ⟨hs, hw, by rw [len_rowsOf]; simp, fun k hk => ?_⟩
  rw [len_rowsOf] at hk
  have e : (rowsOf N (x * y))[k]'(by rw [len_rowsOf]; exact hk) = quad N k := by simp [rowsOf]
  rw [e]; exact hq k hk
theorem okRow_quad {wh : Int} {N : Nat → Nat → Int} {r : Nat} (h : ∀ k, k < 4 → 0 ≤ N r k ∧ N r k ≤ wh) (hs : N r 0 + N r 1 + N r 2 + N r 3 = wh) : val.okRow wh (quad N r) := by
  refine ⟨rfl, fun k hk => ?_, by simp [quad]; omega⟩
  have hk' : k < 4 := hk
  match k, hk' with
  | 0, _ => exact h 0 (by omega)
  | 1, _ => exact h 1 (by omega)
  | 2, _ => exact h 2 (by omega)
  | 3, _ => exact h 3 (by omega)

end Go.Proofs.Ytiigfhigmdjooaa.make
