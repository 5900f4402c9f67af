/- The greatest worth of a functional for plays, and the plays that have it: the arithmetic, and the memory of the best plays. -/
import Derived.Test.YtkajebhagkbcaabPlays
import Derived.Test.YtkajebhagkbcaabPworth
namespace Go.Proofs.Ytkajebhagkbcaab.loc
open Go.RowKit Go.Deep Go.Proofs.Ytkajebhagkbcaab.base
open Go.Proofs.Ytkajebhagkbcaab.val (okSizes)
open Go.Proofs.Ytkajebhagkbcaab.play (within)
open Go.Proofs.Ytkajebhagkbcaab.worth (okFun worth)
open Go.Proofs.Ytkajebhagkbcaab.make (blk_type own_type)

/-- the greatest of the first numbers, as it is sought -/
def mx (g : Nat → Int) : Nat → Int
  | 0 => 0
  | k + 1 => if k = 0 ∨ mx g k < g k then g k else mx g k
/-- the places of the greatest ones so far -/
def bl (g : Nat → Int) : Nat → List Nat
  | 0 => []
  | k + 1 => if k = 0 ∨ mx g k < g k then [k] else if g k = mx g k then bl g k ++ [k] else bl g k
theorem mx_new {g : Nat → Int} {k : Nat} (h : k = 0 ∨ mx g k < g k) : mx g (k + 1) = g k := if_pos h
theorem mx_old {g : Nat → Int} {k : Nat} (h : ¬ (k = 0 ∨ mx g k < g k)) : mx g (k + 1) = mx g k := if_neg h
theorem bl_new {g : Nat → Int} {k : Nat} (h : k = 0 ∨ mx g k < g k) : bl g (k + 1) = [k] := if_pos h
theorem bl_more {g : Nat → Int} {k : Nat} (h : ¬ (k = 0 ∨ mx g k < g k)) (h' : g k = mx g k) : bl g (k + 1) = bl g k ++ [k] := by
  show (if k = 0 ∨ mx g k < g k then [k] else if g k = mx g k then bl g k ++ [k] else bl g k) = _
  rw [if_neg h, if_pos h']
theorem bl_old {g : Nat → Int} {k : Nat} (h : ¬ (k = 0 ∨ mx g k < g k)) (h' : ¬ g k = mx g k) : bl g (k + 1) = bl g k := by
  conv => lhs; unfold bl
  rw [if_neg h, if_neg h']
theorem le_mx (g : Nat → Int) : ∀ k p, p < k → g p ≤ mx g k
  | 0, p, h => by omega
  | k + 1, p, h => by
    by_cases hn : k = 0 ∨ mx g k < g k
    · rw [mx_new hn]
      by_cases e : p = k
      · rw [e]; exact Int.le_refl _
      · rcases hn with h0 | h1
        · omega
        · have := le_mx g k p (by omega); omega
    · rw [mx_old hn]
      by_cases e : p = k
      · rw [e]; omega
      · exact le_mx g k p (by omega)
theorem bl_filter (g : Nat → Int) : ∀ k, bl g k = (List.range k).filter (fun p => decide (g p = mx g k))
  | 0 => rfl
  | k + 1 => by
    rw [List.range_succ, List.filter_append]
    by_cases hn : k = 0 ∨ mx g k < g k
    · rw [mx_new hn, bl_new hn]
      have : (List.range k).filter (fun p => decide (g p = g k)) = [] := by
        rw [List.filter_eq_nil_iff]
        intro p hp
        have hp := List.mem_range.1 hp
        rcases hn with h0 | h1
        · omega
        · have := le_mx g k p hp
          simp; omega
      rw [this]
      simp
    · rw [mx_old hn]
      by_cases he : g k = mx g k
      · rw [bl_more hn he, bl_filter g k]
        simp [he]
      · rw [bl_old hn he, bl_filter g k]
        simp [he]
theorem bl_lt (g : Nat → Int) {k p : Nat} (h : p ∈ bl g k) : p < k := by
  rw [bl_filter] at h
  exact List.mem_range.1 (List.mem_filter.1 h).1
theorem bl_pos (g : Nat → Int) : ∀ k, 0 < k → 0 < (bl g k).length
  | 0, h => by omega
  | k + 1, _ => by
    by_cases hn : k = 0 ∨ mx g k < g k
    · rw [bl_new hn]; simp
    · have hk : 0 < k := by omega
      by_cases he : g k = mx g k
      · rw [bl_more hn he]; simp
      · rw [bl_old hn he]; exact bl_pos g k hk
theorem bl_len (g : Nat → Int) (k : Nat) : (bl g k).length ≤ k := by
  rw [bl_filter]
  have := List.length_filter_le (fun p => decide (g p = mx g k)) (List.range k)
  simpa using this

/-- the worth for the play with the place p -/
def g (x y : Int) (fss : List (List Int)) (p : Nat) : Int := worth fss (pworth.prows x y (plays.at_ (x + y).toNat p))
theorem at_within {x y : Int} (h : okSizes x y) (p : Nat) : within (x + y) 0 1 (plays.at_ (x + y).toNat p) := by
  refine ⟨by rw [plays.len_at]; have := h.1.1; have := h.2.1; omega, fun k hk => ?_⟩
  rw [plays.len_at] at hk
  have e : (plays.at_ (x + y).toNat p)[k]'(by rw [plays.len_at]; exact hk) = plays.bit (x + y).toNat p k := by simp [plays.at_]
  rw [e]
  unfold plays.bit
  omega
def val (x y : Int) (fss : List (List Int)) : Int := mx (g x y fss) (2 ^ (x + y).toNat)
def best (x y : Int) (fss : List (List Int)) : List (List Int) := (bl (g x y fss) (2 ^ (x + y).toNat)).map (plays.at_ (x + y).toNat)
open Classical in
noncomputable def res (x y : Int) (fss : List (List Int)) : Int × List (List Int) × Bool := if okFun x y fss then (val x y fss, best x y fss, true) else (0, [], false)
theorem res_yes {x y : Int} {fss : List (List Int)} (h : okFun x y fss) : res x y fss = (val x y fss, best x y fss, true) := if_pos h
theorem res_no {x y : Int} {fss : List (List Int)} (h : ¬ okFun x y fss) : res x y fss = (0, [], false) := if_neg h
theorem total_map (n : Nat) (l : List Nat) (hn : n ≤ 6) (hl : l.length ≤ 64) : rws.total (l.map (plays.at_ n)) ≤ 1048576 := by
  have : ((l.map (plays.at_ n)).map List.length).sum = l.length * n := by
    clear hl
    induction l with
    | nil => simp
    | cons a l ih => simp [plays.len_at, Nat.add_mul] at ih ⊢; omega
  unfold rws.total
  rw [this, List.length_map]
  have : l.length * n ≤ 64 * 6 := Nat.mul_le_mul hl hn
  omega
theorem tot (x y : Int) (fss : List (List Int)) : rws.total (res x y fss).2.1 ≤ 1048576 := by
  by_cases h : okFun x y fss
  · rw [res_yes h]
    obtain ⟨⟨⟨a1, a2⟩, b1, b2⟩, _⟩ := h
    exact total_map _ _ (by omega) (Nat.le_trans (bl_len _ _) (plays.two_pow (by omega)))
  · rw [res_no h]; exact Nat.zero_le _

/-- rows picked among rows of the call's own (in the blocks from B on and below T) into a slice made beyond T -/
structure Pick (wr : World) (B T : Nat) (v : Value) (vals : List Value) (xss : List (List Int)) : Prop where
  owns : wr.ownsRow T 40 1 v xss.length vals
  row : ∀ r u, vals[r]? = some u → ∃ h : r < xss.length, OwnInts wr B T u xss[r]
  each : ∀ (r s : Nat) (a b : Value), r ≠ s → vals[r]? = some a → vals[s]? = some b → ∀ p, In a p → ¬ In b p
  le : B ≤ T
  lt : T ≤ wr.heap.size
theorem Pick.none (wr : World) (B T : Nat) (h : B ≤ T) (h' : T ≤ wr.heap.size) : Pick wr B T (.slice none 0 0) [] [] :=
  ⟨World.ownsRow_nil wr T _ 1, fun r u h => by simp at h, fun r s a b _ h => by simp at h, h, h'⟩
theorem Pick.keep {wr w2 : World} {B T : Nat} {v : Value} {vals : List Value} {xss : List (List Int)} (h : Pick wr B T v vals xss) (hb : Below wr.heap.size wr w2) : Pick w2 B T v vals xss :=
  ⟨app.owns_below h.owns hb, fun r u hu => by obtain ⟨h1, h2⟩ := h.row r u hu; exact ⟨h1, h2.keep hb⟩, h.each, h.le, Nat.le_trans h.lt hb.size⟩
theorem Pick.grow {W w' : World} {B T : Nat} {v v' u : Value} {vals : List Value} {xss : List (List Int)} {xs : List Int} (h : Pick W B T v vals xss) (hu : OwnInts W B T u xs) (hd : ∀ q ∈ vals, ∀ p, In q p → ¬ In u p)
    (ho : w'.ownsRow T 40 1 v' (xss.length + 1) (vals ++ [u])) (hg : W.grownBy w' v.ownBlock) : Pick w' B T v' (vals ++ [u]) (xss ++ [xs]) := by
  have hlen : vals.length = xss.length := by have := h.owns.1; omega
  have far : ∀ p : Addr, p.block < T → w'.heap[p.block]? = W.heap[p.block]? := fun p hp => hg.block _ (Nat.lt_of_lt_of_le hp h.lt) (fun e => by have := (h.owns.lt _ e.symm).1; omega)
  have old : ∀ r a, (vals ++ [u])[r]? = some a → (r < vals.length ∧ vals[r]? = some a) ∨ (r = vals.length ∧ a = u) := by
    intro r a ha
    by_cases e : r < vals.length
    · rw [List.getElem?_append_left e] at ha; exact .inl ⟨e, ha⟩
    · rw [List.getElem?_append_right (by omega)] at ha
      rcases Nat.eq_zero_or_pos (r - vals.length) with g | g
      · rw [g] at ha; simp at ha; exact .inr ⟨by omega, ha.symm⟩
      · rw [List.getElem?_eq_none (by simp; omega)] at ha; cases ha
  refine ⟨by simpa using ho, ?_, ?_, h.le, Nat.le_trans h.lt hg.size⟩
  · intro r q hq
    rcases old r q hq with ⟨_, e⟩ | ⟨rfl, rfl⟩
    · obtain ⟨h1, h2⟩ := h.row r q e
      refine ⟨by simp; omega, ?_⟩
      rw [List.getElem_append_left h1]
      exact pile.own_heap h2 (fun p hp => far p (h2.lt p hp))
    · refine ⟨by simp; omega, ?_⟩
      rw [List.getElem_append_right (by omega)]
      simp only [hlen, Nat.sub_self, List.getElem_cons_zero]
      exact pile.own_heap hu (fun p hp => far p (hu.lt p hp))
  · intro r s a b hne ha hb p hp hq
    rcases old r a ha with ⟨_, e1⟩ | ⟨e1, rfl⟩ <;> rcases old s b hb with ⟨_, e2⟩ | ⟨e2, rfl⟩
    · exact h.each r s a b hne e1 e2 p hp hq
    · exact hd a (List.mem_of_getElem? e1) p hp hq
    · exact hd b (List.mem_of_getElem? e2) p hq hp
    · omega
theorem Pick.rows {wr : World} {B T : Nat} {v : Value} {vals : List Value} {xss : List (List Int)} (h : Pick wr B T v vals xss) : OwnRows wr B wr.heap.size v xss := by
  have hlen : vals.length = xss.length := by have := h.owns.1; omega
  have hs : Sl wr v vals := app.sl_of_owns h.owns
  have vb : ∀ p, In v p → v.ownBlock = some p.block := by
    rintro p ⟨b, o, len, cap, rfl, hb, _⟩
    simp [Value.ownBlock, hb]
  have mem : ∀ u ∈ vals, ∃ xs, OwnInts wr B T u xs := fun u hu => by
    obtain ⟨r, hr⟩ := List.mem_iff_getElem?.1 hu
    obtain ⟨_, h2⟩ := h.row r u hr
    exact ⟨_, h2⟩
  refine ⟨vals, hs, hlen, ?_, fun p hp => Nat.le_trans h.le (h.owns.lt _ (vb p hp)).1, fun p hp => In.lt hs hp, ?_, ?_, ?_, ?_, h.each⟩
  · intro r hr
    have hu := List.getElem?_eq_getElem (l := vals) (i := r) (by omega)
    obtain ⟨_, h2⟩ := h.row r _ hu
    exact ⟨_, hu, h2.ints⟩
  · intro u hu p hp; obtain ⟨_, h2⟩ := mem u hu; exact h2.ge p hp
  · intro u hu p hp; obtain ⟨_, h2⟩ := mem u hu; exact Nat.lt_of_lt_of_le (h2.lt p hp) h.lt
  · intro u hu p hp; obtain ⟨_, h2⟩ := mem u hu; exact h2.free p hp
  · intro u hu p hp hq
    obtain ⟨_, h2⟩ := mem u hu
    have := h2.lt p hp
    have := (h.owns.lt _ (vb p hq)).1
    omega
/-- a row among rows of the call's own -/
theorem own_at {w : World} {B T : Nat} {v : Value} {vals : List Value} {xss : List (List Int)} (h : OwnVals w B T v vals xss) {r : Nat} (hr : r < xss.length) :
    ∃ u, vals[r]? = some u ∧ OwnInts w B T u xss[r] := by
  obtain ⟨u, hu, hi⟩ := h.row r hr
  have hm := List.mem_of_getElem? hu
  exact ⟨u, hu, hi, h.ge u hm, h.lt u hm, h.free u hm⟩

end Go.Proofs.Ytkajebhagkbcaab.loc
