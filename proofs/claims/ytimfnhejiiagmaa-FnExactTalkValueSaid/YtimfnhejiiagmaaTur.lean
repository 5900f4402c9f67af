/- Rows of the call's own that grow by append, each for itself, in a table that make laid: for TurnTask. -/
import Derived.Test.YtimfnhejiiagmaaGrid
import Derived.Test.YtimfnhejiiagmaaPile
import Derived.Test.YtimfnhejiiagmaaApl
namespace Go.Proofs.Ytimfnhejiiagmaa.tur
open Go.RowKit Go.Deep Go.Proofs.Ytimfnhejiiagmaa.base
open Go.Proofs.Ytimfnhejiiagmaa.ints (infoInt infoInts)
open Go.Proofs.Ytimfnhejiiagmaa.task (okTask wide)
open Go.Proofs.Ytimfnhejiiagmaa.grid (nn)

/-- the first k numbers of column j; the first j columns -/
def col (xss : List (List Int)) (k j : Nat) : List Int := (List.range k).map fun i => nn xss i j
def cols (xss : List (List Int)) (k j : Nat) : List (List Int) := (List.range j).map fun j => col xss k j
theorem col_succ (xss : List (List Int)) (k j : Nat) : col xss (k + 1) j = col xss k j ++ [nn xss k j] := by simp [col, List.range_succ]
theorem cols_succ (xss : List (List Int)) (k j : Nat) : cols xss k (j + 1) = cols xss k j ++ [col xss k j] := by simp [cols, List.range_succ]
theorem len_col (xss : List (List Int)) (k j : Nat) : (col xss k j).length = k := by simp [col]
theorem len_cols (xss : List (List Int)) (k j : Nat) : (cols xss k j).length = j := by simp [cols]
theorem tot_cols (xss : List (List Int)) (k j : Nat) : rws.total (cols xss k j) = j + j * k := by
  have : ((cols xss k j).map List.length) = List.replicate j k := by
    unfold cols
    rw [List.map_map]
    refine List.ext_getElem (by simp) (fun i h1 h2 => ?_)
    simp [len_col]
  unfold rws.total
  rw [this, len_cols]
  simp

open Classical in
/-- what TurnTask answers -/
noncomputable def res (xss : List (List Int)) : List (List Int) × Bool := if okTask xss then (cols xss xss.length (wide xss), true) else ([], false)
theorem res_yes {xss : List (List Int)} (h : okTask xss) : res xss = (cols xss xss.length (wide xss), true) := if_pos h
theorem res_no {xss : List (List Int)} (h : ¬ okTask xss) : res xss = ([], false) := if_neg h
theorem tot (xss : List (List Int)) : rws.total (res xss).1 ≤ 1048576 := by
  by_cases h : okTask xss
  · rw [res_yes h]
    show rws.total (cols xss xss.length (wide xss)) ≤ 1048576
    rw [tot_cols]
    obtain ⟨⟨_, h1⟩, ⟨_, h2⟩, _⟩ := h
    have : wide xss * xss.length ≤ 4 * 4 := Nat.mul_le_mul h2 h1
    omega
  · rw [res_no h]; exact Nat.zero_le _

/-- an own list's cells lie in its block -/
theorem in_own {w : World} {B e n : Nat} {v : Value} {vals : List Value} (h : w.ownsRow B e 1 v n vals) {p : Addr} (hp : In v p) : v.ownBlock = some p.block := by
  obtain ⟨b, o, len, cap, rfl, hb, _⟩ := hp
  rcases h.2 with ⟨h0, _⟩ | ⟨g, cap', cur, hv, _⟩
  · cases h0
  · injection hv with e1 _ _
    injection e1 with e1
    injection e1 with e1 _ _
    subst e1
    simp [Value.ownBlock, hb]

/-- a table of Y lists, list c with the numbers C c, each in memory of its own -/
structure Tur (w wr : World) (g Y : Nat) (f : Nat → Value) (C : Nat → List Int) : Prop where
  below : Below w.heap.size w wr
  base : w.heap.size ≤ g
  tab : wr.rowIs g 34 Y f
  own : ∀ c, c < Y → wr.ownsRow (g + 1) 3 1 (f c) (C c).length (i64s (C c))
  dis : ∀ c d, c < Y → d < Y → c ≠ d → ∀ q, (f c).ownBlock = some q → (f d).ownBlock ≠ some q

theorem Tur.keep {w wr w2 : World} {g Y : Nat} {f : Nat → Value} {C : Nat → List Int} (h : Tur w wr g Y f C) (hb : Below wr.heap.size wr w2) : Tur w w2 g Y f C :=
  ⟨below_tr h.below hb, h.base, h.tab.of_block (hb.block _ h.tab.lt), fun c hc => app.owns_below (h.own c hc) hb, h.dis⟩
theorem Tur.congr {w wr : World} {g Y : Nat} {f : Nat → Value} {C D : Nat → List Int} (h : Tur w wr g Y f C) (e : ∀ c, c < Y → C c = D c) : Tur w wr g Y f D :=
  ⟨h.below, h.base, h.tab, fun c hc => by rw [← e c hc]; exact h.own c hc, h.dis⟩

theorem Tur.step {w W w3 : World} {g Y : Nat} {f : Nat → Value} {C : Nat → List Int} (h : Tur w W g Y f C) {c : Nat} (hc : c < Y) {v' : Value} {x : Int}
    (ho : w3.ownsRow (g + 1) 3 1 v' ((C c).length + 1) (i64s (C c) ++ [.int .i64 x])) (hg : W.grownBy w3 (f c).ownBlock) (hl : v'.ownBlock = (f c).ownBlock ∨ v'.ownBlock = some W.heap.size) :
    Tur w (w3.setCell ⟨g, c, none⟩ v') g Y (fun d => if d = c then v' else f d) (fun d => if d = c then C c ++ [x] else C d) := by
  have hgl := h.tab.lt
  have far : ∀ q, (f c).ownBlock = some q → g + 1 ≤ q := fun q hq => ((h.own c hc).lt q hq).1
  have hg3 : w3.heap[g]? = W.heap[g]? := hg.block g hgl (fun e => by have := far g e.symm; omega)
  refine ⟨?_, h.base, (h.tab.of_block hg3).set c v', fun d hd => ?_, fun d d' hd hd' hne q hq => ?_⟩
  · exact (h.below.grown hg h.below.size (fun j hj => by have := far j hj; have := h.base; omega)).setCell h.base _
  · by_cases e : d = c
    · subst e
      simp only [if_true]
      refine ownsRow_setCell_below ?_ (by simp) _
      rw [List.length_append, ← app.i64s_snoc]
      exact ho
    · simp only [if_neg e]
      refine ownsRow_setCell_below ((h.own d hd).kept hg ?_) (by simp) _
      cases hb : (f d).ownBlock with
      | none => exact .inl rfl
      | some b => exact .inr (fun e2 => h.dis d c hd hc e b hb e2.symm)
  · have old : ∀ d, d < Y → ∀ q, (f d).ownBlock = some q → q < W.heap.size := fun d hd q hq => ((h.own d hd).lt q hq).2
    by_cases e : d = c
    · by_cases e' : d' = c
      · omega
      · rw [if_pos e] at hq
        rw [if_neg e']
        rcases hl with k | k
        · rw [k] at hq
          exact h.dis c d' hc hd' (fun e2 => e' e2.symm) q hq
        · rw [k] at hq
          injection hq with hq
          intro e2
          have := old d' hd' q e2
          omega
    · rw [if_neg e] at hq
      by_cases e' : d' = c
      · rw [if_pos e']
        rcases hl with k | k
        · rw [k]
          exact h.dis d c hd hc e q hq
        · rw [k]
          intro e2
          injection e2 with e2
          have := old d hd q hq
          omega
      · rw [if_neg e']
        exact h.dis d d' hd hd' hne q hq

theorem Tur.start {w wr : World} {Y : Nat} (hb : Below w.heap.size w wr) : Tur w (wr.alloc (.cells (madeCells #[.slice none 0 0] Y) 34)) wr.heap.size Y (fun _ => .slice none 0 0) (fun _ => []) :=
  ⟨hb.alloc hb.size _, hb.size, World.rowIs_made _ _ _ _, fun _ _ => ⟨by simp [i64s], .inl ⟨rfl, rfl⟩⟩, fun _ _ _ _ _ q hq => by simp [Value.ownBlock] at hq⟩

theorem Tur.rows {w wr : World} {g Y : Nat} {f : Nat → Value} {C : Nat → List Int} (h : Tur w wr g Y f C) (hm : Y ≤ maxLen) : OwnRows wr w.heap.size wr.heap.size (.slice (some ⟨g, 0, none⟩) Y Y) ((List.range Y).map C) := by
  have hin : ∀ p, In (.slice (some ⟨g, 0, none⟩) Y Y) p → p.block = g := by
    rintro p ⟨b, o, len, cap, hv, hb, _⟩
    injection hv with e1 e2 e3
    injection e1 with e1
    injection e1 with e1
    omega
  have hbase := h.base
  have mem : ∀ u ∈ (List.range Y).map f, ∃ c, c < Y ∧ f c = u := fun u hu => by
    obtain ⟨c, hc, e⟩ := List.mem_map.1 hu
    exact ⟨c, List.mem_range.1 hc, e⟩
  have at' : ∀ r a, ((List.range Y).map f)[r]? = some a → r < Y ∧ f r = a := fun r a ha => by
    obtain ⟨hr, e⟩ := List.getElem?_eq_some_iff.1 ha
    simp at hr e
    exact ⟨hr, e⟩
  refine ⟨(List.range Y).map f, ⟨some ⟨g, 0, none⟩, Y, by simp, by simp, hm, fun k u hu => ⟨g, 0, rfl, ?_⟩⟩, by simp, ?_, ?_, ?_, ?_, ?_, ?_, ?_, ?_⟩
  · obtain ⟨hk, e⟩ := at' k u hu
    rw [Nat.zero_add, h.tab.cell hk, e]
  · intro r hr
    have hr' : r < Y := by simpa using hr
    refine ⟨f r, by simp [hr'], ?_⟩
    have := (app.ints_of_owns (h.own r hr')).ints
    simpa using this
  · intro p hp; rw [hin p hp]; exact h.base
  · intro p hp; rw [hin p hp]; exact h.tab.lt
  · intro u hu p hp
    obtain ⟨c, hc, rfl⟩ := mem u hu
    have := ((h.own c hc).lt _ (in_own (h.own c hc) hp)).1
    omega
  · intro u hu p hp
    obtain ⟨c, hc, rfl⟩ := mem u hu
    exact ((h.own c hc).lt _ (in_own (h.own c hc) hp)).2
  · intro u hu p hp
    obtain ⟨c, hc, rfl⟩ := mem u hu
    exact (app.ints_of_owns (h.own c hc)).free p hp
  · intro u hu p hp hq
    obtain ⟨c, hc, rfl⟩ := mem u hu
    have := ((h.own c hc).lt _ (in_own (h.own c hc) hp)).1
    have := hin p hq
    omega
  · intro r s a b hne ha hb p hp hq
    obtain ⟨hr, rfl⟩ := at' r a ha
    obtain ⟨hs, rfl⟩ := at' s b hb
    exact h.dis r s hr hs hne _ (in_own (h.own r hr) hp) (in_own (h.own s hs) hq)

end Go.Proofs.Ytimfnhejiiagmaa.tur
