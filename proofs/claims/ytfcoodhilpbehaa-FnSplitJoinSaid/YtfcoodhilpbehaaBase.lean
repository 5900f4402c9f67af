/- Words of memory for the texts of this seat: a slice that reads as a list of values, of integers, of rows of integers; a slice of the call's own; a store into a row of the call's own. They speak of no program. -/
import Derived.WalkKit
import Derived.ProofKit
import Derived.OpenShut
import Derived.ShutString
import Derived.Below
import Derived.OneCell
import Derived.Carry
import Derived.Lib.Hide
import Derived.Lib.SmallJoins
import Derived.Deep.OwnRows
import Derived.Deep.LoopGhost
import Derived.Deep.Light
import Derived.Deep.Matrix
import Derived.IntWalk
import Derived.WalkSpells
import Derived.WalkLawsBesides
import Derived.Deep.QuietTactic
import Derived.BigQuiet
namespace Go.Proofs.Ytfcoodhilpbehaa.base
open Go.RowKit Go.Deep

/-- the slice value v holds the cells vals -/
def Sl (w : World) (v : Value) (vals : List Value) : Prop :=
  ∃ (A : Option Addr) (cap : Nat), v = .slice A vals.length cap ∧ vals.length ≤ cap ∧ cap ≤ maxLen ∧
    ∀ k u, vals[k]? = some u → ∃ b o, A = some ⟨b, o, none⟩ ∧ w.cell? ⟨b, o + k, none⟩ = some u

theorem Sl.nil (w : World) : Sl w (.slice none 0 0) [] := ⟨none, 0, rfl, Nat.le_refl _, Nat.zero_le _, fun k u h => by simp at h⟩

theorem Sl.keep {w w' : World} {v : Value} {vals : List Value} (h : Sl w v vals) (hk : ∀ a u, w.cell? a = some u → w'.cell? a = some u) : Sl w' v vals := by
  obtain ⟨A, cap, hv, h1, h2, hc⟩ := h
  refine ⟨A, cap, hv, h1, h2, fun k u hu => ?_⟩
  obtain ⟨b, o, hA, hcell⟩ := hc k u hu
  exact ⟨b, o, hA, hk _ _ hcell⟩

theorem below_cell {w w' : World} (h : Below w.heap.size w w') : ∀ a u, w.cell? a = some u → w'.cell? a = some u := fun _ _ hu =>
  (h.cell (World.block_lt_of_cell? _ _ hu)).trans hu

theorem below_al {w w1 : World} (h : Below w.heap.size w w1) (o : Obj) : Below w.heap.size w (w1.alloc o) := h.alloc h.size o
theorem below_tr {w w1 w2 : World} (h : Below w.heap.size w w1) (k : Below w1.heap.size w1 w2) : Below w.heap.size w w2 := h.trans (k.mono h.size)
theorem below_drewN {w w1 : World} (h : Below w.heap.size w w1) (n : Nat) : Below w.heap.size w (w1.drewN n) := ⟨h.os, h.tape, h.output, h.size, h.block⟩

theorem Sl.below {w w' : World} {v : Value} {vals : List Value} (h : Sl w v vals) (hb : Below w.heap.size w w') : Sl w' v vals := h.keep (below_cell hb)

/-- the form of the value, one for a nil slice and any other -/
theorem Sl.form {w : World} {v : Value} {vals : List Value} (h : Sl w v vals) :
    ∃ (A : Option Addr) (b o cap : Nat), v = .slice A vals.length cap ∧ vals.length ≤ cap ∧ cap ≤ maxLen ∧ (0 < vals.length → A = some ⟨b, o, none⟩) ∧
      ∀ k u, vals[k]? = some u → w.cell? ⟨b, o + k, none⟩ = some u := by
  obtain ⟨A, cap, hv, h1, h2, hc⟩ := h
  by_cases h0 : 0 < vals.length
  · obtain ⟨b, o, hA, hcell⟩ := hc 0 _ (List.getElem?_eq_getElem h0)
    refine ⟨A, b, o, cap, hv, h1, h2, fun _ => hA, fun k u hu => ?_⟩
    obtain ⟨b', o', hA', hcell'⟩ := hc k u hu
    rw [hA] at hA'
    injection hA' with e
    injection e with e1 e2
    subst e1; subst e2
    exact hcell'
  · refine ⟨A, 0, 0, cap, hv, h1, h2, fun h => absurd h h0, fun k u hu => ?_⟩
    have : vals = [] := List.eq_nil_of_length_eq_zero (by omega)
    subst this; simp at hu

def i64s (xs : List Int) : List Value := xs.map (Value.int .i64)
theorem len_i64s (xs : List Int) : (i64s xs).length = xs.length := List.length_map _
theorem get_i64s {xs : List Int} {k : Nat} (h : k < xs.length) : (i64s xs)[k]? = some (.int .i64 xs[k]) := by
  simp [i64s, h]

/-- the slice value v holds the integers xs -/
def Ints (w : World) (v : Value) (xs : List Int) : Prop := Sl w v (i64s xs)
theorem Ints.below {w w' : World} {v : Value} {xs : List Int} (h : Ints w v xs) (hb : Below w.heap.size w w') : Ints w' v xs := Sl.below h hb
theorem Ints.keep {w w' : World} {v : Value} {xs : List Int} (h : Ints w v xs) (hk : ∀ a u, w.cell? a = some u → w'.cell? a = some u) : Ints w' v xs := Sl.keep h hk
theorem Ints.nil (w : World) : Ints w (.slice none 0 0) [] := Sl.nil w
theorem Ints.form {w : World} {v : Value} {xs : List Int} (h : Ints w v xs) :
    ∃ (A : Option Addr) (b o cap : Nat), v = .slice A xs.length cap ∧ xs.length ≤ cap ∧ cap ≤ maxLen ∧ (0 < xs.length → A = some ⟨b, o, none⟩) ∧
      ∀ k (hk : k < xs.length), w.cell? ⟨b, o + k, none⟩ = some (.int .i64 xs[k]) := by
  obtain ⟨A, b, o, cap, hv, h1, h2, h3, hc⟩ := Sl.form h
  rw [len_i64s] at hv h1 h3
  exact ⟨A, b, o, cap, hv, h1, h2, h3, fun k hk => hc k _ (get_i64s hk)⟩

theorem Ints.shape {w : World} {v : Value} {xs : List Int} (h : Ints w v xs) : ∃ a n c, v = .slice a n c := by
  obtain ⟨A, cap, hv, _⟩ := h; exact ⟨_, _, _, hv⟩

/-- the slice value v holds rows of integers -/
def IRows (w : World) (v : Value) (xss : List (List Int)) : Prop :=
  ∃ vals : List Value, Sl w v vals ∧ vals.length = xss.length ∧ ∀ r (h : r < xss.length), ∃ u, vals[r]? = some u ∧ Ints w u xss[r]
theorem IRows.keep {w w' : World} {v : Value} {xss : List (List Int)} (h : IRows w v xss) (hk : ∀ a u, w.cell? a = some u → w'.cell? a = some u) : IRows w' v xss := by
  obtain ⟨vals, h1, h2, h3⟩ := h
  refine ⟨vals, h1.keep hk, h2, fun r hr => ?_⟩
  obtain ⟨u, hu, hi⟩ := h3 r hr
  exact ⟨u, hu, hi.keep hk⟩
theorem IRows.below {w w' : World} {v : Value} {xss : List (List Int)} (h : IRows w v xss) (hb : Below w.heap.size w w') : IRows w' v xss := h.keep (below_cell hb)
theorem IRows.nil (w : World) : IRows w (.slice none 0 0) [] := ⟨[], Sl.nil w, rfl, fun r h => by simp at h⟩
theorem IRows.form {w : World} {v : Value} {xss : List (List Int)} (h : IRows w v xss) :
    ∃ (A : Option Addr) (b o cap : Nat) (R : Nat → Value), v = .slice A xss.length cap ∧ xss.length ≤ cap ∧ cap ≤ maxLen ∧ (0 < xss.length → A = some ⟨b, o, none⟩) ∧
      ∀ k (hk : k < xss.length), w.cell? ⟨b, o + k, none⟩ = some (R k) ∧ Ints w (R k) xss[k] := by
  obtain ⟨vals, h1, h2, h3⟩ := h
  obtain ⟨A, b, o, cap, hv, g1, g2, g3, hc⟩ := h1.form
  rw [h2] at hv g1 g3
  refine ⟨A, b, o, cap, fun k => vals[k]?.getD .nilFunc, hv, g1, g2, g3, fun k hk => ?_⟩
  obtain ⟨u, hu, hi⟩ := h3 k hk
  simp only [hu, Option.getD_some]
  exact ⟨hc k u hu, hi⟩

theorem IRows.shape {w : World} {v : Value} {xss : List (List Int)} (h : IRows w v xss) : ∃ a n c, v = .slice a n c := by
  obtain ⟨vals, ⟨A, cap, hv, _⟩, _⟩ := h; exact ⟨_, _, _, hv⟩

/-! ### the cells of a slice, and what is written into them -/

/-- p is one of the cells that v shows -/
def In (v : Value) (p : Addr) : Prop := ∃ b o len cap, v = .slice (some ⟨b, o, none⟩) len cap ∧ p.block = b ∧ p.spot = none ∧ o ≤ p.off ∧ p.off < o + len

theorem In.lt {w : World} {v : Value} {vals : List Value} (h : Sl w v vals) {p : Addr} (hp : In v p) : p.block < w.heap.size := by
  obtain ⟨b, o, len, cap, rfl, hb, _, h1, h2⟩ := hp
  obtain ⟨A, cap', hv, _, _, hc⟩ := h
  injection hv with e1 e2 e3
  subst e1; subst e2
  obtain ⟨b', o', hA, hcell⟩ := hc 0 _ (List.getElem?_eq_getElem (by omega))
  injection hA with e
  injection e with e1 e2
  subst e1
  have := World.block_lt_of_cell? _ _ hcell
  simp at this
  omega

/-- only cells of S have been written; nothing has been made -/
structure Wrote (S : Addr → Prop) (w w' : World) : Prop where
  os : w'.os = w.os
  tape : w'.tape = w.tape
  output : w'.output = w.output
  size : w'.heap.size = w.heap.size
  cell : ∀ p, ¬ S p → w'.cell? p = w.cell? p
  there : ∀ p u, w.cell? p = some u → ∃ u', w'.cell? p = some u'
  frozen : ∀ p, w'.frozen? p = w.frozen? p
  block : ∀ k, (∀ p, S p → p.block ≠ k) → w'.heap[k]? = w.heap[k]?

theorem Wrote.refl (S : Addr → Prop) (w : World) : Wrote S w w := ⟨rfl, rfl, rfl, rfl, fun _ _ => rfl, fun _ u h => ⟨u, h⟩, fun _ => rfl, fun _ _ => rfl⟩
theorem Wrote.drew {S : Addr → Prop} {w w' : World} (h : Wrote S w w') : Wrote S w w'.drew := ⟨h.os, h.tape, h.output, h.size, h.cell, h.there, h.frozen, h.block⟩
theorem Wrote.trans {S : Addr → Prop} {a b c : World} (h : Wrote S a b) (k : Wrote S b c) : Wrote S a c :=
  ⟨k.os.trans h.os, k.tape.trans h.tape, k.output.trans h.output, k.size.trans h.size, fun p hp => (k.cell p hp).trans (h.cell p hp), fun p u hu => by obtain ⟨u', hu'⟩ := h.there p u hu; exact k.there p u' hu', fun p => (k.frozen p).trans (h.frozen p), fun i hi => (k.block i hi).trans (h.block i hi)⟩
theorem Wrote.mono {S T : Addr → Prop} {w w' : World} (h : Wrote S w w') (hs : ∀ p, S p → T p) : Wrote T w w' :=
  ⟨h.os, h.tape, h.output, h.size, fun p hp => h.cell p (fun hq => hp (hs p hq)), h.there, h.frozen, fun k hk => h.block k (fun p hp => hk p (hs p hp))⟩
theorem setCell_there {w : World} {p q : Addr} {u v : Value} (h : w.cell? q = some u) : ∃ u', (w.setCell p v).cell? q = some u' := by
  by_cases e : p = q
  · subst e; exact ⟨v, World.cell?_setCell_same w p v h⟩
  · exact ⟨u, (World.cell?_setCell_other w p q v e).trans h⟩

theorem Wrote.setCell {S : Addr → Prop} {w w' : World} (h : Wrote S w w') {p : Addr} (hp : S p) (u : Value) : Wrote S w (w'.setCell p u) :=
  h.trans ⟨rfl, rfl, rfl, by simp [World.setCell], fun q hq => World.cell?_setCell_other w' p q u (fun e => hq (e ▸ hp)), fun q v hv => setCell_there hv, fun q => by simp, fun k hk => Below.heap_setCell _ _ _ _ (fun e => hk p hp e.symm)⟩
theorem Wrote.below {S : Addr → Prop} {w w' : World} (h : Wrote S w w') {B : Nat} (hs : ∀ p, S p → B ≤ p.block) : Below B w w' :=
  ⟨h.os, h.tape, h.output, by rw [h.size]; exact Nat.le_refl _, fun k hk => h.block k (fun p hp e => by have := hs p hp; omega)⟩

theorem Sl.wrote {S : Addr → Prop} {w w' : World} {v : Value} {vals : List Value} (h : Sl w v vals) (hw : Wrote S w w') (hs : ∀ p, In v p → ¬ S p) : Sl w' v vals := by
  obtain ⟨A, cap, hv, h1, h2, hc⟩ := h
  refine ⟨A, cap, hv, h1, h2, fun k u hu => ?_⟩
  obtain ⟨b, o, hA, hcell⟩ := hc k u hu
  refine ⟨b, o, hA, ?_⟩
  have hk : k < vals.length := by
    rcases Nat.lt_or_ge k vals.length with g | g
    · exact g
    · rw [List.getElem?_eq_none g] at hu; cases hu
  rw [hw.cell _ (hs _ ⟨b, o, _, cap, by rw [hv, hA], rfl, rfl, by simp, by simp; omega⟩)]
  exact hcell

/-- a slice of integers of the call's own, its cells in the blocks from B on and below T -/
structure OwnInts (w : World) (B T : Nat) (v : Value) (xs : List Int) : Prop where
  ints : Ints w v xs
  ge : ∀ p, In v p → B ≤ p.block
  lt : ∀ p, In v p → p.block < T
  free : ∀ p, In v p → w.frozen? p = false

theorem OwnInts.keep {w w' : World} {B T : Nat} {v : Value} {xs : List Int} (h : OwnInts w B T v xs) (hb : Below w.heap.size w w') : OwnInts w' B T v xs :=
  ⟨h.ints.below hb, h.ge, h.lt, fun p hp => (hb.frozen (In.lt h.ints hp)).trans (h.free p hp)⟩
theorem OwnInts.mono {w : World} {B B' T T' : Nat} {v : Value} {xs : List Int} (h : OwnInts w B T v xs) (hB : B' ≤ B) (hT : T ≤ T') : OwnInts w B' T' v xs :=
  ⟨h.ints, fun p hp => Nat.le_trans hB (h.ge p hp), fun p hp => Nat.lt_of_lt_of_le (h.lt p hp) hT, h.free⟩
theorem OwnInts.wrote {S : Addr → Prop} {w w' : World} {B T : Nat} {v : Value} {xs : List Int} (h : OwnInts w B T v xs) (hw : Wrote S w w') (hs : ∀ p, S p → p.block < B ∨ T ≤ p.block) : OwnInts w' B T v xs :=
  ⟨Sl.wrote h.ints hw (fun p hp hS => by have := h.ge p hp; have := h.lt p hp; have := hs p hS; omega), h.ge, h.lt, fun p hp => (hw.frozen p).trans (h.free p hp)⟩
theorem not_in_nil (p : Addr) (n c : Nat) : ¬ In (.slice none n c) p := by rintro ⟨b, o, len, cap, h, _⟩; cases h
theorem OwnInts.nil (w : World) (B T : Nat) : OwnInts w B T (.slice none 0 0) [] :=
  ⟨Ints.nil w, fun p hp => absurd hp (not_in_nil p _ _), fun p hp => absurd hp (not_in_nil p _ _), fun p hp => absurd hp (not_in_nil p _ _)⟩

/-- rows of integers of the call's own: all cells in the blocks from B on and below T, none frozen, each row apart from each other and from the cells that hold the rows -/
structure OwnVals (w : World) (B T : Nat) (v : Value) (vals : List Value) (xss : List (List Int)) : Prop where
  outer : Sl w v vals
  len : vals.length = xss.length
  row : ∀ r (h : r < xss.length), ∃ u, vals[r]? = some u ∧ Ints w u xss[r]
  geo : ∀ p, In v p → B ≤ p.block
  lto : ∀ p, In v p → p.block < T
  ge : ∀ u ∈ vals, ∀ p, In u p → B ≤ p.block
  lt : ∀ u ∈ vals, ∀ p, In u p → p.block < T
  free : ∀ u ∈ vals, ∀ p, In u p → w.frozen? p = false
  apart : ∀ u ∈ vals, ∀ p, In u p → ¬ In v p
  each : ∀ (r s : Nat) (a b : Value), r ≠ s → vals[r]? = some a → vals[s]? = some b → ∀ p, In a p → ¬ In b p
def OwnRows (w : World) (B T : Nat) (v : Value) (xss : List (List Int)) : Prop := ∃ vals, OwnVals w B T v vals xss
theorem OwnVals.rows {w : World} {B T : Nat} {v : Value} {vals : List Value} {xss : List (List Int)} (h : OwnVals w B T v vals xss) : IRows w v xss := ⟨vals, h.outer, h.len, h.row⟩
theorem OwnRows.rows {w : World} {B T : Nat} {v : Value} {xss : List (List Int)} (h : OwnRows w B T v xss) : IRows w v xss := h.elim fun _ h => h.rows
theorem OwnVals.in_lt {w : World} {B T : Nat} {v : Value} {vals : List Value} {xss : List (List Int)} (h : OwnVals w B T v vals xss) : ∀ u ∈ vals, ∀ p, In u p → p.block < w.heap.size := by
  intro u hu p hp
  obtain ⟨r, hr, rfl⟩ := List.mem_iff_getElem.1 hu
  obtain ⟨u', hu', hi⟩ := h.row r (by rw [← h.len]; exact hr)
  rw [List.getElem?_eq_getElem hr] at hu'
  injection hu' with e
  subst e
  exact In.lt hi hp
theorem OwnVals.keep {w w' : World} {B T : Nat} {v : Value} {vals : List Value} {xss : List (List Int)} (h : OwnVals w B T v vals xss) (hb : Below w.heap.size w w') : OwnVals w' B T v vals xss :=
  ⟨h.outer.below hb, h.len, fun r hr => by obtain ⟨u, hu, hi⟩ := h.row r hr; exact ⟨u, hu, hi.below hb⟩, h.geo, h.lto, h.ge, h.lt, fun u hu p hp => (hb.frozen (h.in_lt u hu p hp)).trans (h.free u hu p hp), h.apart, h.each⟩
theorem OwnRows.keep {w w' : World} {B T : Nat} {v : Value} {xss : List (List Int)} (h : OwnRows w B T v xss) (hb : Below w.heap.size w w') : OwnRows w' B T v xss := h.elim fun _ h => ⟨_, h.keep hb⟩
theorem OwnVals.wrote {S : Addr → Prop} {w w' : World} {B T : Nat} {v : Value} {vals : List Value} {xss : List (List Int)} (h : OwnVals w B T v vals xss) (hw : Wrote S w w') (hs : ∀ p, S p → p.block < B ∨ T ≤ p.block) : OwnVals w' B T v vals xss :=
  ⟨h.outer.wrote hw (fun p hp hS => by have := h.geo p hp; have := h.lto p hp; have := hs p hS; omega), h.len,
    fun r hr => by
      obtain ⟨u, hu, hi⟩ := h.row r hr
      exact ⟨u, hu, Sl.wrote hi hw (fun p hp hS => by have := h.ge u (List.mem_of_getElem? hu) p hp; have := h.lt u (List.mem_of_getElem? hu) p hp; have := hs p hS; omega)⟩,
    h.geo, h.lto, h.ge, h.lt, fun u hu p hp => (hw.frozen p).trans (h.free u hu p hp), h.apart, h.each⟩
theorem OwnRows.wrote {S : Addr → Prop} {w w' : World} {B T : Nat} {v : Value} {xss : List (List Int)} (h : OwnRows w B T v xss) (hw : Wrote S w w') (hs : ∀ p, S p → p.block < B ∨ T ≤ p.block) : OwnRows w' B T v xss := h.elim fun _ h => ⟨_, h.wrote hw hs⟩
theorem OwnRows.mono {w : World} {B B' T T' : Nat} {v : Value} {xss : List (List Int)} (h : OwnRows w B T v xss) (hB : B' ≤ B) (hT : T ≤ T') : OwnRows w B' T' v xss :=
  h.elim fun vals h => ⟨vals, h.outer, h.len, h.row, fun p hp => Nat.le_trans hB (h.geo p hp), fun p hp => Nat.lt_of_lt_of_le (h.lto p hp) hT, fun u hu p hp => Nat.le_trans hB (h.ge u hu p hp), fun u hu p hp => Nat.lt_of_lt_of_le (h.lt u hu p hp) hT, h.free, h.apart, h.each⟩
theorem OwnRows.nil (w : World) (B T : Nat) : OwnRows w B T (.slice none 0 0) [] :=
  ⟨[], Sl.nil w, rfl, fun r h => by simp at h, fun p hp => absurd hp (not_in_nil p _ _), fun p hp => absurd hp (not_in_nil p _ _), fun u hu => by simp at hu, fun u hu => by simp at hu, fun u hu => by simp at hu, fun u hu => by simp at hu, fun r s a b _ h => by simp at h⟩
/-- S: some cells, all in the blocks from B on and below T -/
def Inside (S : Addr → Prop) (B T : Nat) : Prop := ∀ p, S p → B ≤ p.block ∧ p.block < T

/-- k, k + 1, .. -/
def marks (k : Int) : Nat → List Int
  | 0 => []
  | n + 1 => marks k n ++ [k + n]
theorem len_marks (k : Int) : ∀ n, (marks k n).length = n
  | 0 => rfl
  | n + 1 => by simp [marks, len_marks k n]
theorem get_marks (k : Int) : ∀ n i (h : i < (marks k n).length), (marks k n)[i] = k + i
  | 0, i, h => by simp [marks] at h
  | n + 1, i, h => by
    simp only [marks]
    rw [List.getElem_append]
    split
    · exact get_marks k n i _
    · rename_i hge
      rw [len_marks] at hge
      have hl : i < n + 1 := by rw [len_marks] at h; exact h
      obtain rfl : i = n := by omega
      simp

/-! ### a struct of four cells in a block of its own -/
def Blk (w : World) (b : Nat) (t : TypeId) (cs : Array Value) : Prop := w.heap[b]? = some (.cells cs t (0, 0))
theorem Blk.lt {w : World} {b : Nat} {t : TypeId} {cs : Array Value} (h : Blk w b t cs) : b < w.heap.size := lt_of_block h
theorem Blk.new (w : World) (t : TypeId) (cs : Array Value) : Blk (w.alloc (.cells cs t)) w.heap.size t cs := heap_alloc_new w _
theorem Blk.below {w w' : World} {b : Nat} {t : TypeId} {cs : Array Value} (h : Blk w b t cs) (hb : Below w.heap.size w w') : Blk w' b t cs := (hb.block b h.lt).trans h
theorem Blk.alloc {w : World} {b : Nat} {t : TypeId} {cs : Array Value} (h : Blk w b t cs) (o : Obj) : Blk (w.alloc o) b t cs := h.below (below_al (Below.refl _ _) o)
theorem Blk.belowB {w w' : World} {B b : Nat} {t : TypeId} {cs : Array Value} (h : Blk w b t cs) (hb : Below B w w') (hB : b < B) : Blk w' b t cs := (hb.block b hB).trans h
theorem four_cells {w : World} {b : Nat} {t : TypeId} {c0 c1 c2 c3 : Value} (h : Blk w b t #[c0, c1, c2, c3]) :
    w.cell? ⟨b, 0, none⟩ = some c0 ∧ w.cell? ⟨b, 1, none⟩ = some c1 ∧ w.cell? ⟨b, 2, none⟩ = some c2 ∧ w.cell? ⟨b, 3, none⟩ = some c3 ∧ b < w.heap.size := by
  have hl := h.lt
  unfold Blk at h
  refine ⟨?_, ?_, ?_, ?_, hl⟩ <;> simp only [World.cell?, h] <;> rfl
theorem Blk.wrote {S : Addr → Prop} {w w' : World} {b : Nat} {t : TypeId} {cs : Array Value} (h : Blk w b t cs) (hw : Wrote S w w') (hs : ∀ p, S p → p.block ≠ b) : Blk w' b t cs := (hw.block b hs).trans h

theorem below_dr {w w1 : World} (h : Below w.heap.size w w1) : Below w.heap.size w w1.drew := h.drew
/-- four cells and what is below: as a region that draws its order is given them -/
def Four (w : World) (b : Nat) (c0 c1 c2 c3 : Value) : Prop := w.cell? ⟨b, 0, none⟩ = some c0 ∧ w.cell? ⟨b, 1, none⟩ = some c1 ∧ w.cell? ⟨b, 2, none⟩ = some c2 ∧ w.cell? ⟨b, 3, none⟩ = some c3
theorem held8 {w w' : World} {p1 p2 p3 p4 p5 p6 p7 p8 : Addr} {u1 u2 u3 u4 u5 u6 u7 u8 : Value} (h1 : w.cell? p1 = some u1) (h2 : w.cell? p2 = some u2) (h3 : w.cell? p3 = some u3) (h4 : w.cell? p4 = some u4)
    (h5 : w.cell? p5 = some u5) (h6 : w.cell? p6 = some u6) (h7 : w.cell? p7 = some u7) (h8 : w.cell? p8 = some u8) (hb : Below w.heap.size w w') :
    w'.cell? p1 = some u1 ∧ w'.cell? p2 = some u2 ∧ w'.cell? p3 = some u3 ∧ w'.cell? p4 = some u4 ∧ w'.cell? p5 = some u5 ∧ w'.cell? p6 = some u6 ∧ w'.cell? p7 = some u7 ∧ w'.cell? p8 = some u8 ∧ Below w.heap.size w w' :=
  ⟨below_cell hb _ _ h1, below_cell hb _ _ h2, below_cell hb _ _ h3, below_cell hb _ _ h4, below_cell hb _ _ h5, below_cell hb _ _ h6, below_cell hb _ _ h7, below_cell hb _ _ h8, hb⟩

theorem calls_below {P : Program} {f : FuncId} {args : Array Value} {w : World} {r : Value} (h : Calls P f args w fun e w' => e = .returned r ∧ w = w') : Calls P f args w fun e w' => e = .returned r ∧ Below w.heap.size w w' :=
  h.mono fun _ _ ⟨he, hw⟩ => ⟨he, hw ▸ Below.refl _ _⟩
theorem calls_below_drew {P : Program} {f : FuncId} {args : Array Value} {w : World} {r : Value} (h : Calls P f args w fun e w' => e = .returned r ∧ ∃ q, w' = w.drewN q) : Calls P f args w fun e w' => e = .returned r ∧ Below w.heap.size w w' :=
  h.mono fun _ _ ⟨he, q, hw⟩ => ⟨he, hw ▸ below_drewN (Below.refl _ _) q⟩

theorem cell_al3 {w : World} {a : Addr} {v : Value} (h : w.cell? a = some v) (o1 o2 o3 : Obj) : (((w.alloc o1).alloc o2).alloc o3).cell? a = some v :=
  below_cell (below_al (below_al (below_al (Below.refl _ _) o1) o2) o3) _ _ h

theorem held4 {w w' : World} {p1 p2 p3 p4 : Addr} {u1 u2 u3 u4 : Value} (h1 : w.cell? p1 = some u1) (h2 : w.cell? p2 = some u2) (h3 : w.cell? p3 = some u3) (h4 : w.cell? p4 = some u4) (hb : Below w.heap.size w w') :
    w'.cell? p1 = some u1 ∧ w'.cell? p2 = some u2 ∧ w'.cell? p3 = some u3 ∧ w'.cell? p4 = some u4 ∧ Below w.heap.size w w' :=
  ⟨below_cell hb _ _ h1, below_cell hb _ _ h2, below_cell hb _ _ h3, below_cell hb _ _ h4, hb⟩

end Go.Proofs.Ytfcoodhilpbehaa.base
