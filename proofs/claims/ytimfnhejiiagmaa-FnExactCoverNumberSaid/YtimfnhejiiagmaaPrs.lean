/- Slices of pairs of integers ([][2]int, two cells each): what one reads as, one of the call's own, and one that is an argument. They speak of no program. -/
import Derived.Test.YtimfnhejiiagmaaOpen
import Derived.Deep.Slices
namespace Go.Proofs.Ytimfnhejiiagmaa.prs
open Go.ChangeShapes Go.WideShapes Go.ChangeAt Go.RowKit Go.Deep Go.Joins Go.Proofs.Ytimfnhejiiagmaa.base
open Go.Proofs.Ytimfnhejiiagmaa.opn

/-- the slice value v holds the pairs ps -/
def Pairs (w : World) (v : Value) (ps : List (Int × Int)) : Prop :=
  ∃ (A : Option Addr) (cap : Nat), v = .slice A ps.length cap ∧ ps.length ≤ cap ∧ cap ≤ maxLen ∧
    ∀ k (h : k < ps.length), ∃ b o, A = some ⟨b, o, none⟩ ∧ w.cell? ⟨b, o + k * 2, none⟩ = some (.int .i64 ps[k].1) ∧ w.cell? ⟨b, o + k * 2 + 1, none⟩ = some (.int .i64 ps[k].2)

theorem Pairs.nil (w : World) : Pairs w (.slice none 0 0) [] := ⟨none, 0, rfl, Nat.le_refl _, Nat.zero_le _, fun k h => by simp at h⟩
theorem Pairs.keep {w w' : World} {v : Value} {ps : List (Int × Int)} (h : Pairs w v ps) (hk : ∀ a u, w.cell? a = some u → w'.cell? a = some u) : Pairs w' v ps := by
  obtain ⟨A, cap, hv, h1, h2, hc⟩ := h
  refine ⟨A, cap, hv, h1, h2, fun k hl => ?_⟩
  obtain ⟨b, o, hA, g1, g2⟩ := hc k hl
  exact ⟨b, o, hA, hk _ _ g1, hk _ _ g2⟩
theorem Pairs.below {w w' : World} {v : Value} {ps : List (Int × Int)} (h : Pairs w v ps) (hb : Below w.heap.size w w') : Pairs w' v ps := h.keep (below_cell hb)
theorem Pairs.shape {w : World} {v : Value} {ps : List (Int × Int)} (h : Pairs w v ps) : ∃ a n c, v = .slice a n c := by
  obtain ⟨A, cap, hv, _⟩ := h; exact ⟨_, _, _, hv⟩
theorem Pairs.form {w : World} {v : Value} {ps : List (Int × Int)} (h : Pairs w v ps) :
    ∃ (A : Option Addr) (b o cap : Nat), v = .slice A ps.length cap ∧ ps.length ≤ cap ∧ cap ≤ maxLen ∧ (0 < ps.length → A = some ⟨b, o, none⟩) ∧
      ∀ k (hk : k < ps.length), w.cell? ⟨b, o + k * 2, none⟩ = some (.int .i64 ps[k].1) ∧ w.cell? ⟨b, o + k * 2 + 1, none⟩ = some (.int .i64 ps[k].2) := by
  obtain ⟨A, cap, hv, h1, h2, hc⟩ := h
  by_cases h0 : 0 < ps.length
  · obtain ⟨b, o, hA, _⟩ := hc 0 h0
    refine ⟨A, b, o, cap, hv, h1, h2, fun _ => hA, fun k hk => ?_⟩
    obtain ⟨b', o', hA', g1, g2⟩ := hc k hk
    rw [hA] at hA'
    injection hA' with e
    injection e with e1 e2
    subst e1; subst e2
    exact ⟨g1, g2⟩
  · exact ⟨A, 0, 0, cap, hv, h1, h2, fun h => absurd h h0, fun k hk => absurd hk (by omega)⟩

/-- p is one of the cells that v shows, two for each place -/
def PIn (v : Value) (p : Addr) : Prop := ∃ b o len cap, v = .slice (some ⟨b, o, none⟩) len cap ∧ p.block = b ∧ p.spot = none ∧ o ≤ p.off ∧ p.off < o + len * 2

theorem PIn.lt {w : World} {v : Value} {ps : List (Int × Int)} (h : Pairs w v ps) {p : Addr} (hp : PIn v p) : p.block < w.heap.size := by
  obtain ⟨b, o, len, cap, rfl, hb, _, h1, h2⟩ := hp
  obtain ⟨A, cap', hv, _, _, hc⟩ := h
  injection hv with e1 e2 e3
  subst e1; subst e2
  obtain ⟨b', o', hA, hcell, _⟩ := hc 0 (by omega)
  injection hA with e
  injection e with e1 e2
  subst e1
  have := World.block_lt_of_cell? _ _ hcell
  simp at this
  omega

theorem Pairs.wrote {S : Addr → Prop} {w w' : World} {v : Value} {ps : List (Int × Int)} (h : Pairs w v ps) (hw : Wrote S w w') (hs : ∀ p, PIn v p → ¬ S p) : Pairs w' v ps := by
  obtain ⟨A, cap, hv, h1, h2, hc⟩ := h
  refine ⟨A, cap, hv, h1, h2, fun k hk => ?_⟩
  obtain ⟨b, o, hA, g1, g2⟩ := hc k hk
  refine ⟨b, o, hA, ?_, ?_⟩
  · rw [hw.cell _ (hs _ ⟨b, o, _, cap, by rw [hv, hA], rfl, rfl, by simp, by simp; omega⟩)]; exact g1
  · rw [hw.cell _ (hs _ ⟨b, o, _, cap, by rw [hv, hA], rfl, rfl, by simp; omega, by simp; omega⟩)]; exact g2

/-- pairs of the call's own, their cells in the blocks from B on and below T -/
structure OwnPairs (w : World) (B T : Nat) (v : Value) (ps : List (Int × Int)) : Prop where
  pairs : Pairs w v ps
  ge : ∀ p, PIn v p → B ≤ p.block
  lt : ∀ p, PIn v p → p.block < T
  free : ∀ p, PIn v p → w.frozen? p = false
theorem OwnPairs.keep {w w' : World} {B T : Nat} {v : Value} {ps : List (Int × Int)} (h : OwnPairs w B T v ps) (hb : Below w.heap.size w w') : OwnPairs w' B T v ps :=
  ⟨h.pairs.below hb, h.ge, h.lt, fun p hp => (hb.frozen (PIn.lt h.pairs hp)).trans (h.free p hp)⟩
theorem OwnPairs.mono {w : World} {B B' T T' : Nat} {v : Value} {ps : List (Int × Int)} (h : OwnPairs w B T v ps) (hB : B' ≤ B) (hT : T ≤ T') : OwnPairs w B' T' v ps :=
  ⟨h.pairs, fun p hp => Nat.le_trans hB (h.ge p hp), fun p hp => Nat.lt_of_lt_of_le (h.lt p hp) hT, h.free⟩
theorem OwnPairs.wrote {S : Addr → Prop} {w w' : World} {B T : Nat} {v : Value} {ps : List (Int × Int)} (h : OwnPairs w B T v ps) (hw : Wrote S w w') (hs : ∀ p, S p → p.block < B ∨ T ≤ p.block) : OwnPairs w' B T v ps :=
  ⟨h.pairs.wrote hw (fun p hp hS => by have := h.ge p hp; have := h.lt p hp; have := hs p hS; omega), h.ge, h.lt, fun p hp => (hw.frozen p).trans (h.free p hp)⟩
theorem not_pin_nil (p : Addr) (n c : Nat) : ¬ PIn (.slice none n c) p := by rintro ⟨b, o, len, cap, h, _⟩; cases h
theorem OwnPairs.nil (w : World) (B T : Nat) : OwnPairs w B T (.slice none 0 0) [] :=
  ⟨Pairs.nil w, fun p hp => absurd hp (not_pin_nil p _ _), fun p hp => absurd hp (not_pin_nil p _ _), fun p hp => absurd hp (not_pin_nil p _ _)⟩

/-! ### an argument -/
section
variable {H : Type} {enc : TypeId × Value → H} {P : Program} {W : World} {b0 : Nat} {fuel : Nat}

theorem pairs_of_trod1 {t e q : TypeId} (ht : P.underlying t = some (.slice e)) (he : P.underlying e = some (.array 2 q)) (hq : P.underlying q = some (.int .i64)) (ce : P.cellsOf e = 2) (cq : P.cellsOf q = 1) {v : Value} {x : DataW H × List MemPlace}
    (h : DataW.trod enc P W 0 (fun _ => true) true fuel t [v] = some x) : ∃ ps, Pairs W v ps := by
  rcases open_slice ht h with ⟨hcs, _⟩ | ⟨a, len, cap, m, n, D, Pl, hcs, _, hl, hm, hmm, _, hx⟩
  · simp at hcs; subst hcs; exact ⟨[], Pairs.nil W⟩
  simp at hcs; subst hcs
  simp at hmm
  subst hmm
  have each : ∀ i, i < m → ∃ q2 : Int × Int, W.cell? (a.add (i * 2)) = some (.int .i64 q2.1) ∧ W.cell? (a.add (i * 2 + 1)) = some (.int .i64 q2.2) := by
    intro i hi
    obtain ⟨cs', h1, h2⟩ := hx i hi
    rw [ce] at h1
    obtain ⟨_, hlen, hcell⟩ := World.cells?_some h1
    obtain ⟨xs, k, _, _, _, hxl, hf⟩ := DataW.trod_array he h2
    have g0 := hf 0 (by omega)
    have g1 := hf 1 (by omega)
    rw [cq] at g0 g1
    have e0 := hcell 0 (by omega)
    have e1 := hcell 1 (by omega)
    rw [add_add] at e0 e1
    match cs', hlen, xs, hxl with
    | [v0, v1], _, [y0, y1], _ =>
      simp at g0 g1 e0 e1
      obtain ⟨z0, r0, _⟩ := int_of_trod1 hq g0
      obtain ⟨z1, r1, _⟩ := int_of_trod1 hq g1
      subst r0; subst r1
      exact ⟨(z0, z1), e0, e1⟩
  have spot : 0 < m → a.spot = none := fun h0 => by
    obtain ⟨_, hc, _⟩ := each 0 h0
    simpa [Addr.add] using World.cell?_spot hc
  obtain ⟨ab, ao, sp⟩ := a
  have each' : ∀ i, ∃ q2 : Int × Int, i < m → W.cell? ((⟨ab, ao, sp⟩ : Addr).add (i * 2)) = some (.int .i64 q2.1) ∧ W.cell? ((⟨ab, ao, sp⟩ : Addr).add (i * 2 + 1)) = some (.int .i64 q2.2) := fun i => by
    by_cases h : i < m
    · obtain ⟨q, hq⟩ := each i h; exact ⟨q, fun _ => hq⟩
    · exact ⟨(0, 0), fun h' => absurd h' h⟩
  obtain ⟨g, hg⟩ := Classical.axiomOfChoice each'
  refine ⟨(List.range len).map g, some ⟨ab, ao, sp⟩, m, by simp, by simpa using hl, hm, fun k hk => ?_⟩
  have hk2 : k < len := by simpa using hk
  have hs : sp = none := spot (by omega)
  subst hs
  have hc := hg k (by omega)
  rw [add_none, add_none] at hc
  simp only [List.getElem_map, List.getElem_range]
  exact ⟨ab, ao, rfl, hc.1, by rw [Nat.add_assoc]; exact hc.2⟩

/-- a Talk: a slice of integers, rows, a slice of pairs -/
theorem talk_of_trod {t s e q r g : TypeId} {f0 f1 f2 : Field} (hs : P.underlying t = some (.struct #[f0, f1, f2])) (hone : oneCellFields P #[f0, f1, f2] = true) (hC : P.cellsOf t = 3)
    (u0 : P.underlying f0.type = some (.slice s)) (u1 : P.underlying f1.type = some (.slice e)) (u2 : P.underlying f2.type = some (.slice r))
    (he : P.underlying e = some (.slice q)) (hq : P.underlying q = some (.int .i64)) (hr : P.underlying r = some (.array 2 g)) (ce : P.cellsOf e = 1) (cq : P.cellsOf q = 1) (cr : P.cellsOf r = 2) {v : Value} {d : DataW H} {p : List MemPlace}
    (hv : Value.okWide P W .any b0 t v) (h : DataW.Trod enc P W 0 (fun _ => true) true t v d p) (hsq : s = q := by rfl) (hgq : g = q := by rfl) :
    ∃ (sv : Value) (ss : List Int) (u : Value) (xss : List (List Int)) (nv : Value) (ps : List (Int × Int)), v = .agg #[sv, u, nv] ∧ Ints W sv ss ∧ IRows W u xss ∧ Pairs W nv ps := by
  subst hsq; subst hgq
  obtain ⟨c0, c1, c2, y0, y1, y2, n, rfl, _, _, hy0, hy1, hy2⟩ := open_agg3 hs hone hC hv h
  obtain ⟨ss, h0⟩ := ints_of_trod1 u0 hq cq hy0
  obtain ⟨xss, h1⟩ := rows_of_trod1 u1 he hq ce cq hy1
  obtain ⟨ps, h2⟩ := pairs_of_trod1 u2 hr hq cr cq hy2
  exact ⟨c0, ss, c1, xss, c2, ps, rfl, h0, h1, h2⟩

end
end Go.Proofs.Ytimfnhejiiagmaa.prs
