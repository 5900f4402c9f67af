/- A list of Rules as an argument of the laws; how much of the law's room it takes. -/
import Derived.Test.YtiigfhigmdjooaaOpenr
import Derived.Test.YtiigfhigmdjooaaRlm
namespace Go.Proofs.Ytiigfhigmdjooaa.rop
open Go.ChangeShapes Go.WideShapes Go.ChangeAt Go.RowKit Go.Deep Go.Joins Go.Proofs.Ytiigfhigmdjooaa.base
open Go.Proofs.Ytiigfhigmdjooaa.opn
open Go.Proofs.Ytiigfhigmdjooaa.rws (total before before_le)
open Go.Proofs.Ytiigfhigmdjooaa.rls (R3 Rls At run sz cnt one)
open Go.Proofs.Ytiigfhigmdjooaa.rule (RV)

theorem shape {w : World} {v : Value} {rs : List R3} (h : Rls w v rs) : ∃ a n c, v = .slice a n c := by
  obtain ⟨A, b, o, cap, hv, _⟩ := h
  exact ⟨_, _, _, hv⟩
section
variable {H : Type} {enc : TypeId × Value → H} {P : Program} {W : World} {b0 : Nat} {fuel : Nat}
theorem rls_of_trod {t g s e q r : TypeId} {f0 f1 f2 : Field} (ht : P.underlying t = some (.slice g)) (hs : P.underlying g = some (.struct #[f0, f1, f2])) (hone : oneCellFields P #[f0, f1, f2] = true) (hC : P.cellsOf g = 3)
    (u0 : P.underlying f0.type = some (.slice s)) (u1 : P.underlying f1.type = some (.slice e)) (u2 : P.underlying f2.type = some (.slice r))
    (he : P.underlying e = some (.slice q)) (hq : P.underlying q = some (.int .i64)) (ce : P.cellsOf e = 1) (cq : P.cellsOf q = 1) {v : Value} {d : DataW H} {p : List MemPlace}
    (hv : Value.okWide P W .any b0 t v) (h : DataW.Trod enc P W 0 (fun _ => true) true t v d p) (hsq : s = q := by rfl) (hre : r = e := by rfl) : ∃ rs, Rls W v rs := by
  subst hsq; subst hre
  obtain ⟨A, n0, c0, rfl⟩ := okWide_slice ht hv
  obtain ⟨fuel, hf⟩ := h
  have hf : DataW.trod enc P W 0 (fun _ => true) true fuel t [.slice A n0 c0] = some (d, p) := by simpa [Value.cells] using hf
  rcases open_slice ht hf with ⟨hcs, _⟩ | ⟨a, len, cap, m, n, D, Pl, hcs, _, hl, hm, hmm, _, hx⟩
  · simp at hcs; obtain ⟨rfl, rfl, rfl⟩ := hcs; exact ⟨[], Rls.nil W⟩
  simp at hcs
  obtain ⟨rfl, rfl, rfl⟩ := hcs
  simp at hmm
  subst hmm
  have each : ∀ i, i < m → ∃ z : R3, ∃ a0 a1 a2 a3 a4 a5 a6 a7 a8, W.cell? (a.add (i * 3)) = some (.slice a0 a1 a2) ∧ W.cell? (a.add (i * 3 + 1)) = some (.slice a3 a4 a5) ∧ W.cell? (a.add (i * 3 + 2)) = some (.slice a6 a7 a8) ∧ RV W (.slice a0 a1 a2) z.f (.slice a3 a4 a5) z.k (.slice a6 a7 a8) z.s := by
    intro i hi
    obtain ⟨cs', h1, h2⟩ := hx i hi
    rw [hC] at h1
    obtain ⟨_, hlen, hcell⟩ := World.cells?_some h1
    obtain ⟨y0, y1, y2, k, _, _, g0, g1, g2⟩ := trod_struct3 hs h2
    obtain ⟨p0, k0⟩ := hone_of hone 0 f0 rfl
    obtain ⟨p1, k1⟩ := hone_of hone 1 f1 rfl
    obtain ⟨p2, k2⟩ := hone_of hone 2 f2 rfl
    have e0 := hcell 0 (by omega)
    have e1 := hcell 1 (by omega)
    have e2 := hcell 2 (by omega)
    rw [add_add] at e0 e1 e2
    match cs', hlen with
    | [v0, v1, v2], _ =>
      simp [p0, k0, p1, k1, p2, k2] at g0 g1 g2 e0 e1 e2
      obtain ⟨ss, i0⟩ := ints_of_trod1 u0 hq cq g0
      obtain ⟨xss, i1⟩ := rows_of_trod1 u1 he hq ce cq g1
      obtain ⟨yss, i2⟩ := rows_of_trod1 u2 he hq ce cq g2
      obtain ⟨a0, a1, a2, rfl⟩ := i0.shape
      obtain ⟨a3, a4, a5, rfl⟩ := i1.shape
      obtain ⟨a6, a7, a8, rfl⟩ := i2.shape
      exact ⟨⟨ss, xss, yss⟩, a0, a1, a2, a3, a4, a5, a6, a7, a8, e0, e1, e2, i0, i1, i2⟩
  have spot : 0 < m → a.spot = none := fun h0 => by
    obtain ⟨_, _, _, _, _, _, _, _, _, _, hc, _⟩ := each 0 h0
    simpa [Addr.add] using World.cell?_spot hc
  obtain ⟨ab, ao, sp⟩ := a
  have each' : ∀ i, ∃ z : R3, i < m → sp = none → At W ab (ao + i * 3) z := fun i => by
    by_cases h : i < m
    · obtain ⟨z, a0, a1, a2, a3, a4, a5, a6, a7, a8, e0, e1, e2, hz⟩ := each i h
      refine ⟨z, fun _ hsp => ?_⟩
      subst hsp
      rw [add_none] at e0 e1 e2
      exact ⟨a0, a1, a2, a3, a4, a5, a6, a7, a8, e0, by rw [Nat.add_assoc]; exact e1, by rw [Nat.add_assoc]; exact e2, hz⟩
    · exact ⟨⟨[], [], []⟩, fun h' => absurd h' h⟩
  obtain ⟨z, hz⟩ := Classical.axiomOfChoice each'
  by_cases h0 : 0 < n0
  · have hsp : sp = none := spot (by omega)
    subst hsp
    exact ⟨(List.range n0).map z, some ⟨ab, ao, none⟩, ab, ao, m, by simp, by simpa using hl, hm, fun _ => rfl, fun k hk => by
      have hk2 : k < n0 := by simpa using hk
      have := hz k (by omega) rfl
      simpa using this⟩
  · obtain rfl : n0 = 0 := by omega
    exact ⟨[], some ⟨ab, ao, sp⟩, 0, 0, m, rfl, Nat.zero_le _, hm, fun h => absurd h (by simp), fun k hk => absurd hk (by simp)⟩
end
/-! ### the room -/
theorem sz_one {r : R3} {l : Int} (h : ¬ rule.sz r.f r.k r.s l < 0) : one r + rule.sz r.f r.k r.s l ≤ l := by
  unfold rule.sz at h ⊢
  by_cases g : l < r.f.length
  · rw [if_pos g] at h; omega
  · rw [if_neg g] at h ⊢
    by_cases g1 : rws.sz r.k (l - r.f.length) < 0
    · rw [if_pos g1] at h; omega
    · rw [if_neg g1] at h ⊢
      by_cases g2 : rws.sz r.s (rws.sz r.k (l - r.f.length)) < 0
      · rw [if_pos g2] at h; omega
      · rw [if_neg g2] at h ⊢
        unfold rws.sz at g1 g2 ⊢
        have b1 := before_le r.k r.k.length
        have b2 := before_le r.s r.s.length
        unfold one
        split at g1
        · omega
        · rename_i g3
          rw [if_neg g3] at g2 ⊢
          split at g2
          · omega
          · rename_i g4
            rw [if_neg g4]
            omega
theorem run_bound : ∀ (rs : List R3) (l : Int), ¬ run rs l < 0 → l ≤ 1048576 → run rs l ≤ l ∧ cnt rs + run rs l ≤ l ∧ ∀ k (hk : k < rs.length), rs[k].f.length ≤ 1048576 ∧ total rs[k].k ≤ 1048576 ∧ total rs[k].s ≤ 1048576
  | [], l, _, _ => ⟨Int.le_refl _, by simp [cnt, run], fun k hk => absurd hk (by simp)⟩
  | r :: rs, l, h, hl => by
    have e : run (r :: rs) l = if rule.sz r.f r.k r.s l < 0 then -1 else run rs (rule.sz r.f r.k r.s l) := rfl
    rw [e] at h ⊢
    by_cases g : rule.sz r.f r.k r.s l < 0
    · rw [if_pos g] at h; omega
    · rw [if_neg g] at h ⊢
      obtain ⟨q1, q2, q3, q4⟩ := rule.sz_bound g
      obtain ⟨h1, h2, h3⟩ := run_bound rs _ h (by omega)
      have h5 := sz_one g
      refine ⟨by omega, ?_, fun k hk => ?_⟩
      · show one r + cnt rs + _ ≤ l
        omega
      · match k, hk with
        | 0, _ => exact ⟨by show r.f.length ≤ _; omega, by show total r.k ≤ _; omega, by show total r.s ≤ _; omega⟩
        | k + 1, hk => exact h3 k (by simpa using hk)
theorem sz_bound {rs : List R3} {l : Int} (h : ¬ sz rs l < 0) : l ≤ 1048576 → (rs.length : Int) ≤ l ∧ cnt rs ≤ l ∧ sz rs l ≤ l ∧ ∀ k (hk : k < rs.length), rs[k].f.length ≤ 1048576 ∧ total rs[k].k ≤ 1048576 ∧ total rs[k].s ≤ 1048576 := by
  intro hl
  unfold sz at h ⊢
  by_cases g : l < rs.length
  · rw [if_pos g] at h; omega
  · rw [if_neg g] at h ⊢
    obtain ⟨h1, h2, h3⟩ := run_bound rs _ h (by omega)
    exact ⟨by omega, by omega, by omega, h3⟩
end Go.Proofs.Ytiigfhigmdjooaa.rop
