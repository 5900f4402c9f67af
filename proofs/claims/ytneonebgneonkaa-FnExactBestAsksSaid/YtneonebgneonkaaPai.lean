/- Two lists in one block: what the law does with them. -/
import Derived.Test.YtneonebgneonkaaBas
namespace Go.Proofs.Ytneonebgneonkaa.pai
open Go.RowKit Go.Deep Go.Proofs.Ytneonebgneonkaa.base
open Go.Proofs.Ytneonebgneonkaa.bam (Pair)

structure PV (w : World) (v v' : Value) (xs zs : List Int) : Prop where
  one : Ints w v xs
  two : Ints w v' zs
theorem PV.below {w w' : World} {v v' : Value} {xs zs : List Int} (h : PV w v v' xs zs) (hb : Below w.heap.size w w') : PV w' v v' xs zs := ⟨h.one.below hb, h.two.below hb⟩
theorem PV.shape {w : World} {v v' : Value} {xs zs : List Int} (h : PV w v v' xs zs) : ∃ a n c a' n' c', v = .slice a n c ∧ v' = .slice a' n' c' := by
  obtain ⟨a, n, c, h1⟩ := h.one.shape
  obtain ⟨a', n', c', h2⟩ := h.two.shape
  exact ⟨a, n, c, a', n', c', h1, h2⟩
theorem _root_.Go.Proofs.Ytneonebgneonkaa.bam.Pair.view {w : World} {B T : Nat} {v v' : Value} {xs zs : List Int} (h : Pair w B T v v' xs zs) : PV w v v' xs zs := ⟨h.one.ints, h.two.ints⟩
theorem _root_.Go.Proofs.Ytneonebgneonkaa.bam.Pair.wrote {S : Addr → Prop} {w w' : World} {B T : Nat} {v v' : Value} {xs zs : List Int} (h : Pair w B T v v' xs zs) (hw : Wrote S w w') (hs : ∀ p, S p → p.block < B ∨ T ≤ p.block) : Pair w' B T v v' xs zs := ⟨h.one.wrote hw hs, h.two.wrote hw hs, h.apart⟩
/-- one of the two is marked -/
structure Half (w : World) (B T : Nat) (v v' : Value) (ms zs : List Int) : Prop where
  one : Ints w v ms
  two : OwnInts w B T v' zs
  apart : ∀ p, In v p → ¬ In v' p
theorem mark1 (v v' : Value) (xs zs : List Int) (k0 : Int) (B T : Nat) (w : World) (h : Pair w B T v v' xs zs) (hn : xs.length ≤ 1048576) (h0 : 0 ≤ k0) (h1 : k0 ≤ 16777216) :
    Calls Try.prog 28 #[v, .int .i64 k0] w fun e w' => e = .returned (.int .i64 (k0 + xs.length)) ∧ Half w' B T v v' (marks k0 xs.length) zs ∧ ∃ S, Wrote S w w' ∧ Inside S B T :=
  (ints.mark_any v xs k0 w h.one.ints h.one.free hn h0 h1).mono fun _ _ ⟨he, hi, hw⟩ => ⟨he, ⟨hi, ⟨Sl.wrote h.two.ints hw (fun p hp hS => h.apart p hS hp), h.two.ge, h.two.lt, fun p hp => (hw.frozen p).trans (h.two.free p hp)⟩, h.apart⟩, _, hw, fun p hp => ⟨h.one.ge p hp, h.one.lt p hp⟩⟩
theorem mark2 (v v' : Value) (ms zs : List Int) (k0 : Int) (B T : Nat) (w : World) (h : Half w B T v v' ms zs) (hn : zs.length ≤ 1048576) (h0 : 0 ≤ k0) (h1 : k0 ≤ 16777216) :
    Calls Try.prog 28 #[v', .int .i64 k0] w fun e w' => e = .returned (.int .i64 (k0 + zs.length)) ∧ PV w' v v' ms (marks k0 zs.length) ∧ ∃ S, Wrote S w w' ∧ Inside S B T :=
  (ints.mark_any v' zs k0 w h.two.ints h.two.free hn h0 h1).mono fun _ _ ⟨he, hi, hw⟩ => ⟨he, ⟨Sl.wrote h.one hw (fun p hp hS => h.apart p hp hS), hi⟩, _, hw, fun p hp => ⟨h.two.ge p hp, h.two.lt p hp⟩⟩

theorem spec_pv (x y wh : Int) (v : Value) (xss : List (List Int)) (x' y' wh' : Int) (v' : Value) (yss : List (List Int)) (k : Int) (w : World) (h : IRows w v xss) (h' : IRows w v' yss) (hn : rws.total xss ≤ 1048576) (hn' : rws.total yss ≤ 1048576) :
    Calls Try.prog 45 #[.agg #[.int .i64 x, .int .i64 y, .int .i64 wh, v], .agg #[.int .i64 x', .int .i64 y', .int .i64 wh', v'], .int .i64 k] w fun e w' => ∃ u u', e = .returned (.tuple #[u, u', .int .i64 (bam.res x y wh xss x' y' wh' yss k).v, .bool (bam.res x y wh xss x' y' wh' yss k).ok]) ∧ PV w' u u' (bam.res x y wh xss x' y' wh' yss k).f (bam.res x y wh xss x' y' wh' yss k).s ∧ Below w.heap.size w w' :=
  (bam.spec_any x y wh v xss x' y' wh' v' yss k w h h' hn hn').mono fun _ _ ⟨u, u', he, h1, h2, hb⟩ => ⟨u, u', he, ⟨h1, h2⟩, hb⟩
theorem len_res (x y wh : Int) (xss : List (List Int)) (x' y' wh' : Int) (yss : List (List Int)) (k : Int) : (bam.res x y wh xss x' y' wh' yss k).f.length ≤ 1048576 ∧ (bam.res x y wh xss x' y' wh' yss k).s.length ≤ 1048576 := by
  by_cases h : wis.ok2 x y wh xss x' y' wh' yss ∧ 0 ≤ k ∧ k ≤ 7
  · rw [bam.res_yes h]
    simp only [plays.len_at]
    omega
  · rw [bam.res_no h]
    simp

end Go.Proofs.Ytneonebgneonkaa.pai
