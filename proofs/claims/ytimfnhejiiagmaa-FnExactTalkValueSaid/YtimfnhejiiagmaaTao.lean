/- askedGame of the program with no question of the first player. -/
import Derived.Test.YtimfnhejiiagmaaAskq
namespace Go.Proofs.Ytimfnhejiiagmaa.tao
open Go.RowKit Go.Deep Go.Proofs.Ytimfnhejiiagmaa.base


set_option maxRecDepth 100000 in
set_option maxHeartbeats 2000000 in
theorem rows0 (y : Int) (fv : Value) (w : World) :
    Calls Try.prog 146 #[.int .i64 0, .int .i64 y, fv] w fun e w' => ∃ A c, e = .returned (.slice A 0 c) ∧ c ≤ maxLen ∧ Below w.heap.size w w' := by
  have hmk : (Instr.makeSlice 22 (.int .i64 0) (.int .i64 0)).run Try.prog w = .ok (.slice (some ⟨w.heap.size, 0, none⟩) 0 0) (w.alloc (.cells (madeCells #[.slice none 0 0] 0) 34)) := app.mk0s 0 (by omega) w
  go_enter Try.func146, Try.ntmps146
  go_wp2_with fail
  clear hmk
  go_loopw [7, 8, 9, 10, 11, 17] (fun v _ _ _ _ s wr => s = .int .i64 0 ∧ v = .slice (some ⟨w.heap.size, 0, none⟩) 0 0 ∧ Hid (Below w.heap.size w wr)) (fun _ _ _ _ _ _ _ => 0)
  case atStart => exact ⟨rfl, rfl, Lib.hid (below_al (Below.refl _ _) _)⟩
  case round =>
    obtain ⟨rfl, rfl, hB⟩ := hrel
    go_wp2_with fail
    go_ret
    exact ⟨_, _, rfl, by unfold maxLen; omega, hB.out⟩

/-- the answer and the new Game in memory of the call's own -/
structure As (w wr : World) (n : Int) : Prop where
  below : Below w.heap.size w wr
  res : Blk wr (w.heap.size + 1 + 1 + 1) 40 #[.int .i64 0, .int .i64 0, .slice none 0 0, .slice none 0 0]
  new : Blk wr (w.heap.size + 1 + 1 + 1 + 1) 40 #[.int .i64 0, .int .i64 n, .slice none 0 0, .slice none 0 0]
theorem As.keep {w wr w' : World} {n : Int} (h : As w wr n) (hb : Below wr.heap.size wr w') : As w w' n := ⟨below_tr h.below hb, h.res.below hb, h.new.below hb⟩
theorem As.start (w : World) (g : Array Value) (v u : Value) (n : Int) : As w (((((w.alloc (.cells g 40)).alloc (.cells #[v] 34)).alloc (.cells #[u] 34)).alloc (.cells #[.int .i64 0, .int .i64 0, .slice none 0 0, .slice none 0 0] 40)).alloc (.cells #[.int .i64 0, .int .i64 n, .slice none 0 0, .slice none 0 0] 40)) n :=
  ⟨below_al (below_al (below_al (below_al (below_al (Below.refl _ _) _) _) _) _) _, by
    have := (Blk.new (((w.alloc (.cells g 40)).alloc (.cells #[v] 34)).alloc (.cells #[u] 34)) 40 #[.int .i64 0, .int .i64 0, .slice none 0 0, .slice none 0 0]).alloc (.cells #[.int .i64 0, .int .i64 n, .slice none 0 0, .slice none 0 0] 40)
    simpa using this, by
    have := Blk.new ((((w.alloc (.cells g 40)).alloc (.cells #[v] 34)).alloc (.cells #[u] 34)).alloc (.cells #[.int .i64 0, .int .i64 0, .slice none 0 0, .slice none 0 0] 40)) 40 #[.int .i64 0, .int .i64 n, .slice none 0 0, .slice none 0 0]
    simpa using this⟩

set_option maxRecDepth 100000 in
set_option maxHeartbeats 4000000 in
theorem asked0 (g0 g1 g2 g3 : Value) (fa : Option Addr) (fc : Nat) (sa : Option Addr) (sn sc : Nat) (w : World) :
    Calls Try.prog 79 #[.agg #[g0, g1, g2, g3], .slice fa 0 fc, .slice sa sn sc] w fun e w' => ∃ A c, e = .returned (.agg #[.int .i64 0, .int .i64 (sn : Nat), .slice none 0 0, .slice A 0 c]) ∧ c ≤ maxLen ∧ Below w.heap.size w w' := by
  have S0 := Lib.hid (As.start w #[g0, g1, g2, g3] (.slice fa 0 fc) (.slice sa sn sc) (sn : Nat))
  go_enter Try.func79, Try.ntmps79
  go_wp2_with fail
  go_loopw [9, 11, 19] (fun z9 z11 s wr => s = .int .i64 0 ∧ (∃ z, z9 = z) ∧ (∃ z, z11 = z) ∧ Hid (As w wr (sn : Nat))) (fun _ _ _ _ => 0)
  case atStart => exact ⟨rfl, ⟨_, rfl⟩, ⟨_, rfl⟩, S0⟩
  case round =>
    clear S0
    obtain ⟨rfl, ⟨z9, rfl⟩, ⟨z11, rfl⟩, hS⟩ := hrel
    obtain ⟨wi, rfl⟩ : ∃ wi : World, wi = wr := ⟨_, rfl⟩
    obtain ⟨c0, c1, c2, c3, _⟩ := four_cells hS.out.new
    go_wp2_with fail
    refine (rows0 _ _ _).mono ?_
    rintro e w2 ⟨A, c, rfl, hc, hb⟩
    have S2 := Lib.hid (hS.out.keep hb)
    clear hb hS c0 c1 c2 c3
    obtain ⟨c0, c1, c2, c3, _⟩ := four_cells S2.out.new
    obtain ⟨d0, d1, d2, d3, _⟩ := four_cells S2.out.res
    have cf := fun j => Joins.unfrozen_of_block S2.out.new j
    have df := fun j => Joins.unfrozen_of_block S2.out.res j
    go_wp2_with fail
    refine bodyPost_ret (v := .agg #[.int .i64 0, .int .i64 (sn : Nat), .slice none 0 0, .slice A 0 c]) (by simp [results, Try.results79, go_sem, d0, d1, d2, d3]) rfl ?_
    refine ⟨_, _, rfl, hc, ?_⟩
    repeat (first | (with_reducible exact S2.out.below) | refine Below.setCell ?_ (by simp <;> omega) _)

end Go.Proofs.Ytimfnhejiiagmaa.tao
