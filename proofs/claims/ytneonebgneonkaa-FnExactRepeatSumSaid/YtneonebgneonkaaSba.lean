/- SumBoxes of the program. -/
import Derived.Test.YtneonebgneonkaaSma
namespace Go.Proofs.Ytneonebgneonkaa.sba
open Go.RowKit Go.Deep Go.Proofs.Ytneonebgneonkaa.base
open Go.Proofs.Ytneonebgneonkaa.rws (total)
open Go.Proofs.Ytneonebgneonkaa.smm
open Go.Proofs.Ytneonebgneonkaa.two (two)

noncomputable def res2 (x y wh : Int) (xss : List (List Int)) (x' y' wh' : Int) (yss : List (List Int)) : make.Res := wrm.res x y wh xss x' y' wh' yss F K S F K S
theorem tot_res2 (x y wh : Int) (xss : List (List Int)) (x' y' wh' : Int) (yss : List (List Int)) : total (res2 x y wh xss x' y' wh' yss).rows ≤ 1048576 := wrm.tot_res
theorem fold_two (x y wh : Int) (xss : List (List Int)) (x' y' wh' : Int) (yss : List (List Int)) : fold P0 [⟨x, y, wh, xss⟩, ⟨x', y', wh', yss⟩] = res2 x y wh xss x' y' wh' yss := by
  show wire (wire P0 ⟨x, y, wh, xss⟩) ⟨x', y', wh', yss⟩ = _
  by_cases h : two x y wh xss
  · rw [first_yes (b := ⟨x, y, wh, xss⟩) h]
    obtain ⟨_, rfl, rfl⟩ := h
    rfl
  · rw [wire_bad P0 (b := ⟨x, y, wh, xss⟩) h, wire_zero]
    exact (wrm.res_no (fun h' => h h'.1.1.1)).symm


set_option maxRecDepth 100000 in
set_option maxHeartbeats 4000000 in
theorem impl_any (x y wh : Int) (v : Value) (xss : List (List Int)) (x' y' wh' : Int) (v' : Value) (yss : List (List Int)) (w : World) (h : IRows w v xss) (h' : IRows w v' yss) (hn : total xss ≤ 1048576) (hn' : total yss ≤ 1048576) :
    Calls Try.prog 42 #[.agg #[.int .i64 x, .int .i64 y, .int .i64 wh, v], .agg #[.int .i64 x', .int .i64 y', .int .i64 wh', v']] w fun e w' => ∃ r, e = .returned (.tuple #[.agg #[.int .i64 (res2 x y wh xss x' y' wh' yss).x, .int .i64 (res2 x y wh xss x' y' wh' yss).y, .int .i64 (res2 x y wh xss x' y' wh' yss).wh, r], .bool (res2 x y wh xss x' y' wh' yss).ok]) ∧ OwnRows w' w.heap.size w'.heap.size r (res2 x y wh xss x' y' wh' yss).rows ∧ Below w.heap.size w w' := by
  obtain ⟨va, vn, vc, rfl⟩ := h.shape
  obtain ⟨ua, un, uc, rfl⟩ := h'.shape
  have B3 := below_al (below_al (below_al (below_al (Below.refl w.heap.size w) (.cells #[.int .i64 x, .int .i64 y, .int .i64 wh, .slice va vn vc] 48)) (.cells #[.int .i64 x', .int .i64 y', .int .i64 wh', .slice ua un uc] 48)) (.cells #[.int .i64 0, .int .i64 0, .int .i64 0, .slice none 0 0] 48)) (.cells #[.int .i64 x, .int .i64 y, .int .i64 wh, .slice va vn vc, .int .i64 x', .int .i64 y', .int .i64 wh', .slice ua un uc] 48)
  have P1 := Lib.hid (((Blk.new w 48 #[.int .i64 x, .int .i64 y, .int .i64 wh, .slice va vn vc]).alloc (.cells #[.int .i64 x', .int .i64 y', .int .i64 wh', .slice ua un uc] 48)).alloc (.cells #[.int .i64 0, .int .i64 0, .int .i64 0, .slice none 0 0] 48))
  have P2 : Hid (Blk (((w.alloc (.cells #[.int .i64 x, .int .i64 y, .int .i64 wh, .slice va vn vc] 48)).alloc (.cells #[.int .i64 x', .int .i64 y', .int .i64 wh', .slice ua un uc] 48)).alloc (.cells #[.int .i64 0, .int .i64 0, .int .i64 0, .slice none 0 0] 48)) (w.heap.size + 1) 48 #[.int .i64 x', .int .i64 y', .int .i64 wh', .slice ua un uc]) := Lib.hid (by have := (Blk.new (w.alloc (.cells #[.int .i64 x, .int .i64 y, .int .i64 wh, .slice va vn vc] 48)) 48 #[.int .i64 x', .int .i64 y', .int .i64 wh', .slice ua un uc]).alloc (.cells #[.int .i64 0, .int .i64 0, .int .i64 0, .slice none 0 0] 48); simpa using this)
  have P3 : Hid (Blk ((((w.alloc (.cells #[.int .i64 x, .int .i64 y, .int .i64 wh, .slice va vn vc] 48)).alloc (.cells #[.int .i64 x', .int .i64 y', .int .i64 wh', .slice ua un uc] 48)).alloc (.cells #[.int .i64 0, .int .i64 0, .int .i64 0, .slice none 0 0] 48)).alloc (.cells #[.int .i64 x, .int .i64 y, .int .i64 wh, .slice va vn vc, .int .i64 x', .int .i64 y', .int .i64 wh', .slice ua un uc] 48)) (w.heap.size + 1 + 1) 48 #[.int .i64 0, .int .i64 0, .int .i64 0, .slice none 0 0]) := Lib.hid (by have := (Blk.new ((w.alloc (.cells #[.int .i64 x, .int .i64 y, .int .i64 wh, .slice va vn vc] 48)).alloc (.cells #[.int .i64 x', .int .i64 y', .int .i64 wh', .slice ua un uc] 48)) 48 #[.int .i64 0, .int .i64 0, .int .i64 0, .slice none 0 0]).alloc (.cells #[.int .i64 x, .int .i64 y, .int .i64 wh, .slice va vn vc, .int .i64 x', .int .i64 y', .int .i64 wh', .slice ua un uc] 48); simpa using this)
  have N4 : Blk ((((w.alloc (.cells #[.int .i64 x, .int .i64 y, .int .i64 wh, .slice va vn vc] 48)).alloc (.cells #[.int .i64 x', .int .i64 y', .int .i64 wh', .slice ua un uc] 48)).alloc (.cells #[.int .i64 0, .int .i64 0, .int .i64 0, .slice none 0 0] 48)).alloc (.cells #[.int .i64 x, .int .i64 y, .int .i64 wh, .slice va vn vc, .int .i64 x', .int .i64 y', .int .i64 wh', .slice ua un uc] 48)) (w.heap.size + 1 + 1 + 1) 48 #[.int .i64 x, .int .i64 y, .int .i64 wh, .slice va vn vc, .int .i64 x', .int .i64 y', .int .i64 wh', .slice ua un uc] := by have := Blk.new (((w.alloc (.cells #[.int .i64 x, .int .i64 y, .int .i64 wh, .slice va vn vc] 48)).alloc (.cells #[.int .i64 x', .int .i64 y', .int .i64 wh', .slice ua un uc] 48)).alloc (.cells #[.int .i64 0, .int .i64 0, .int .i64 0, .slice none 0 0] 48)) 48 #[.int .i64 x, .int .i64 y, .int .i64 wh, .slice va vn vc, .int .i64 x', .int .i64 y', .int .i64 wh', .slice ua un uc]; simpa using this
  have HC : Hid (Calls Try.prog 90 #[.slice (some ⟨w.heap.size + 1 + 1 + 1, 0, none⟩) 2 2] ((((w.alloc (.cells #[.int .i64 x, .int .i64 y, .int .i64 wh, .slice va vn vc] 48)).alloc (.cells #[.int .i64 x', .int .i64 y', .int .i64 wh', .slice ua un uc] 48)).alloc (.cells #[.int .i64 0, .int .i64 0, .int .i64 0, .slice none 0 0] 48)).alloc (.cells #[.int .i64 x, .int .i64 y, .int .i64 wh, .slice va vn vc, .int .i64 x', .int .i64 y', .int .i64 wh', .slice ua un uc] 48)) fun e w' => ∃ r, e = .returned (.tuple #[.agg #[.int .i64 (res2 x y wh xss x' y' wh' yss).x, .int .i64 (res2 x y wh xss x' y' wh' yss).y, .int .i64 (res2 x y wh xss x' y' wh' yss).wh, r], .bool (res2 x y wh xss x' y' wh' yss).ok]) ∧ OwnRows w' ((((w.alloc (.cells #[.int .i64 x, .int .i64 y, .int .i64 wh, .slice va vn vc] 48)).alloc (.cells #[.int .i64 x', .int .i64 y', .int .i64 wh', .slice ua un uc] 48)).alloc (.cells #[.int .i64 0, .int .i64 0, .int .i64 0, .slice none 0 0] 48)).alloc (.cells #[.int .i64 x, .int .i64 y, .int .i64 wh, .slice va vn vc, .int .i64 x', .int .i64 y', .int .i64 wh', .slice ua un uc] 48)).heap.size w'.heap.size r (res2 x y wh xss x' y' wh' yss).rows ∧ Below ((((w.alloc (.cells #[.int .i64 x, .int .i64 y, .int .i64 wh, .slice va vn vc] 48)).alloc (.cells #[.int .i64 x', .int .i64 y', .int .i64 wh', .slice ua un uc] 48)).alloc (.cells #[.int .i64 0, .int .i64 0, .int .i64 0, .slice none 0 0] 48)).alloc (.cells #[.int .i64 x, .int .i64 y, .int .i64 wh, .slice va vn vc, .int .i64 x', .int .i64 y', .int .i64 wh', .slice ua un uc] 48)).heap.size ((((w.alloc (.cells #[.int .i64 x, .int .i64 y, .int .i64 wh, .slice va vn vc] 48)).alloc (.cells #[.int .i64 x', .int .i64 y', .int .i64 wh', .slice ua un uc] 48)).alloc (.cells #[.int .i64 0, .int .i64 0, .int .i64 0, .slice none 0 0] 48)).alloc (.cells #[.int .i64 x, .int .i64 y, .int .i64 wh, .slice va vn vc, .int .i64 x', .int .i64 y', .int .i64 wh', .slice ua un uc] 48)) w') := Lib.hid (by
    have := sma.sumAll (w.heap.size + 1 + 1 + 1) 0 2 2 [⟨x, y, wh, xss⟩, ⟨x', y', wh', yss⟩] ((((w.alloc (.cells #[.int .i64 x, .int .i64 y, .int .i64 wh, .slice va vn vc] 48)).alloc (.cells #[.int .i64 x', .int .i64 y', .int .i64 wh', .slice ua un uc] 48)).alloc (.cells #[.int .i64 0, .int .i64 0, .int .i64 0, .slice none 0 0] 48)).alloc (.cells #[.int .i64 x, .int .i64 y, .int .i64 wh, .slice va vn vc, .int .i64 x', .int .i64 y', .int .i64 wh', .slice ua un uc] 48)) (fun k hk => by
      have hk2 : k < 2 := hk
      obtain rfl | rfl : k = 0 ∨ k = 1 := by omega
      · exact ⟨va, vn, vc, Joins.cell_of_block N4 0, Joins.cell_of_block N4 1, Joins.cell_of_block N4 2, Joins.cell_of_block N4 3, h.below B3, hn⟩
      · exact ⟨ua, un, uc, Joins.cell_of_block N4 4, Joins.cell_of_block N4 5, Joins.cell_of_block N4 6, Joins.cell_of_block N4 7, h'.below B3, hn'⟩) rfl (by omega)
    rw [fold_two] at this
    exact this)
  have B4 := Lib.hid B3
  obtain ⟨c0, c1, c2, c3, c4⟩ := four_cells P1.out
  obtain ⟨d0, d1, d2, d3, d4⟩ := four_cells P2.out
  generalize res2 x y wh xss x' y' wh' yss = q at *
  clear h h' N4 B3
  go_enter Try.func42, Try.ntmps42
  go_wp2_with fail
  refine HC.out.mono ?_
  rintro e w5 ⟨r, rfl, hr, hb⟩
  obtain ⟨xa, xn, xc, rfl⟩ := hr.rows.shape
  have B5 := Lib.hid (below_tr B4.out hb)
  have R5 := Lib.hid (P3.out.below hb)
  have HR := Lib.hid hr
  obtain ⟨r0, r1, r2, r3, r4⟩ := four_cells R5.out
  have rf : ∀ q, w5.frozen? ⟨w.heap.size + 1 + 1, q, none⟩ = false := fun q => Joins.unfrozen_of_block R5.out q
  clear hr hb HC c0 c1 c2 c3 c4 d0 d1 d2 d3 d4
  go_wp2_with fail
  refine bodyPost_ret (v := .tuple #[.agg #[.int .i64 q.x, .int .i64 q.y, .int .i64 q.wh, .slice xa xn xc], .bool q.ok]) (by simp [results, Try.results42, go_sem, r0, r1, r2, r3]) rfl ⟨_, rfl, ?_, ?_⟩
  · refine (HR.out.wrote (S := fun p => p.block < w.heap.size + 1 + 1 + 1) ?_ (fun p hp => .inl (by have e : p.block < w.heap.size + 1 + 1 + 1 := hp; simp; omega))).mono (by simp <;> omega) (by simp [World.setCell])
    repeat (first | exact Wrote.refl _ _ | refine Wrote.setCell ?_ (by simp) _)
  · repeat (first | (with_reducible exact B5.out) | refine Below.setCell ?_ (by simp <;> omega) _)


end Go.Proofs.Ytneonebgneonkaa.sba
