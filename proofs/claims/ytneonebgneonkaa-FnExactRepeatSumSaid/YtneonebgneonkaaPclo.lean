/- PlayBox: the closure of the program. -/
import Derived.Test.YtneonebgneonkaaPbox
namespace Go.Proofs.Ytneonebgneonkaa.pbox
open Go.RowKit Go.Deep Go.Proofs.Ytneonebgneonkaa.base

set_option maxHeartbeats 2000000 in
theorem clo (p0 p1 p2 : Nat) (ps : List Int) (X Y : Nat) (wh : Int) (a c : Nat) (v : Value) (w : World) (h0 : w.cell? ⟨p0, 0, none⟩ = some (.int .i64 wh)) (h1 : w.cell? ⟨p1, 0, none⟩ = some v) (h2 : w.cell? ⟨p2, 0, none⟩ = some (.int .i64 (X : Int)))
    (hv : Ints w v ps) (hl : ps.length = X + Y) (hp : ∀ k (h : k < ps.length), 0 ≤ ps[k] ∧ ps[k] ≤ 1) (hX : X ≤ 3) (hY : Y ≤ 3) (ha : a < X) (hc : c < Y) :
    Calls Try.prog 153 #[.int .i64 (a : Int), .int .i64 (c : Int), .pointer (some ⟨p0, 0, none⟩), .pointer (some ⟨p1, 0, none⟩), .pointer (some ⟨p2, 0, none⟩)] w fun e w' =>
      e = .returned (.agg #[.int .i64 (N ps X Y wh (a * Y + c) 0), .int .i64 (N ps X Y wh (a * Y + c) 1), .int .i64 (N ps X Y wh (a * Y + c) 2), .int .i64 (N ps X Y wh (a * Y + c) 3)]) ∧ Below w.heap.size w w' := by
  rw [N_at _ _ _ _ _ _ _ hc, N_at _ _ _ _ _ _ _ hc, N_at _ _ _ _ _ _ _ hc, N_at _ _ _ _ _ _ _ hc]
  obtain ⟨d, hd⟩ : ∃ d, d = X + c := ⟨_, rfl⟩
  rw [← hd]
  have hal : a < ps.length := by omega
  have hdl : d < ps.length := by omega
  rw [getD_at hal, getD_at hdl]
  have f1 := hp a hal
  have f2 := hp d hdl
  obtain ⟨A, b, o, cap, rfl, _, _, hA, hcell⟩ := hv.form
  obtain rfl := hA (by omega)
  have g1 := hcell a hal
  have g2 := hcell d hdl
  have i1 : (a : Int) < (ps.length : Int) := by omega
  have i2 : (d : Int) < (ps.length : Int) := by omega
  have k1 : IntKind.i64.wrap ((X : Int) + (c : Int)) = (d : Int) := by rw [IntWalk.i64_in _ (by omega)]; omega
  generalize ps[a] = p at *
  generalize ps[d] = q at *
  have l0 : p0 < w.heap.size := World.block_lt_of_cell? _ _ h0
  have l1 : p1 < w.heap.size := World.block_lt_of_cell? _ _ h1
  have l2 : p2 < w.heap.size := World.block_lt_of_cell? _ _ h2
  have l3 : b < w.heap.size := World.block_lt_of_cell? _ _ g1
  have h0' := fun (o1 o2 : Obj) => below_cell (below_al (below_al (Below.refl _ _) o1) o2) _ _ h0
  have h1' := fun (o1 o2 : Obj) => below_cell (below_al (below_al (Below.refl _ _) o1) o2) _ _ h1
  have h2' := fun (o1 o2 : Obj) => below_cell (below_al (below_al (Below.refl _ _) o1) o2) _ _ h2
  have g1' := fun (o1 o2 : Obj) => below_cell (below_al (below_al (Below.refl _ _) o1) o2) _ _ g1
  have g2' := fun (o1 o2 : Obj) => below_cell (below_al (below_al (Below.refl _ _) o1) o2) _ _ g2
  clear hcell hA hv hp hl
  clear hal hdl hd
  go_enter Try.func153, Try.ntmps153
  go_wp2_with fail
  obtain rfl | rfl : p = 0 ∨ p = 1 := by omega
  · obtain rfl | rfl : q = 0 ∨ q = 1 := by omega
    · clear f1 f2
      go_region
      go_wp2_with fail
      refine bodyPost_ret (v := .agg #[.int .i64 wh, .int .i64 0, .int .i64 0, .int .i64 0]) (by simp [results, Try.results153, go_sem]) rfl ⟨by simp, ?_⟩
      repeat (first | exact Below.refl _ _ | refine below_drewN ?_ _ | refine below_dr ?_ | refine below_al ?_ _ | refine Below.setCell ?_ (by simp <;> omega) _)
    · clear f1 f2
      go_region
      go_wp2_with fail
      refine bodyPost_ret (v := .agg #[.int .i64 0, .int .i64 wh, .int .i64 0, .int .i64 0]) (by simp [results, Try.results153, go_sem]) rfl ⟨by simp, ?_⟩
      repeat (first | exact Below.refl _ _ | refine below_drewN ?_ _ | refine below_dr ?_ | refine below_al ?_ _ | refine Below.setCell ?_ (by simp <;> omega) _)
  · obtain rfl | rfl : q = 0 ∨ q = 1 := by omega
    · clear f1 f2
      go_region
      go_wp2_with fail
      refine bodyPost_ret (v := .agg #[.int .i64 0, .int .i64 0, .int .i64 wh, .int .i64 0]) (by simp [results, Try.results153, go_sem]) rfl ⟨by simp, ?_⟩
      repeat (first | exact Below.refl _ _ | refine below_drewN ?_ _ | refine below_dr ?_ | refine below_al ?_ _ | refine Below.setCell ?_ (by simp <;> omega) _)
    · clear f1 f2
      go_region
      go_wp2_with fail
      refine bodyPost_ret (v := .agg #[.int .i64 0, .int .i64 0, .int .i64 0, .int .i64 wh]) (by simp [results, Try.results153, go_sem]) rfl ⟨by simp, ?_⟩
      repeat (first | exact Below.refl _ _ | refine below_drewN ?_ _ | refine below_dr ?_ | refine below_al ?_ _ | refine Below.setCell ?_ (by simp <;> omega) _)

end Go.Proofs.Ytneonebgneonkaa.pbox
