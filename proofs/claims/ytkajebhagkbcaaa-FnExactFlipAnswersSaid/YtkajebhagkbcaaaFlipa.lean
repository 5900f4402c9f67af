/- FlipAnswers: the forms of a row. -/
import Derived.Test.YtkajebhagkbcaaaMake
import Derived.Test.YtkajebhagkbcaaaPlay
import Derived.Test.YtkajebhagkbcaaaStep
import Derived.Deep.RegionHeld3
import Derived.BigRegion
import Derived.Laws.EntriesVeiled
namespace Go.Proofs.Ytkajebhagkbcaaa.flipa
open Go.RowKit Go.Deep Go.Proofs.Ytkajebhagkbcaaa.base
open Go.Proofs.Ytkajebhagkbcaaa.ints (ret_int infoInt infoInts)
open Go.Proofs.Ytkajebhagkbcaaa.rws (total)
open Go.Proofs.Ytkajebhagkbcaaa.val (okSizes okBox boxB boxB_yes boxB_no)
open Go.Proofs.Ytkajebhagkbcaaa.row (nn nn_bd at_ at_lt)

theorem kept (n0 n1 n2 n3 : Int) (w : World) :
    Calls Try.prog 106 #[.agg #[.int .i64 n0, .int .i64 n1, .int .i64 n2, .int .i64 n3]] w fun e w' => e = .returned (.agg #[.int .i64 n0, .int .i64 n1, .int .i64 n2, .int .i64 n3]) ∧ Below w.heap.size w w' := by
  have R0 : Hid (Blk ((w.alloc (.cells #[.int .i64 n0, .int .i64 n1, .int .i64 n2, .int .i64 n3] 64)).alloc (.cells #[.int .i64 0, .int .i64 0, .int .i64 0, .int .i64 0] 64)) (w.heap.size + 1) 64 #[.int .i64 0, .int .i64 0, .int .i64 0, .int .i64 0]) := Lib.hid (by
    have := Blk.new (w.alloc (.cells #[.int .i64 n0, .int .i64 n1, .int .i64 n2, .int .i64 n3] 64)) 64 #[.int .i64 0, .int .i64 0, .int .i64 0, .int .i64 0]
    simpa using this)
  obtain ⟨r0, r1, r2, r3, r4⟩ := four_cells R0.out
  have rf : ∀ k, ((w.alloc (.cells #[.int .i64 n0, .int .i64 n1, .int .i64 n2, .int .i64 n3] 64)).alloc (.cells #[.int .i64 0, .int .i64 0, .int .i64 0, .int .i64 0] 64)).frozen? ⟨w.heap.size + 1, k, none⟩ = false := fun k => Joins.unfrozen_of_block R0.out k
  go_enter Try.func106, Try.ntmps106
  go_wp2_with fail
  refine bodyPost_ret (v := .agg #[.int .i64 n0, .int .i64 n1, .int .i64 n2, .int .i64 n3]) (by simp [results, Try.results106, go_sem]) rfl ⟨rfl, ?_⟩
  repeat (first | exact Below.refl _ _ | refine below_dr ?_ | refine below_al ?_ _ | refine Below.setCell ?_ (by simp <;> omega) _)

theorem secondFlipped (n0 n1 n2 n3 : Int) (w : World) :
    Calls Try.prog 107 #[.agg #[.int .i64 n0, .int .i64 n1, .int .i64 n2, .int .i64 n3]] w fun e w' => e = .returned (.agg #[.int .i64 n1, .int .i64 n0, .int .i64 n3, .int .i64 n2]) ∧ Below w.heap.size w w' := by
  have R0 : Hid (Blk ((w.alloc (.cells #[.int .i64 n0, .int .i64 n1, .int .i64 n2, .int .i64 n3] 64)).alloc (.cells #[.int .i64 0, .int .i64 0, .int .i64 0, .int .i64 0] 64)) (w.heap.size + 1) 64 #[.int .i64 0, .int .i64 0, .int .i64 0, .int .i64 0]) := Lib.hid (by
    have := Blk.new (w.alloc (.cells #[.int .i64 n0, .int .i64 n1, .int .i64 n2, .int .i64 n3] 64)) 64 #[.int .i64 0, .int .i64 0, .int .i64 0, .int .i64 0]
    simpa using this)
  obtain ⟨r0, r1, r2, r3, r4⟩ := four_cells R0.out
  have rf : ∀ k, ((w.alloc (.cells #[.int .i64 n0, .int .i64 n1, .int .i64 n2, .int .i64 n3] 64)).alloc (.cells #[.int .i64 0, .int .i64 0, .int .i64 0, .int .i64 0] 64)).frozen? ⟨w.heap.size + 1, k, none⟩ = false := fun k => Joins.unfrozen_of_block R0.out k
  go_enter Try.func107, Try.ntmps107
  go_wp2_with fail
  refine bodyPost_ret (v := .agg #[.int .i64 n1, .int .i64 n0, .int .i64 n3, .int .i64 n2]) (by simp [results, Try.results107, go_sem]) rfl ⟨rfl, ?_⟩
  repeat (first | exact Below.refl _ _ | refine below_dr ?_ | refine below_al ?_ _ | refine Below.setCell ?_ (by simp <;> omega) _)

theorem firstFlipped (n0 n1 n2 n3 : Int) (w : World) :
    Calls Try.prog 108 #[.agg #[.int .i64 n0, .int .i64 n1, .int .i64 n2, .int .i64 n3]] w fun e w' => e = .returned (.agg #[.int .i64 n2, .int .i64 n3, .int .i64 n0, .int .i64 n1]) ∧ Below w.heap.size w w' := by
  have R0 : Hid (Blk ((w.alloc (.cells #[.int .i64 n0, .int .i64 n1, .int .i64 n2, .int .i64 n3] 64)).alloc (.cells #[.int .i64 0, .int .i64 0, .int .i64 0, .int .i64 0] 64)) (w.heap.size + 1) 64 #[.int .i64 0, .int .i64 0, .int .i64 0, .int .i64 0]) := Lib.hid (by
    have := Blk.new (w.alloc (.cells #[.int .i64 n0, .int .i64 n1, .int .i64 n2, .int .i64 n3] 64)) 64 #[.int .i64 0, .int .i64 0, .int .i64 0, .int .i64 0]
    simpa using this)
  obtain ⟨r0, r1, r2, r3, r4⟩ := four_cells R0.out
  have rf : ∀ k, ((w.alloc (.cells #[.int .i64 n0, .int .i64 n1, .int .i64 n2, .int .i64 n3] 64)).alloc (.cells #[.int .i64 0, .int .i64 0, .int .i64 0, .int .i64 0] 64)).frozen? ⟨w.heap.size + 1, k, none⟩ = false := fun k => Joins.unfrozen_of_block R0.out k
  go_enter Try.func108, Try.ntmps108
  go_wp2_with fail
  refine bodyPost_ret (v := .agg #[.int .i64 n2, .int .i64 n3, .int .i64 n0, .int .i64 n1]) (by simp [results, Try.results108, go_sem]) rfl ⟨rfl, ?_⟩
  repeat (first | exact Below.refl _ _ | refine below_dr ?_ | refine below_al ?_ _ | refine Below.setCell ?_ (by simp <;> omega) _)

theorem bothFlipped (n0 n1 n2 n3 : Int) (w : World) :
    Calls Try.prog 109 #[.agg #[.int .i64 n0, .int .i64 n1, .int .i64 n2, .int .i64 n3]] w fun e w' => e = .returned (.agg #[.int .i64 n3, .int .i64 n2, .int .i64 n1, .int .i64 n0]) ∧ Below w.heap.size w w' := by
  have R0 : Hid (Blk ((w.alloc (.cells #[.int .i64 n0, .int .i64 n1, .int .i64 n2, .int .i64 n3] 64)).alloc (.cells #[.int .i64 0, .int .i64 0, .int .i64 0, .int .i64 0] 64)) (w.heap.size + 1) 64 #[.int .i64 0, .int .i64 0, .int .i64 0, .int .i64 0]) := Lib.hid (by
    have := Blk.new (w.alloc (.cells #[.int .i64 n0, .int .i64 n1, .int .i64 n2, .int .i64 n3] 64)) 64 #[.int .i64 0, .int .i64 0, .int .i64 0, .int .i64 0]
    simpa using this)
  obtain ⟨r0, r1, r2, r3, r4⟩ := four_cells R0.out
  have rf : ∀ k, ((w.alloc (.cells #[.int .i64 n0, .int .i64 n1, .int .i64 n2, .int .i64 n3] 64)).alloc (.cells #[.int .i64 0, .int .i64 0, .int .i64 0, .int .i64 0] 64)).frozen? ⟨w.heap.size + 1, k, none⟩ = false := fun k => Joins.unfrozen_of_block R0.out k
  go_enter Try.func109, Try.ntmps109
  go_wp2_with fail
  refine bodyPost_ret (v := .agg #[.int .i64 n3, .int .i64 n2, .int .i64 n1, .int .i64 n0]) (by simp [results, Try.results109, go_sem]) rfl ⟨rfl, ?_⟩
  repeat (first | exact Below.refl _ _ | refine below_dr ?_ | refine below_al ?_ _ | refine Below.setCell ?_ (by simp <;> omega) _)

theorem flipped00 (n0 n1 n2 n3 : Int) (w : World) :
    Calls Try.prog 89 #[.agg #[.int .i64 n0, .int .i64 n1, .int .i64 n2, .int .i64 n3], .int .i64 0, .int .i64 0] w fun e w' => e = .returned (.agg #[.int .i64 n0, .int .i64 n1, .int .i64 n2, .int .i64 n3]) ∧ Below w.heap.size w w' := by
  go_enter Try.func89, Try.ntmps89
  have T0 : Hid (Blk (((w.alloc (.cells #[.int .i64 n0, .int .i64 n1, .int .i64 n2, .int .i64 n3] 64)).alloc (.cells #[.int .i64 0, .int .i64 0, .int .i64 0, .int .i64 0] 64)).alloc (.cells #[.nilFunc, .nilFunc, .nilFunc, .nilFunc] 92)) (w.heap.size + 1 + 1) 92 #[.nilFunc, .nilFunc, .nilFunc, .nilFunc]) := Lib.hid (by
    have := Blk.new ((w.alloc (.cells #[.int .i64 n0, .int .i64 n1, .int .i64 n2, .int .i64 n3] 64)).alloc (.cells #[.int .i64 0, .int .i64 0, .int .i64 0, .int .i64 0] 64)) 92 #[.nilFunc, .nilFunc, .nilFunc, .nilFunc]
    simpa using this)
  obtain ⟨t0, t1, t2, t3, t4⟩ := four_cells T0.out
  have tf : ∀ k, (((w.alloc (.cells #[.int .i64 n0, .int .i64 n1, .int .i64 n2, .int .i64 n3] 64)).alloc (.cells #[.int .i64 0, .int .i64 0, .int .i64 0, .int .i64 0] 64)).alloc (.cells #[.nilFunc, .nilFunc, .nilFunc, .nilFunc] 92)).frozen? ⟨w.heap.size + 1 + 1, k, none⟩ = false := fun k => Joins.unfrozen_of_block T0.out k
  go_wp2_with fail
  have K1 : Blk (((w.alloc (.cells #[.int .i64 n0, .int .i64 n1, .int .i64 n2, .int .i64 n3] 64)).alloc (.cells #[.int .i64 0, .int .i64 0, .int .i64 0, .int .i64 0] 64)).alloc (.cells #[.func (.func 106) #[] #[], .func (.func 107) #[] #[], .func (.func 108) #[] #[], .func (.func 109) #[] #[]] 92)) w.heap.size 64 #[.int .i64 n0, .int .i64 n1, .int .i64 n2, .int .i64 n3] := ((Blk.new w 64 #[.int .i64 n0, .int .i64 n1, .int .i64 n2, .int .i64 n3]).alloc _).alloc _
  have R1 : Hid (Blk (((w.alloc (.cells #[.int .i64 n0, .int .i64 n1, .int .i64 n2, .int .i64 n3] 64)).alloc (.cells #[.int .i64 0, .int .i64 0, .int .i64 0, .int .i64 0] 64)).alloc (.cells #[.func (.func 106) #[] #[], .func (.func 107) #[] #[], .func (.func 108) #[] #[], .func (.func 109) #[] #[]] 92)) (w.heap.size + 1) 64 #[.int .i64 0, .int .i64 0, .int .i64 0, .int .i64 0]) := Lib.hid (by
    have := (Blk.new (w.alloc (.cells #[.int .i64 n0, .int .i64 n1, .int .i64 n2, .int .i64 n3] 64)) 64 #[.int .i64 0, .int .i64 0, .int .i64 0, .int .i64 0]).alloc (.cells #[.func (.func 106) #[] #[], .func (.func 107) #[] #[], .func (.func 108) #[] #[], .func (.func 109) #[] #[]] 92)
    simpa using this)
  have T1 : Blk (((w.alloc (.cells #[.int .i64 n0, .int .i64 n1, .int .i64 n2, .int .i64 n3] 64)).alloc (.cells #[.int .i64 0, .int .i64 0, .int .i64 0, .int .i64 0] 64)).alloc (.cells #[.func (.func 106) #[] #[], .func (.func 107) #[] #[], .func (.func 108) #[] #[], .func (.func 109) #[] #[]] 92)) (w.heap.size + 1 + 1) 92 #[.func (.func 106) #[] #[], .func (.func 107) #[] #[], .func (.func 108) #[] #[], .func (.func 109) #[] #[]] := by
    have := Blk.new ((w.alloc (.cells #[.int .i64 n0, .int .i64 n1, .int .i64 n2, .int .i64 n3] 64)).alloc (.cells #[.int .i64 0, .int .i64 0, .int .i64 0, .int .i64 0] 64)) 92 #[.func (.func 106) #[] #[], .func (.func 107) #[] #[], .func (.func 108) #[] #[], .func (.func 109) #[] #[]]
    simpa using this
  have B1 : Hid (Below w.heap.size w (((w.alloc (.cells #[.int .i64 n0, .int .i64 n1, .int .i64 n2, .int .i64 n3] 64)).alloc (.cells #[.int .i64 0, .int .i64 0, .int .i64 0, .int .i64 0] 64)).alloc (.cells #[.func (.func 106) #[] #[], .func (.func 107) #[] #[], .func (.func 108) #[] #[], .func (.func 109) #[] #[]] 92))) := Lib.hid (below_al (below_al (below_al (Below.refl _ _) _) _) _)
  obtain ⟨c0, c1, c2, c3, c4⟩ := four_cells K1
  obtain ⟨g0, g1, g2, g3, g4⟩ := four_cells T1
  clear K1 T1 T0 t0 t1 t2 t3 t4 tf
  go_region_held3 (fun w' => w'.cell? ⟨w.heap.size, 0, none⟩ = some (.int .i64 n0) ∧ w'.cell? ⟨w.heap.size, 1, none⟩ = some (.int .i64 n1) ∧ w'.cell? ⟨w.heap.size, 2, none⟩ = some (.int .i64 n2) ∧ w'.cell? ⟨w.heap.size, 3, none⟩ = some (.int .i64 n3) ∧ w'.cell? ⟨w.heap.size + 1 + 1, 0, none⟩ = some (.func (.func 106) #[] #[]))
    ((refine step.offs5 (R := w.heap.size + 1) c0 c1 c2 c3 g0 (by simp) (by simp) (by simp) (by simp) (by simp) ?_; repeat (first | (with_reducible exact step.Off.refl _ _) | (with_reducible refine step.Off.drew ?_) | (with_reducible refine step.Off.setCell ?_ _ _ rfl) | (with_reducible refine step.Off.below ?_ hb3))))
    (first
      | (go_at_call 106; (with_reducible refine (kept n0 n1 n2 n3 _).mono ?_); rintro e w3 ⟨rfl, hb3⟩; have R3 := R1.out.below (below_tr (below_dr (Below.refl _ _)) hb3); obtain ⟨r0, r1, r2, r3, r4⟩ := four_cells R3; have rf : ∀ k, w3.frozen? ⟨w.heap.size + 1, k, none⟩ = false := fun k => Joins.unfrozen_of_block R3 k))
  have B3 := Lib.hid (below_tr B1.out (below_tr (below_dr (Below.refl _ _)) hb3))
  clear hb3 c0 c1 c2 c3 c4 g0 g1 g2 g3 g4 R3 R1
  go_wp2_with fail
  refine bodyPost_ret (v := .agg #[.int .i64 n0, .int .i64 n1, .int .i64 n2, .int .i64 n3]) (by simp [results, Try.results89, go_sem, r0, r1, r2, r3]) rfl ⟨rfl, ?_⟩
  repeat (refine Below.setCell ?_ (by simp <;> omega) _)
  exact B3.out

theorem flipped01 (n0 n1 n2 n3 : Int) (w : World) :
    Calls Try.prog 89 #[.agg #[.int .i64 n0, .int .i64 n1, .int .i64 n2, .int .i64 n3], .int .i64 0, .int .i64 1] w fun e w' => e = .returned (.agg #[.int .i64 n1, .int .i64 n0, .int .i64 n3, .int .i64 n2]) ∧ Below w.heap.size w w' := by
  go_enter Try.func89, Try.ntmps89
  have T0 : Hid (Blk (((w.alloc (.cells #[.int .i64 n0, .int .i64 n1, .int .i64 n2, .int .i64 n3] 64)).alloc (.cells #[.int .i64 0, .int .i64 0, .int .i64 0, .int .i64 0] 64)).alloc (.cells #[.nilFunc, .nilFunc, .nilFunc, .nilFunc] 92)) (w.heap.size + 1 + 1) 92 #[.nilFunc, .nilFunc, .nilFunc, .nilFunc]) := Lib.hid (by
    have := Blk.new ((w.alloc (.cells #[.int .i64 n0, .int .i64 n1, .int .i64 n2, .int .i64 n3] 64)).alloc (.cells #[.int .i64 0, .int .i64 0, .int .i64 0, .int .i64 0] 64)) 92 #[.nilFunc, .nilFunc, .nilFunc, .nilFunc]
    simpa using this)
  obtain ⟨t0, t1, t2, t3, t4⟩ := four_cells T0.out
  have tf : ∀ k, (((w.alloc (.cells #[.int .i64 n0, .int .i64 n1, .int .i64 n2, .int .i64 n3] 64)).alloc (.cells #[.int .i64 0, .int .i64 0, .int .i64 0, .int .i64 0] 64)).alloc (.cells #[.nilFunc, .nilFunc, .nilFunc, .nilFunc] 92)).frozen? ⟨w.heap.size + 1 + 1, k, none⟩ = false := fun k => Joins.unfrozen_of_block T0.out k
  go_wp2_with fail
  have K1 : Blk (((w.alloc (.cells #[.int .i64 n0, .int .i64 n1, .int .i64 n2, .int .i64 n3] 64)).alloc (.cells #[.int .i64 0, .int .i64 0, .int .i64 0, .int .i64 0] 64)).alloc (.cells #[.func (.func 106) #[] #[], .func (.func 107) #[] #[], .func (.func 108) #[] #[], .func (.func 109) #[] #[]] 92)) w.heap.size 64 #[.int .i64 n0, .int .i64 n1, .int .i64 n2, .int .i64 n3] := ((Blk.new w 64 #[.int .i64 n0, .int .i64 n1, .int .i64 n2, .int .i64 n3]).alloc _).alloc _
  have R1 : Hid (Blk (((w.alloc (.cells #[.int .i64 n0, .int .i64 n1, .int .i64 n2, .int .i64 n3] 64)).alloc (.cells #[.int .i64 0, .int .i64 0, .int .i64 0, .int .i64 0] 64)).alloc (.cells #[.func (.func 106) #[] #[], .func (.func 107) #[] #[], .func (.func 108) #[] #[], .func (.func 109) #[] #[]] 92)) (w.heap.size + 1) 64 #[.int .i64 0, .int .i64 0, .int .i64 0, .int .i64 0]) := Lib.hid (by
    have := (Blk.new (w.alloc (.cells #[.int .i64 n0, .int .i64 n1, .int .i64 n2, .int .i64 n3] 64)) 64 #[.int .i64 0, .int .i64 0, .int .i64 0, .int .i64 0]).alloc (.cells #[.func (.func 106) #[] #[], .func (.func 107) #[] #[], .func (.func 108) #[] #[], .func (.func 109) #[] #[]] 92)
    simpa using this)
  have T1 : Blk (((w.alloc (.cells #[.int .i64 n0, .int .i64 n1, .int .i64 n2, .int .i64 n3] 64)).alloc (.cells #[.int .i64 0, .int .i64 0, .int .i64 0, .int .i64 0] 64)).alloc (.cells #[.func (.func 106) #[] #[], .func (.func 107) #[] #[], .func (.func 108) #[] #[], .func (.func 109) #[] #[]] 92)) (w.heap.size + 1 + 1) 92 #[.func (.func 106) #[] #[], .func (.func 107) #[] #[], .func (.func 108) #[] #[], .func (.func 109) #[] #[]] := by
    have := Blk.new ((w.alloc (.cells #[.int .i64 n0, .int .i64 n1, .int .i64 n2, .int .i64 n3] 64)).alloc (.cells #[.int .i64 0, .int .i64 0, .int .i64 0, .int .i64 0] 64)) 92 #[.func (.func 106) #[] #[], .func (.func 107) #[] #[], .func (.func 108) #[] #[], .func (.func 109) #[] #[]]
    simpa using this
  have B1 : Hid (Below w.heap.size w (((w.alloc (.cells #[.int .i64 n0, .int .i64 n1, .int .i64 n2, .int .i64 n3] 64)).alloc (.cells #[.int .i64 0, .int .i64 0, .int .i64 0, .int .i64 0] 64)).alloc (.cells #[.func (.func 106) #[] #[], .func (.func 107) #[] #[], .func (.func 108) #[] #[], .func (.func 109) #[] #[]] 92))) := Lib.hid (below_al (below_al (below_al (Below.refl _ _) _) _) _)
  obtain ⟨c0, c1, c2, c3, c4⟩ := four_cells K1
  obtain ⟨g0, g1, g2, g3, g4⟩ := four_cells T1
  clear K1 T1 T0 t0 t1 t2 t3 t4 tf
  go_region_held3 (fun w' => w'.cell? ⟨w.heap.size, 0, none⟩ = some (.int .i64 n0) ∧ w'.cell? ⟨w.heap.size, 1, none⟩ = some (.int .i64 n1) ∧ w'.cell? ⟨w.heap.size, 2, none⟩ = some (.int .i64 n2) ∧ w'.cell? ⟨w.heap.size, 3, none⟩ = some (.int .i64 n3) ∧ w'.cell? ⟨w.heap.size + 1 + 1, 1, none⟩ = some (.func (.func 107) #[] #[]))
    ((refine step.offs5 (R := w.heap.size + 1) c0 c1 c2 c3 g1 (by simp) (by simp) (by simp) (by simp) (by simp) ?_; repeat (first | (with_reducible exact step.Off.refl _ _) | (with_reducible refine step.Off.drew ?_) | (with_reducible refine step.Off.setCell ?_ _ _ rfl) | (with_reducible refine step.Off.below ?_ hb3))))
    (first
      | (go_at_call 107; (with_reducible refine (secondFlipped n0 n1 n2 n3 _).mono ?_); rintro e w3 ⟨rfl, hb3⟩; have R3 := R1.out.below (below_tr (below_dr (Below.refl _ _)) hb3); obtain ⟨r0, r1, r2, r3, r4⟩ := four_cells R3; have rf : ∀ k, w3.frozen? ⟨w.heap.size + 1, k, none⟩ = false := fun k => Joins.unfrozen_of_block R3 k))
  have B3 := Lib.hid (below_tr B1.out (below_tr (below_dr (Below.refl _ _)) hb3))
  clear hb3 c0 c1 c2 c3 c4 g0 g1 g2 g3 g4 R3 R1
  go_wp2_with fail
  refine bodyPost_ret (v := .agg #[.int .i64 n1, .int .i64 n0, .int .i64 n3, .int .i64 n2]) (by simp [results, Try.results89, go_sem, r0, r1, r2, r3]) rfl ⟨rfl, ?_⟩
  repeat (refine Below.setCell ?_ (by simp <;> omega) _)
  exact B3.out

theorem flipped10 (n0 n1 n2 n3 : Int) (w : World) :
    Calls Try.prog 89 #[.agg #[.int .i64 n0, .int .i64 n1, .int .i64 n2, .int .i64 n3], .int .i64 1, .int .i64 0] w fun e w' => e = .returned (.agg #[.int .i64 n2, .int .i64 n3, .int .i64 n0, .int .i64 n1]) ∧ Below w.heap.size w w' := by
  go_enter Try.func89, Try.ntmps89
  have T0 : Hid (Blk (((w.alloc (.cells #[.int .i64 n0, .int .i64 n1, .int .i64 n2, .int .i64 n3] 64)).alloc (.cells #[.int .i64 0, .int .i64 0, .int .i64 0, .int .i64 0] 64)).alloc (.cells #[.nilFunc, .nilFunc, .nilFunc, .nilFunc] 92)) (w.heap.size + 1 + 1) 92 #[.nilFunc, .nilFunc, .nilFunc, .nilFunc]) := Lib.hid (by
    have := Blk.new ((w.alloc (.cells #[.int .i64 n0, .int .i64 n1, .int .i64 n2, .int .i64 n3] 64)).alloc (.cells #[.int .i64 0, .int .i64 0, .int .i64 0, .int .i64 0] 64)) 92 #[.nilFunc, .nilFunc, .nilFunc, .nilFunc]
    simpa using this)
  obtain ⟨t0, t1, t2, t3, t4⟩ := four_cells T0.out
  have tf : ∀ k, (((w.alloc (.cells #[.int .i64 n0, .int .i64 n1, .int .i64 n2, .int .i64 n3] 64)).alloc (.cells #[.int .i64 0, .int .i64 0, .int .i64 0, .int .i64 0] 64)).alloc (.cells #[.nilFunc, .nilFunc, .nilFunc, .nilFunc] 92)).frozen? ⟨w.heap.size + 1 + 1, k, none⟩ = false := fun k => Joins.unfrozen_of_block T0.out k
  go_wp2_with fail
  have K1 : Blk (((w.alloc (.cells #[.int .i64 n0, .int .i64 n1, .int .i64 n2, .int .i64 n3] 64)).alloc (.cells #[.int .i64 0, .int .i64 0, .int .i64 0, .int .i64 0] 64)).alloc (.cells #[.func (.func 106) #[] #[], .func (.func 107) #[] #[], .func (.func 108) #[] #[], .func (.func 109) #[] #[]] 92)) w.heap.size 64 #[.int .i64 n0, .int .i64 n1, .int .i64 n2, .int .i64 n3] := ((Blk.new w 64 #[.int .i64 n0, .int .i64 n1, .int .i64 n2, .int .i64 n3]).alloc _).alloc _
  have R1 : Hid (Blk (((w.alloc (.cells #[.int .i64 n0, .int .i64 n1, .int .i64 n2, .int .i64 n3] 64)).alloc (.cells #[.int .i64 0, .int .i64 0, .int .i64 0, .int .i64 0] 64)).alloc (.cells #[.func (.func 106) #[] #[], .func (.func 107) #[] #[], .func (.func 108) #[] #[], .func (.func 109) #[] #[]] 92)) (w.heap.size + 1) 64 #[.int .i64 0, .int .i64 0, .int .i64 0, .int .i64 0]) := Lib.hid (by
    have := (Blk.new (w.alloc (.cells #[.int .i64 n0, .int .i64 n1, .int .i64 n2, .int .i64 n3] 64)) 64 #[.int .i64 0, .int .i64 0, .int .i64 0, .int .i64 0]).alloc (.cells #[.func (.func 106) #[] #[], .func (.func 107) #[] #[], .func (.func 108) #[] #[], .func (.func 109) #[] #[]] 92)
    simpa using this)
  have T1 : Blk (((w.alloc (.cells #[.int .i64 n0, .int .i64 n1, .int .i64 n2, .int .i64 n3] 64)).alloc (.cells #[.int .i64 0, .int .i64 0, .int .i64 0, .int .i64 0] 64)).alloc (.cells #[.func (.func 106) #[] #[], .func (.func 107) #[] #[], .func (.func 108) #[] #[], .func (.func 109) #[] #[]] 92)) (w.heap.size + 1 + 1) 92 #[.func (.func 106) #[] #[], .func (.func 107) #[] #[], .func (.func 108) #[] #[], .func (.func 109) #[] #[]] := by
    have := Blk.new ((w.alloc (.cells #[.int .i64 n0, .int .i64 n1, .int .i64 n2, .int .i64 n3] 64)).alloc (.cells #[.int .i64 0, .int .i64 0, .int .i64 0, .int .i64 0] 64)) 92 #[.func (.func 106) #[] #[], .func (.func 107) #[] #[], .func (.func 108) #[] #[], .func (.func 109) #[] #[]]
    simpa using this
  have B1 : Hid (Below w.heap.size w (((w.alloc (.cells #[.int .i64 n0, .int .i64 n1, .int .i64 n2, .int .i64 n3] 64)).alloc (.cells #[.int .i64 0, .int .i64 0, .int .i64 0, .int .i64 0] 64)).alloc (.cells #[.func (.func 106) #[] #[], .func (.func 107) #[] #[], .func (.func 108) #[] #[], .func (.func 109) #[] #[]] 92))) := Lib.hid (below_al (below_al (below_al (Below.refl _ _) _) _) _)
  obtain ⟨c0, c1, c2, c3, c4⟩ := four_cells K1
  obtain ⟨g0, g1, g2, g3, g4⟩ := four_cells T1
  clear K1 T1 T0 t0 t1 t2 t3 t4 tf
  go_region_held3 (fun w' => w'.cell? ⟨w.heap.size, 0, none⟩ = some (.int .i64 n0) ∧ w'.cell? ⟨w.heap.size, 1, none⟩ = some (.int .i64 n1) ∧ w'.cell? ⟨w.heap.size, 2, none⟩ = some (.int .i64 n2) ∧ w'.cell? ⟨w.heap.size, 3, none⟩ = some (.int .i64 n3) ∧ w'.cell? ⟨w.heap.size + 1 + 1, 2, none⟩ = some (.func (.func 108) #[] #[]))
    ((refine step.offs5 (R := w.heap.size + 1) c0 c1 c2 c3 g2 (by simp) (by simp) (by simp) (by simp) (by simp) ?_; repeat (first | (with_reducible exact step.Off.refl _ _) | (with_reducible refine step.Off.drew ?_) | (with_reducible refine step.Off.setCell ?_ _ _ rfl) | (with_reducible refine step.Off.below ?_ hb3))))
    (first
      | (go_at_call 108; (with_reducible refine (firstFlipped n0 n1 n2 n3 _).mono ?_); rintro e w3 ⟨rfl, hb3⟩; have R3 := R1.out.below (below_tr (below_dr (Below.refl _ _)) hb3); obtain ⟨r0, r1, r2, r3, r4⟩ := four_cells R3; have rf : ∀ k, w3.frozen? ⟨w.heap.size + 1, k, none⟩ = false := fun k => Joins.unfrozen_of_block R3 k))
  have B3 := Lib.hid (below_tr B1.out (below_tr (below_dr (Below.refl _ _)) hb3))
  clear hb3 c0 c1 c2 c3 c4 g0 g1 g2 g3 g4 R3 R1
  go_wp2_with fail
  refine bodyPost_ret (v := .agg #[.int .i64 n2, .int .i64 n3, .int .i64 n0, .int .i64 n1]) (by simp [results, Try.results89, go_sem, r0, r1, r2, r3]) rfl ⟨rfl, ?_⟩
  repeat (refine Below.setCell ?_ (by simp <;> omega) _)
  exact B3.out

theorem flipped11 (n0 n1 n2 n3 : Int) (w : World) :
    Calls Try.prog 89 #[.agg #[.int .i64 n0, .int .i64 n1, .int .i64 n2, .int .i64 n3], .int .i64 1, .int .i64 1] w fun e w' => e = .returned (.agg #[.int .i64 n3, .int .i64 n2, .int .i64 n1, .int .i64 n0]) ∧ Below w.heap.size w w' := by
  go_enter Try.func89, Try.ntmps89
  have T0 : Hid (Blk (((w.alloc (.cells #[.int .i64 n0, .int .i64 n1, .int .i64 n2, .int .i64 n3] 64)).alloc (.cells #[.int .i64 0, .int .i64 0, .int .i64 0, .int .i64 0] 64)).alloc (.cells #[.nilFunc, .nilFunc, .nilFunc, .nilFunc] 92)) (w.heap.size + 1 + 1) 92 #[.nilFunc, .nilFunc, .nilFunc, .nilFunc]) := Lib.hid (by
    have := Blk.new ((w.alloc (.cells #[.int .i64 n0, .int .i64 n1, .int .i64 n2, .int .i64 n3] 64)).alloc (.cells #[.int .i64 0, .int .i64 0, .int .i64 0, .int .i64 0] 64)) 92 #[.nilFunc, .nilFunc, .nilFunc, .nilFunc]
    simpa using this)
  obtain ⟨t0, t1, t2, t3, t4⟩ := four_cells T0.out
  have tf : ∀ k, (((w.alloc (.cells #[.int .i64 n0, .int .i64 n1, .int .i64 n2, .int .i64 n3] 64)).alloc (.cells #[.int .i64 0, .int .i64 0, .int .i64 0, .int .i64 0] 64)).alloc (.cells #[.nilFunc, .nilFunc, .nilFunc, .nilFunc] 92)).frozen? ⟨w.heap.size + 1 + 1, k, none⟩ = false := fun k => Joins.unfrozen_of_block T0.out k
  go_wp2_with fail
  have K1 : Blk (((w.alloc (.cells #[.int .i64 n0, .int .i64 n1, .int .i64 n2, .int .i64 n3] 64)).alloc (.cells #[.int .i64 0, .int .i64 0, .int .i64 0, .int .i64 0] 64)).alloc (.cells #[.func (.func 106) #[] #[], .func (.func 107) #[] #[], .func (.func 108) #[] #[], .func (.func 109) #[] #[]] 92)) w.heap.size 64 #[.int .i64 n0, .int .i64 n1, .int .i64 n2, .int .i64 n3] := ((Blk.new w 64 #[.int .i64 n0, .int .i64 n1, .int .i64 n2, .int .i64 n3]).alloc _).alloc _
  have R1 : Hid (Blk (((w.alloc (.cells #[.int .i64 n0, .int .i64 n1, .int .i64 n2, .int .i64 n3] 64)).alloc (.cells #[.int .i64 0, .int .i64 0, .int .i64 0, .int .i64 0] 64)).alloc (.cells #[.func (.func 106) #[] #[], .func (.func 107) #[] #[], .func (.func 108) #[] #[], .func (.func 109) #[] #[]] 92)) (w.heap.size + 1) 64 #[.int .i64 0, .int .i64 0, .int .i64 0, .int .i64 0]) := Lib.hid (by
    have := (Blk.new (w.alloc (.cells #[.int .i64 n0, .int .i64 n1, .int .i64 n2, .int .i64 n3] 64)) 64 #[.int .i64 0, .int .i64 0, .int .i64 0, .int .i64 0]).alloc (.cells #[.func (.func 106) #[] #[], .func (.func 107) #[] #[], .func (.func 108) #[] #[], .func (.func 109) #[] #[]] 92)
    simpa using this)
  have T1 : Blk (((w.alloc (.cells #[.int .i64 n0, .int .i64 n1, .int .i64 n2, .int .i64 n3] 64)).alloc (.cells #[.int .i64 0, .int .i64 0, .int .i64 0, .int .i64 0] 64)).alloc (.cells #[.func (.func 106) #[] #[], .func (.func 107) #[] #[], .func (.func 108) #[] #[], .func (.func 109) #[] #[]] 92)) (w.heap.size + 1 + 1) 92 #[.func (.func 106) #[] #[], .func (.func 107) #[] #[], .func (.func 108) #[] #[], .func (.func 109) #[] #[]] := by
    have := Blk.new ((w.alloc (.cells #[.int .i64 n0, .int .i64 n1, .int .i64 n2, .int .i64 n3] 64)).alloc (.cells #[.int .i64 0, .int .i64 0, .int .i64 0, .int .i64 0] 64)) 92 #[.func (.func 106) #[] #[], .func (.func 107) #[] #[], .func (.func 108) #[] #[], .func (.func 109) #[] #[]]
    simpa using this
  have B1 : Hid (Below w.heap.size w (((w.alloc (.cells #[.int .i64 n0, .int .i64 n1, .int .i64 n2, .int .i64 n3] 64)).alloc (.cells #[.int .i64 0, .int .i64 0, .int .i64 0, .int .i64 0] 64)).alloc (.cells #[.func (.func 106) #[] #[], .func (.func 107) #[] #[], .func (.func 108) #[] #[], .func (.func 109) #[] #[]] 92))) := Lib.hid (below_al (below_al (below_al (Below.refl _ _) _) _) _)
  obtain ⟨c0, c1, c2, c3, c4⟩ := four_cells K1
  obtain ⟨g0, g1, g2, g3, g4⟩ := four_cells T1
  clear K1 T1 T0 t0 t1 t2 t3 t4 tf
  go_region_held3 (fun w' => w'.cell? ⟨w.heap.size, 0, none⟩ = some (.int .i64 n0) ∧ w'.cell? ⟨w.heap.size, 1, none⟩ = some (.int .i64 n1) ∧ w'.cell? ⟨w.heap.size, 2, none⟩ = some (.int .i64 n2) ∧ w'.cell? ⟨w.heap.size, 3, none⟩ = some (.int .i64 n3) ∧ w'.cell? ⟨w.heap.size + 1 + 1, 3, none⟩ = some (.func (.func 109) #[] #[]))
    ((refine step.offs5 (R := w.heap.size + 1) c0 c1 c2 c3 g3 (by simp) (by simp) (by simp) (by simp) (by simp) ?_; repeat (first | (with_reducible exact step.Off.refl _ _) | (with_reducible refine step.Off.drew ?_) | (with_reducible refine step.Off.setCell ?_ _ _ rfl) | (with_reducible refine step.Off.below ?_ hb3))))
    (first
      | (go_at_call 109; (with_reducible refine (bothFlipped n0 n1 n2 n3 _).mono ?_); rintro e w3 ⟨rfl, hb3⟩; have R3 := R1.out.below (below_tr (below_dr (Below.refl _ _)) hb3); obtain ⟨r0, r1, r2, r3, r4⟩ := four_cells R3; have rf : ∀ k, w3.frozen? ⟨w.heap.size + 1, k, none⟩ = false := fun k => Joins.unfrozen_of_block R3 k))
  have B3 := Lib.hid (below_tr B1.out (below_tr (below_dr (Below.refl _ _)) hb3))
  clear hb3 c0 c1 c2 c3 c4 g0 g1 g2 g3 g4 R3 R1
  go_wp2_with fail
  refine bodyPost_ret (v := .agg #[.int .i64 n3, .int .i64 n2, .int .i64 n1, .int .i64 n0]) (by simp [results, Try.results89, go_sem, r0, r1, r2, r3]) rfl ⟨rfl, ?_⟩
  repeat (refine Below.setCell ?_ (by simp <;> omega) _)
  exact B3.out

end Go.Proofs.Ytkajebhagkbcaaa.flipa
