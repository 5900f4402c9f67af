/- FlipAnswers: the forms of a row. -/
import Derived.Test.YtfkdhdiacelcjaaMake
import Derived.Test.YtfkdhdiacelcjaaPlay
import Derived.Test.YtfkdhdiacelcjaaStep
import Derived.Deep.RegionHeld3
import Derived.BigRegion
import Derived.Laws.EntriesVeiled
namespace Go.Proofs.Ytfkdhdiacelcjaa.flipa
open Go.RowKit Go.Deep Go.Proofs.Ytfkdhdiacelcjaa.base
open Go.Proofs.Ytfkdhdiacelcjaa.ints (ret_int infoInt infoInts)
open Go.Proofs.Ytfkdhdiacelcjaa.rws (total)
open Go.Proofs.Ytfkdhdiacelcjaa.val (okSizes okBox boxB boxB_yes boxB_no)
open Go.Proofs.Ytfkdhdiacelcjaa.row (nn nn_bd at_ at_lt)

theorem kept (n0 n1 n2 n3 : Int) (w : World) :
    Calls Try.prog 117 #[.agg #[.int .i64 n0, .int .i64 n1, .int .i64 n2, .int .i64 n3]] w fun e w' => e = .returned (.agg #[.int .i64 n0, .int .i64 n1, .int .i64 n2, .int .i64 n3]) ∧ Below w.heap.size w w' := by
  have R0 : Hid (Blk ((w.alloc (.cells #[.int .i64 n0, .int .i64 n1, .int .i64 n2, .int .i64 n3] 74)).alloc (.cells #[.int .i64 0, .int .i64 0, .int .i64 0, .int .i64 0] 74)) (w.heap.size + 1) 74 #[.int .i64 0, .int .i64 0, .int .i64 0, .int .i64 0]) := Lib.hid (by
    have := Blk.new (w.alloc (.cells #[.int .i64 n0, .int .i64 n1, .int .i64 n2, .int .i64 n3] 74)) 74 #[.int .i64 0, .int .i64 0, .int .i64 0, .int .i64 0]
    simpa using this)
  obtain ⟨r0, r1, r2, r3, r4⟩ := four_cells R0.out
  have rf : ∀ k, ((w.alloc (.cells #[.int .i64 n0, .int .i64 n1, .int .i64 n2, .int .i64 n3] 74)).alloc (.cells #[.int .i64 0, .int .i64 0, .int .i64 0, .int .i64 0] 74)).frozen? ⟨w.heap.size + 1, k, none⟩ = false := fun k => Joins.unfrozen_of_block R0.out k
  go_enter Try.func117, Try.ntmps117
  go_wp2_with fail
  refine bodyPost_ret (v := .agg #[.int .i64 n0, .int .i64 n1, .int .i64 n2, .int .i64 n3]) (by simp [results, Try.results117, go_sem]) rfl ⟨rfl, ?_⟩
  repeat (first | exact Below.refl _ _ | refine below_dr ?_ | refine below_al ?_ _ | refine Below.setCell ?_ (by simp <;> omega) _)

theorem secondFlipped (n0 n1 n2 n3 : Int) (w : World) :
    Calls Try.prog 118 #[.agg #[.int .i64 n0, .int .i64 n1, .int .i64 n2, .int .i64 n3]] w fun e w' => e = .returned (.agg #[.int .i64 n1, .int .i64 n0, .int .i64 n3, .int .i64 n2]) ∧ Below w.heap.size w w' := by
  have R0 : Hid (Blk ((w.alloc (.cells #[.int .i64 n0, .int .i64 n1, .int .i64 n2, .int .i64 n3] 74)).alloc (.cells #[.int .i64 0, .int .i64 0, .int .i64 0, .int .i64 0] 74)) (w.heap.size + 1) 74 #[.int .i64 0, .int .i64 0, .int .i64 0, .int .i64 0]) := Lib.hid (by
    have := Blk.new (w.alloc (.cells #[.int .i64 n0, .int .i64 n1, .int .i64 n2, .int .i64 n3] 74)) 74 #[.int .i64 0, .int .i64 0, .int .i64 0, .int .i64 0]
    simpa using this)
  obtain ⟨r0, r1, r2, r3, r4⟩ := four_cells R0.out
  have rf : ∀ k, ((w.alloc (.cells #[.int .i64 n0, .int .i64 n1, .int .i64 n2, .int .i64 n3] 74)).alloc (.cells #[.int .i64 0, .int .i64 0, .int .i64 0, .int .i64 0] 74)).frozen? ⟨w.heap.size + 1, k, none⟩ = false := fun k => Joins.unfrozen_of_block R0.out k
  go_enter Try.func118, Try.ntmps118
  go_wp2_with fail
  refine bodyPost_ret (v := .agg #[.int .i64 n1, .int .i64 n0, .int .i64 n3, .int .i64 n2]) (by simp [results, Try.results118, go_sem]) rfl ⟨rfl, ?_⟩
  repeat (first | exact Below.refl _ _ | refine below_dr ?_ | refine below_al ?_ _ | refine Below.setCell ?_ (by simp <;> omega) _)

theorem firstFlipped (n0 n1 n2 n3 : Int) (w : World) :
    Calls Try.prog 119 #[.agg #[.int .i64 n0, .int .i64 n1, .int .i64 n2, .int .i64 n3]] w fun e w' => e = .returned (.agg #[.int .i64 n2, .int .i64 n3, .int .i64 n0, .int .i64 n1]) ∧ Below w.heap.size w w' := by
  have R0 : Hid (Blk ((w.alloc (.cells #[.int .i64 n0, .int .i64 n1, .int .i64 n2, .int .i64 n3] 74)).alloc (.cells #[.int .i64 0, .int .i64 0, .int .i64 0, .int .i64 0] 74)) (w.heap.size + 1) 74 #[.int .i64 0, .int .i64 0, .int .i64 0, .int .i64 0]) := Lib.hid (by
    have := Blk.new (w.alloc (.cells #[.int .i64 n0, .int .i64 n1, .int .i64 n2, .int .i64 n3] 74)) 74 #[.int .i64 0, .int .i64 0, .int .i64 0, .int .i64 0]
    simpa using this)
  obtain ⟨r0, r1, r2, r3, r4⟩ := four_cells R0.out
  have rf : ∀ k, ((w.alloc (.cells #[.int .i64 n0, .int .i64 n1, .int .i64 n2, .int .i64 n3] 74)).alloc (.cells #[.int .i64 0, .int .i64 0, .int .i64 0, .int .i64 0] 74)).frozen? ⟨w.heap.size + 1, k, none⟩ = false := fun k => Joins.unfrozen_of_block R0.out k
  go_enter Try.func119, Try.ntmps119
  go_wp2_with fail
  refine bodyPost_ret (v := .agg #[.int .i64 n2, .int .i64 n3, .int .i64 n0, .int .i64 n1]) (by simp [results, Try.results119, go_sem]) rfl ⟨rfl, ?_⟩
  repeat (first | exact Below.refl _ _ | refine below_dr ?_ | refine below_al ?_ _ | refine Below.setCell ?_ (by simp <;> omega) _)

theorem bothFlipped (n0 n1 n2 n3 : Int) (w : World) :
    Calls Try.prog 120 #[.agg #[.int .i64 n0, .int .i64 n1, .int .i64 n2, .int .i64 n3]] w fun e w' => e = .returned (.agg #[.int .i64 n3, .int .i64 n2, .int .i64 n1, .int .i64 n0]) ∧ Below w.heap.size w w' := by
  have R0 : Hid (Blk ((w.alloc (.cells #[.int .i64 n0, .int .i64 n1, .int .i64 n2, .int .i64 n3] 74)).alloc (.cells #[.int .i64 0, .int .i64 0, .int .i64 0, .int .i64 0] 74)) (w.heap.size + 1) 74 #[.int .i64 0, .int .i64 0, .int .i64 0, .int .i64 0]) := Lib.hid (by
    have := Blk.new (w.alloc (.cells #[.int .i64 n0, .int .i64 n1, .int .i64 n2, .int .i64 n3] 74)) 74 #[.int .i64 0, .int .i64 0, .int .i64 0, .int .i64 0]
    simpa using this)
  obtain ⟨r0, r1, r2, r3, r4⟩ := four_cells R0.out
  have rf : ∀ k, ((w.alloc (.cells #[.int .i64 n0, .int .i64 n1, .int .i64 n2, .int .i64 n3] 74)).alloc (.cells #[.int .i64 0, .int .i64 0, .int .i64 0, .int .i64 0] 74)).frozen? ⟨w.heap.size + 1, k, none⟩ = false := fun k => Joins.unfrozen_of_block R0.out k
  go_enter Try.func120, Try.ntmps120
  go_wp2_with fail
  refine bodyPost_ret (v := .agg #[.int .i64 n3, .int .i64 n2, .int .i64 n1, .int .i64 n0]) (by simp [results, Try.results120, go_sem]) rfl ⟨rfl, ?_⟩
  repeat (first | exact Below.refl _ _ | refine below_dr ?_ | refine below_al ?_ _ | refine Below.setCell ?_ (by simp <;> omega) _)

theorem flipped00 (n0 n1 n2 n3 : Int) (w : World) :
    Calls Try.prog 103 #[.agg #[.int .i64 n0, .int .i64 n1, .int .i64 n2, .int .i64 n3], .int .i64 0, .int .i64 0] w fun e w' => e = .returned (.agg #[.int .i64 n0, .int .i64 n1, .int .i64 n2, .int .i64 n3]) ∧ Below w.heap.size w w' := by
  go_enter Try.func103, Try.ntmps103
  have T0 : Hid (Blk (((w.alloc (.cells #[.int .i64 n0, .int .i64 n1, .int .i64 n2, .int .i64 n3] 74)).alloc (.cells #[.int .i64 0, .int .i64 0, .int .i64 0, .int .i64 0] 74)).alloc (.cells #[.nilFunc, .nilFunc, .nilFunc, .nilFunc] 107)) (w.heap.size + 1 + 1) 107 #[.nilFunc, .nilFunc, .nilFunc, .nilFunc]) := Lib.hid (by
    have := Blk.new ((w.alloc (.cells #[.int .i64 n0, .int .i64 n1, .int .i64 n2, .int .i64 n3] 74)).alloc (.cells #[.int .i64 0, .int .i64 0, .int .i64 0, .int .i64 0] 74)) 107 #[.nilFunc, .nilFunc, .nilFunc, .nilFunc]
    simpa using this)
  obtain ⟨t0, t1, t2, t3, t4⟩ := four_cells T0.out
  have tf : ∀ k, (((w.alloc (.cells #[.int .i64 n0, .int .i64 n1, .int .i64 n2, .int .i64 n3] 74)).alloc (.cells #[.int .i64 0, .int .i64 0, .int .i64 0, .int .i64 0] 74)).alloc (.cells #[.nilFunc, .nilFunc, .nilFunc, .nilFunc] 107)).frozen? ⟨w.heap.size + 1 + 1, k, none⟩ = false := fun k => Joins.unfrozen_of_block T0.out k
  go_wp2_with fail
  have K1 : Blk (((w.alloc (.cells #[.int .i64 n0, .int .i64 n1, .int .i64 n2, .int .i64 n3] 74)).alloc (.cells #[.int .i64 0, .int .i64 0, .int .i64 0, .int .i64 0] 74)).alloc (.cells #[.func (.func 117) #[] #[], .func (.func 118) #[] #[], .func (.func 119) #[] #[], .func (.func 120) #[] #[]] 107)) w.heap.size 74 #[.int .i64 n0, .int .i64 n1, .int .i64 n2, .int .i64 n3] := ((Blk.new w 74 #[.int .i64 n0, .int .i64 n1, .int .i64 n2, .int .i64 n3]).alloc _).alloc _
  have R1 : Hid (Blk (((w.alloc (.cells #[.int .i64 n0, .int .i64 n1, .int .i64 n2, .int .i64 n3] 74)).alloc (.cells #[.int .i64 0, .int .i64 0, .int .i64 0, .int .i64 0] 74)).alloc (.cells #[.func (.func 117) #[] #[], .func (.func 118) #[] #[], .func (.func 119) #[] #[], .func (.func 120) #[] #[]] 107)) (w.heap.size + 1) 74 #[.int .i64 0, .int .i64 0, .int .i64 0, .int .i64 0]) := Lib.hid (by
    have := (Blk.new (w.alloc (.cells #[.int .i64 n0, .int .i64 n1, .int .i64 n2, .int .i64 n3] 74)) 74 #[.int .i64 0, .int .i64 0, .int .i64 0, .int .i64 0]).alloc (.cells #[.func (.func 117) #[] #[], .func (.func 118) #[] #[], .func (.func 119) #[] #[], .func (.func 120) #[] #[]] 107)
    simpa using this)
  have T1 : Blk (((w.alloc (.cells #[.int .i64 n0, .int .i64 n1, .int .i64 n2, .int .i64 n3] 74)).alloc (.cells #[.int .i64 0, .int .i64 0, .int .i64 0, .int .i64 0] 74)).alloc (.cells #[.func (.func 117) #[] #[], .func (.func 118) #[] #[], .func (.func 119) #[] #[], .func (.func 120) #[] #[]] 107)) (w.heap.size + 1 + 1) 107 #[.func (.func 117) #[] #[], .func (.func 118) #[] #[], .func (.func 119) #[] #[], .func (.func 120) #[] #[]] := by
    have := Blk.new ((w.alloc (.cells #[.int .i64 n0, .int .i64 n1, .int .i64 n2, .int .i64 n3] 74)).alloc (.cells #[.int .i64 0, .int .i64 0, .int .i64 0, .int .i64 0] 74)) 107 #[.func (.func 117) #[] #[], .func (.func 118) #[] #[], .func (.func 119) #[] #[], .func (.func 120) #[] #[]]
    simpa using this
  have B1 : Hid (Below w.heap.size w (((w.alloc (.cells #[.int .i64 n0, .int .i64 n1, .int .i64 n2, .int .i64 n3] 74)).alloc (.cells #[.int .i64 0, .int .i64 0, .int .i64 0, .int .i64 0] 74)).alloc (.cells #[.func (.func 117) #[] #[], .func (.func 118) #[] #[], .func (.func 119) #[] #[], .func (.func 120) #[] #[]] 107))) := Lib.hid (below_al (below_al (below_al (Below.refl _ _) _) _) _)
  obtain ⟨c0, c1, c2, c3, c4⟩ := four_cells K1
  obtain ⟨g0, g1, g2, g3, g4⟩ := four_cells T1
  clear K1 T1 T0 t0 t1 t2 t3 t4 tf
  go_region_held3 (fun w' => w'.cell? ⟨w.heap.size, 0, none⟩ = some (.int .i64 n0) ∧ w'.cell? ⟨w.heap.size, 1, none⟩ = some (.int .i64 n1) ∧ w'.cell? ⟨w.heap.size, 2, none⟩ = some (.int .i64 n2) ∧ w'.cell? ⟨w.heap.size, 3, none⟩ = some (.int .i64 n3) ∧ w'.cell? ⟨w.heap.size + 1 + 1, 0, none⟩ = some (.func (.func 117) #[] #[]))
    ((refine step.offs5 (R := w.heap.size + 1) c0 c1 c2 c3 g0 (by simp) (by simp) (by simp) (by simp) (by simp) ?_; repeat (first | (with_reducible exact step.Off.refl _ _) | (with_reducible refine step.Off.drew ?_) | (with_reducible refine step.Off.setCell ?_ _ _ rfl) | (with_reducible refine step.Off.below ?_ hb3))))
    (first
      | (go_at_call 117; (with_reducible refine (kept n0 n1 n2 n3 _).mono ?_); rintro e w3 ⟨rfl, hb3⟩; have R3 := R1.out.below (below_tr (below_dr (Below.refl _ _)) hb3); obtain ⟨r0, r1, r2, r3, r4⟩ := four_cells R3; have rf : ∀ k, w3.frozen? ⟨w.heap.size + 1, k, none⟩ = false := fun k => Joins.unfrozen_of_block R3 k))
  have B3 := Lib.hid (below_tr B1.out (below_tr (below_dr (Below.refl _ _)) hb3))
  clear hb3 c0 c1 c2 c3 c4 g0 g1 g2 g3 g4 R3 R1
  go_wp2_with fail
  refine bodyPost_ret (v := .agg #[.int .i64 n0, .int .i64 n1, .int .i64 n2, .int .i64 n3]) (by simp [results, Try.results103, go_sem, r0, r1, r2, r3]) rfl ⟨rfl, ?_⟩
  repeat (refine Below.setCell ?_ (by simp <;> omega) _)
  exact B3.out

theorem flipped01 (n0 n1 n2 n3 : Int) (w : World) :
    Calls Try.prog 103 #[.agg #[.int .i64 n0, .int .i64 n1, .int .i64 n2, .int .i64 n3], .int .i64 0, .int .i64 1] w fun e w' => e = .returned (.agg #[.int .i64 n1, .int .i64 n0, .int .i64 n3, .int .i64 n2]) ∧ Below w.heap.size w w' := by
  go_enter Try.func103, Try.ntmps103
  have T0 : Hid (Blk (((w.alloc (.cells #[.int .i64 n0, .int .i64 n1, .int .i64 n2, .int .i64 n3] 74)).alloc (.cells #[.int .i64 0, .int .i64 0, .int .i64 0, .int .i64 0] 74)).alloc (.cells #[.nilFunc, .nilFunc, .nilFunc, .nilFunc] 107)) (w.heap.size + 1 + 1) 107 #[.nilFunc, .nilFunc, .nilFunc, .nilFunc]) := Lib.hid (by
    have := Blk.new ((w.alloc (.cells #[.int .i64 n0, .int .i64 n1, .int .i64 n2, .int .i64 n3] 74)).alloc (.cells #[.int .i64 0, .int .i64 0, .int .i64 0, .int .i64 0] 74)) 107 #[.nilFunc, .nilFunc, .nilFunc, .nilFunc]
    simpa using this)
  obtain ⟨t0, t1, t2, t3, t4⟩ := four_cells T0.out
  have tf : ∀ k, (((w.alloc (.cells #[.int .i64 n0, .int .i64 n1, .int .i64 n2, .int .i64 n3] 74)).alloc (.cells #[.int .i64 0, .int .i64 0, .int .i64 0, .int .i64 0] 74)).alloc (.cells #[.nilFunc, .nilFunc, .nilFunc, .nilFunc] 107)).frozen? ⟨w.heap.size + 1 + 1, k, none⟩ = false := fun k => Joins.unfrozen_of_block T0.out k
  go_wp2_with fail
  have K1 : Blk (((w.alloc (.cells #[.int .i64 n0, .int .i64 n1, .int .i64 n2, .int .i64 n3] 74)).alloc (.cells #[.int .i64 0, .int .i64 0, .int .i64 0, .int .i64 0] 74)).alloc (.cells #[.func (.func 117) #[] #[], .func (.func 118) #[] #[], .func (.func 119) #[] #[], .func (.func 120) #[] #[]] 107)) w.heap.size 74 #[.int .i64 n0, .int .i64 n1, .int .i64 n2, .int .i64 n3] := ((Blk.new w 74 #[.int .i64 n0, .int .i64 n1, .int .i64 n2, .int .i64 n3]).alloc _).alloc _
  have R1 : Hid (Blk (((w.alloc (.cells #[.int .i64 n0, .int .i64 n1, .int .i64 n2, .int .i64 n3] 74)).alloc (.cells #[.int .i64 0, .int .i64 0, .int .i64 0, .int .i64 0] 74)).alloc (.cells #[.func (.func 117) #[] #[], .func (.func 118) #[] #[], .func (.func 119) #[] #[], .func (.func 120) #[] #[]] 107)) (w.heap.size + 1) 74 #[.int .i64 0, .int .i64 0, .int .i64 0, .int .i64 0]) := Lib.hid (by
    have := (Blk.new (w.alloc (.cells #[.int .i64 n0, .int .i64 n1, .int .i64 n2, .int .i64 n3] 74)) 74 #[.int .i64 0, .int .i64 0, .int .i64 0, .int .i64 0]).alloc (.cells #[.func (.func 117) #[] #[], .func (.func 118) #[] #[], .func (.func 119) #[] #[], .func (.func 120) #[] #[]] 107)
    simpa using this)
  have T1 : Blk (((w.alloc (.cells #[.int .i64 n0, .int .i64 n1, .int .i64 n2, .int .i64 n3] 74)).alloc (.cells #[.int .i64 0, .int .i64 0, .int .i64 0, .int .i64 0] 74)).alloc (.cells #[.func (.func 117) #[] #[], .func (.func 118) #[] #[], .func (.func 119) #[] #[], .func (.func 120) #[] #[]] 107)) (w.heap.size + 1 + 1) 107 #[.func (.func 117) #[] #[], .func (.func 118) #[] #[], .func (.func 119) #[] #[], .func (.func 120) #[] #[]] := by
    have := Blk.new ((w.alloc (.cells #[.int .i64 n0, .int .i64 n1, .int .i64 n2, .int .i64 n3] 74)).alloc (.cells #[.int .i64 0, .int .i64 0, .int .i64 0, .int .i64 0] 74)) 107 #[.func (.func 117) #[] #[], .func (.func 118) #[] #[], .func (.func 119) #[] #[], .func (.func 120) #[] #[]]
    simpa using this
  have B1 : Hid (Below w.heap.size w (((w.alloc (.cells #[.int .i64 n0, .int .i64 n1, .int .i64 n2, .int .i64 n3] 74)).alloc (.cells #[.int .i64 0, .int .i64 0, .int .i64 0, .int .i64 0] 74)).alloc (.cells #[.func (.func 117) #[] #[], .func (.func 118) #[] #[], .func (.func 119) #[] #[], .func (.func 120) #[] #[]] 107))) := Lib.hid (below_al (below_al (below_al (Below.refl _ _) _) _) _)
  obtain ⟨c0, c1, c2, c3, c4⟩ := four_cells K1
  obtain ⟨g0, g1, g2, g3, g4⟩ := four_cells T1
  clear K1 T1 T0 t0 t1 t2 t3 t4 tf
  go_region_held3 (fun w' => w'.cell? ⟨w.heap.size, 0, none⟩ = some (.int .i64 n0) ∧ w'.cell? ⟨w.heap.size, 1, none⟩ = some (.int .i64 n1) ∧ w'.cell? ⟨w.heap.size, 2, none⟩ = some (.int .i64 n2) ∧ w'.cell? ⟨w.heap.size, 3, none⟩ = some (.int .i64 n3) ∧ w'.cell? ⟨w.heap.size + 1 + 1, 1, none⟩ = some (.func (.func 118) #[] #[]))
    ((refine step.offs5 (R := w.heap.size + 1) c0 c1 c2 c3 g1 (by simp) (by simp) (by simp) (by simp) (by simp) ?_; repeat (first | (with_reducible exact step.Off.refl _ _) | (with_reducible refine step.Off.drew ?_) | (with_reducible refine step.Off.setCell ?_ _ _ rfl) | (with_reducible refine step.Off.below ?_ hb3))))
    (first
      | (go_at_call 118; (with_reducible refine (secondFlipped n0 n1 n2 n3 _).mono ?_); rintro e w3 ⟨rfl, hb3⟩; have R3 := R1.out.below (below_tr (below_dr (Below.refl _ _)) hb3); obtain ⟨r0, r1, r2, r3, r4⟩ := four_cells R3; have rf : ∀ k, w3.frozen? ⟨w.heap.size + 1, k, none⟩ = false := fun k => Joins.unfrozen_of_block R3 k))
  have B3 := Lib.hid (below_tr B1.out (below_tr (below_dr (Below.refl _ _)) hb3))
  clear hb3 c0 c1 c2 c3 c4 g0 g1 g2 g3 g4 R3 R1
  go_wp2_with fail
  refine bodyPost_ret (v := .agg #[.int .i64 n1, .int .i64 n0, .int .i64 n3, .int .i64 n2]) (by simp [results, Try.results103, go_sem, r0, r1, r2, r3]) rfl ⟨rfl, ?_⟩
  repeat (refine Below.setCell ?_ (by simp <;> omega) _)
  exact B3.out

theorem flipped10 (n0 n1 n2 n3 : Int) (w : World) :
    Calls Try.prog 103 #[.agg #[.int .i64 n0, .int .i64 n1, .int .i64 n2, .int .i64 n3], .int .i64 1, .int .i64 0] w fun e w' => e = .returned (.agg #[.int .i64 n2, .int .i64 n3, .int .i64 n0, .int .i64 n1]) ∧ Below w.heap.size w w' := by
  go_enter Try.func103, Try.ntmps103
  have T0 : Hid (Blk (((w.alloc (.cells #[.int .i64 n0, .int .i64 n1, .int .i64 n2, .int .i64 n3] 74)).alloc (.cells #[.int .i64 0, .int .i64 0, .int .i64 0, .int .i64 0] 74)).alloc (.cells #[.nilFunc, .nilFunc, .nilFunc, .nilFunc] 107)) (w.heap.size + 1 + 1) 107 #[.nilFunc, .nilFunc, .nilFunc, .nilFunc]) := Lib.hid (by
    have := Blk.new ((w.alloc (.cells #[.int .i64 n0, .int .i64 n1, .int .i64 n2, .int .i64 n3] 74)).alloc (.cells #[.int .i64 0, .int .i64 0, .int .i64 0, .int .i64 0] 74)) 107 #[.nilFunc, .nilFunc, .nilFunc, .nilFunc]
    simpa using this)
  obtain ⟨t0, t1, t2, t3, t4⟩ := four_cells T0.out
  have tf : ∀ k, (((w.alloc (.cells #[.int .i64 n0, .int .i64 n1, .int .i64 n2, .int .i64 n3] 74)).alloc (.cells #[.int .i64 0, .int .i64 0, .int .i64 0, .int .i64 0] 74)).alloc (.cells #[.nilFunc, .nilFunc, .nilFunc, .nilFunc] 107)).frozen? ⟨w.heap.size + 1 + 1, k, none⟩ = false := fun k => Joins.unfrozen_of_block T0.out k
  go_wp2_with fail
  have K1 : Blk (((w.alloc (.cells #[.int .i64 n0, .int .i64 n1, .int .i64 n2, .int .i64 n3] 74)).alloc (.cells #[.int .i64 0, .int .i64 0, .int .i64 0, .int .i64 0] 74)).alloc (.cells #[.func (.func 117) #[] #[], .func (.func 118) #[] #[], .func (.func 119) #[] #[], .func (.func 120) #[] #[]] 107)) w.heap.size 74 #[.int .i64 n0, .int .i64 n1, .int .i64 n2, .int .i64 n3] := ((Blk.new w 74 #[.int .i64 n0, .int .i64 n1, .int .i64 n2, .int .i64 n3]).alloc _).alloc _
  have R1 : Hid (Blk (((w.alloc (.cells #[.int .i64 n0, .int .i64 n1, .int .i64 n2, .int .i64 n3] 74)).alloc (.cells #[.int .i64 0, .int .i64 0, .int .i64 0, .int .i64 0] 74)).alloc (.cells #[.func (.func 117) #[] #[], .func (.func 118) #[] #[], .func (.func 119) #[] #[], .func (.func 120) #[] #[]] 107)) (w.heap.size + 1) 74 #[.int .i64 0, .int .i64 0, .int .i64 0, .int .i64 0]) := Lib.hid (by
    have := (Blk.new (w.alloc (.cells #[.int .i64 n0, .int .i64 n1, .int .i64 n2, .int .i64 n3] 74)) 74 #[.int .i64 0, .int .i64 0, .int .i64 0, .int .i64 0]).alloc (.cells #[.func (.func 117) #[] #[], .func (.func 118) #[] #[], .func (.func 119) #[] #[], .func (.func 120) #[] #[]] 107)
    simpa using this)
  have T1 : Blk (((w.alloc (.cells #[.int .i64 n0, .int .i64 n1, .int .i64 n2, .int .i64 n3] 74)).alloc (.cells #[.int .i64 0, .int .i64 0, .int .i64 0, .int .i64 0] 74)).alloc (.cells #[.func (.func 117) #[] #[], .func (.func 118) #[] #[], .func (.func 119) #[] #[], .func (.func 120) #[] #[]] 107)) (w.heap.size + 1 + 1) 107 #[.func (.func 117) #[] #[], .func (.func 118) #[] #[], .func (.func 119) #[] #[], .func (.func 120) #[] #[]] := by
    have := Blk.new ((w.alloc (.cells #[.int .i64 n0, .int .i64 n1, .int .i64 n2, .int .i64 n3] 74)).alloc (.cells #[.int .i64 0, .int .i64 0, .int .i64 0, .int .i64 0] 74)) 107 #[.func (.func 117) #[] #[], .func (.func 118) #[] #[], .func (.func 119) #[] #[], .func (.func 120) #[] #[]]
    simpa using this
  have B1 : Hid (Below w.heap.size w (((w.alloc (.cells #[.int .i64 n0, .int .i64 n1, .int .i64 n2, .int .i64 n3] 74)).alloc (.cells #[.int .i64 0, .int .i64 0, .int .i64 0, .int .i64 0] 74)).alloc (.cells #[.func (.func 117) #[] #[], .func (.func 118) #[] #[], .func (.func 119) #[] #[], .func (.func 120) #[] #[]] 107))) := Lib.hid (below_al (below_al (below_al (Below.refl _ _) _) _) _)
  obtain ⟨c0, c1, c2, c3, c4⟩ := four_cells K1
  obtain ⟨g0, g1, g2, g3, g4⟩ := four_cells T1
  clear K1 T1 T0 t0 t1 t2 t3 t4 tf
  go_region_held3 (fun w' => w'.cell? ⟨w.heap.size, 0, none⟩ = some (.int .i64 n0) ∧ w'.cell? ⟨w.heap.size, 1, none⟩ = some (.int .i64 n1) ∧ w'.cell? ⟨w.heap.size, 2, none⟩ = some (.int .i64 n2) ∧ w'.cell? ⟨w.heap.size, 3, none⟩ = some (.int .i64 n3) ∧ w'.cell? ⟨w.heap.size + 1 + 1, 2, none⟩ = some (.func (.func 119) #[] #[]))
    ((refine step.offs5 (R := w.heap.size + 1) c0 c1 c2 c3 g2 (by simp) (by simp) (by simp) (by simp) (by simp) ?_; repeat (first | (with_reducible exact step.Off.refl _ _) | (with_reducible refine step.Off.drew ?_) | (with_reducible refine step.Off.setCell ?_ _ _ rfl) | (with_reducible refine step.Off.below ?_ hb3))))
    (first
      | (go_at_call 119; (with_reducible refine (firstFlipped n0 n1 n2 n3 _).mono ?_); rintro e w3 ⟨rfl, hb3⟩; have R3 := R1.out.below (below_tr (below_dr (Below.refl _ _)) hb3); obtain ⟨r0, r1, r2, r3, r4⟩ := four_cells R3; have rf : ∀ k, w3.frozen? ⟨w.heap.size + 1, k, none⟩ = false := fun k => Joins.unfrozen_of_block R3 k))
  have B3 := Lib.hid (below_tr B1.out (below_tr (below_dr (Below.refl _ _)) hb3))
  clear hb3 c0 c1 c2 c3 c4 g0 g1 g2 g3 g4 R3 R1
  go_wp2_with fail
  refine bodyPost_ret (v := .agg #[.int .i64 n2, .int .i64 n3, .int .i64 n0, .int .i64 n1]) (by simp [results, Try.results103, go_sem, r0, r1, r2, r3]) rfl ⟨rfl, ?_⟩
  repeat (refine Below.setCell ?_ (by simp <;> omega) _)
  exact B3.out

theorem flipped11 (n0 n1 n2 n3 : Int) (w : World) :
    Calls Try.prog 103 #[.agg #[.int .i64 n0, .int .i64 n1, .int .i64 n2, .int .i64 n3], .int .i64 1, .int .i64 1] w fun e w' => e = .returned (.agg #[.int .i64 n3, .int .i64 n2, .int .i64 n1, .int .i64 n0]) ∧ Below w.heap.size w w' := by
  go_enter Try.func103, Try.ntmps103
  have T0 : Hid (Blk (((w.alloc (.cells #[.int .i64 n0, .int .i64 n1, .int .i64 n2, .int .i64 n3] 74)).alloc (.cells #[.int .i64 0, .int .i64 0, .int .i64 0, .int .i64 0] 74)).alloc (.cells #[.nilFunc, .nilFunc, .nilFunc, .nilFunc] 107)) (w.heap.size + 1 + 1) 107 #[.nilFunc, .nilFunc, .nilFunc, .nilFunc]) := Lib.hid (by
    have := Blk.new ((w.alloc (.cells #[.int .i64 n0, .int .i64 n1, .int .i64 n2, .int .i64 n3] 74)).alloc (.cells #[.int .i64 0, .int .i64 0, .int .i64 0, .int .i64 0] 74)) 107 #[.nilFunc, .nilFunc, .nilFunc, .nilFunc]
    simpa using this)
  obtain ⟨t0, t1, t2, t3, t4⟩ := four_cells T0.out
  have tf : ∀ k, (((w.alloc (.cells #[.int .i64 n0, .int .i64 n1, .int .i64 n2, .int .i64 n3] 74)).alloc (.cells #[.int .i64 0, .int .i64 0, .int .i64 0, .int .i64 0] 74)).alloc (.cells #[.nilFunc, .nilFunc, .nilFunc, .nilFunc] 107)).frozen? ⟨w.heap.size + 1 + 1, k, none⟩ = false := fun k => Joins.unfrozen_of_block T0.out k
  go_wp2_with fail
  have K1 : Blk (((w.alloc (.cells #[.int .i64 n0, .int .i64 n1, .int .i64 n2, .int .i64 n3] 74)).alloc (.cells #[.int .i64 0, .int .i64 0, .int .i64 0, .int .i64 0] 74)).alloc (.cells #[.func (.func 117) #[] #[], .func (.func 118) #[] #[], .func (.func 119) #[] #[], .func (.func 120) #[] #[]] 107)) w.heap.size 74 #[.int .i64 n0, .int .i64 n1, .int .i64 n2, .int .i64 n3] := ((Blk.new w 74 #[.int .i64 n0, .int .i64 n1, .int .i64 n2, .int .i64 n3]).alloc _).alloc _
  have R1 : Hid (Blk (((w.alloc (.cells #[.int .i64 n0, .int .i64 n1, .int .i64 n2, .int .i64 n3] 74)).alloc (.cells #[.int .i64 0, .int .i64 0, .int .i64 0, .int .i64 0] 74)).alloc (.cells #[.func (.func 117) #[] #[], .func (.func 118) #[] #[], .func (.func 119) #[] #[], .func (.func 120) #[] #[]] 107)) (w.heap.size + 1) 74 #[.int .i64 0, .int .i64 0, .int .i64 0, .int .i64 0]) := Lib.hid (by
    have := (Blk.new (w.alloc (.cells #[.int .i64 n0, .int .i64 n1, .int .i64 n2, .int .i64 n3] 74)) 74 #[.int .i64 0, .int .i64 0, .int .i64 0, .int .i64 0]).alloc (.cells #[.func (.func 117) #[] #[], .func (.func 118) #[] #[], .func (.func 119) #[] #[], .func (.func 120) #[] #[]] 107)
    simpa using this)
  have T1 : Blk (((w.alloc (.cells #[.int .i64 n0, .int .i64 n1, .int .i64 n2, .int .i64 n3] 74)).alloc (.cells #[.int .i64 0, .int .i64 0, .int .i64 0, .int .i64 0] 74)).alloc (.cells #[.func (.func 117) #[] #[], .func (.func 118) #[] #[], .func (.func 119) #[] #[], .func (.func 120) #[] #[]] 107)) (w.heap.size + 1 + 1) 107 #[.func (.func 117) #[] #[], .func (.func 118) #[] #[], .func (.func 119) #[] #[], .func (.func 120) #[] #[]] := by
    have := Blk.new ((w.alloc (.cells #[.int .i64 n0, .int .i64 n1, .int .i64 n2, .int .i64 n3] 74)).alloc (.cells #[.int .i64 0, .int .i64 0, .int .i64 0, .int .i64 0] 74)) 107 #[.func (.func 117) #[] #[], .func (.func 118) #[] #[], .func (.func 119) #[] #[], .func (.func 120) #[] #[]]
    simpa using this
  have B1 : Hid (Below w.heap.size w (((w.alloc (.cells #[.int .i64 n0, .int .i64 n1, .int .i64 n2, .int .i64 n3] 74)).alloc (.cells #[.int .i64 0, .int .i64 0, .int .i64 0, .int .i64 0] 74)).alloc (.cells #[.func (.func 117) #[] #[], .func (.func 118) #[] #[], .func (.func 119) #[] #[], .func (.func 120) #[] #[]] 107))) := Lib.hid (below_al (below_al (below_al (Below.refl _ _) _) _) _)
  obtain ⟨c0, c1, c2, c3, c4⟩ := four_cells K1
  obtain ⟨g0, g1, g2, g3, g4⟩ := four_cells T1
  clear K1 T1 T0 t0 t1 t2 t3 t4 tf
  go_region_held3 (fun w' => w'.cell? ⟨w.heap.size, 0, none⟩ = some (.int .i64 n0) ∧ w'.cell? ⟨w.heap.size, 1, none⟩ = some (.int .i64 n1) ∧ w'.cell? ⟨w.heap.size, 2, none⟩ = some (.int .i64 n2) ∧ w'.cell? ⟨w.heap.size, 3, none⟩ = some (.int .i64 n3) ∧ w'.cell? ⟨w.heap.size + 1 + 1, 3, none⟩ = some (.func (.func 120) #[] #[]))
    ((refine step.offs5 (R := w.heap.size + 1) c0 c1 c2 c3 g3 (by simp) (by simp) (by simp) (by simp) (by simp) ?_; repeat (first | (with_reducible exact step.Off.refl _ _) | (with_reducible refine step.Off.drew ?_) | (with_reducible refine step.Off.setCell ?_ _ _ rfl) | (with_reducible refine step.Off.below ?_ hb3))))
    (first
      | (go_at_call 120; (with_reducible refine (bothFlipped n0 n1 n2 n3 _).mono ?_); rintro e w3 ⟨rfl, hb3⟩; have R3 := R1.out.below (below_tr (below_dr (Below.refl _ _)) hb3); obtain ⟨r0, r1, r2, r3, r4⟩ := four_cells R3; have rf : ∀ k, w3.frozen? ⟨w.heap.size + 1, k, none⟩ = false := fun k => Joins.unfrozen_of_block R3 k))
  have B3 := Lib.hid (below_tr B1.out (below_tr (below_dr (Below.refl _ _)) hb3))
  clear hb3 c0 c1 c2 c3 c4 g0 g1 g2 g3 g4 R3 R1
  go_wp2_with fail
  refine bodyPost_ret (v := .agg #[.int .i64 n3, .int .i64 n2, .int .i64 n1, .int .i64 n0]) (by simp [results, Try.results103, go_sem, r0, r1, r2, r3]) rfl ⟨rfl, ?_⟩
  repeat (refine Below.setCell ?_ (by simp <;> omega) _)
  exact B3.out

end Go.Proofs.Ytfkdhdiacelcjaa.flipa
