/- FlipAnswers: the forms of a row. -/
import Derived.Test.YtlaaiahkdkhehaaMake
import Derived.Test.YtlaaiahkdkhehaaPlay
import Derived.Test.YtlaaiahkdkhehaaStep
import Derived.Deep.RegionHeld3
import Derived.BigRegion
import Derived.Laws.EntriesVeiled
namespace Go.Proofs.Ytlaaiahkdkhehaa.flipa
open Go.RowKit Go.Deep Go.Proofs.Ytlaaiahkdkhehaa.base
open Go.Proofs.Ytlaaiahkdkhehaa.ints (ret_int infoInt infoInts)
open Go.Proofs.Ytlaaiahkdkhehaa.rws (total)
open Go.Proofs.Ytlaaiahkdkhehaa.val (okSizes okBox boxB boxB_yes boxB_no)
open Go.Proofs.Ytlaaiahkdkhehaa.row (nn nn_bd at_ at_lt)

theorem kept (n0 n1 n2 n3 : Int) (w : World) :
    Calls Try.prog 147 #[.agg #[.int .i64 n0, .int .i64 n1, .int .i64 n2, .int .i64 n3]] w fun e w' => e = .returned (.agg #[.int .i64 n0, .int .i64 n1, .int .i64 n2, .int .i64 n3]) ∧ Below w.heap.size w w' := by
  have R0 : Hid (Blk ((w.alloc (.cells #[.int .i64 n0, .int .i64 n1, .int .i64 n2, .int .i64 n3] 65)).alloc (.cells #[.int .i64 0, .int .i64 0, .int .i64 0, .int .i64 0] 65)) (w.heap.size + 1) 65 #[.int .i64 0, .int .i64 0, .int .i64 0, .int .i64 0]) := Lib.hid (by
    have := Blk.new (w.alloc (.cells #[.int .i64 n0, .int .i64 n1, .int .i64 n2, .int .i64 n3] 65)) 65 #[.int .i64 0, .int .i64 0, .int .i64 0, .int .i64 0]
    simpa using this)
  obtain ⟨r0, r1, r2, r3, r4⟩ := four_cells R0.out
  have rf : ∀ k, ((w.alloc (.cells #[.int .i64 n0, .int .i64 n1, .int .i64 n2, .int .i64 n3] 65)).alloc (.cells #[.int .i64 0, .int .i64 0, .int .i64 0, .int .i64 0] 65)).frozen? ⟨w.heap.size + 1, k, none⟩ = false := fun k => Joins.unfrozen_of_block R0.out k
  go_enter Try.func147, Try.ntmps147
  go_wp2_with fail
  refine bodyPost_ret (v := .agg #[.int .i64 n0, .int .i64 n1, .int .i64 n2, .int .i64 n3]) (by simp [results, Try.results147, go_sem]) rfl ⟨rfl, ?_⟩
  repeat (first | exact Below.refl _ _ | refine below_dr ?_ | refine below_al ?_ _ | refine Below.setCell ?_ (by simp <;> omega) _)

theorem secondFlipped (n0 n1 n2 n3 : Int) (w : World) :
    Calls Try.prog 148 #[.agg #[.int .i64 n0, .int .i64 n1, .int .i64 n2, .int .i64 n3]] w fun e w' => e = .returned (.agg #[.int .i64 n1, .int .i64 n0, .int .i64 n3, .int .i64 n2]) ∧ Below w.heap.size w w' := by
  have R0 : Hid (Blk ((w.alloc (.cells #[.int .i64 n0, .int .i64 n1, .int .i64 n2, .int .i64 n3] 65)).alloc (.cells #[.int .i64 0, .int .i64 0, .int .i64 0, .int .i64 0] 65)) (w.heap.size + 1) 65 #[.int .i64 0, .int .i64 0, .int .i64 0, .int .i64 0]) := Lib.hid (by
    have := Blk.new (w.alloc (.cells #[.int .i64 n0, .int .i64 n1, .int .i64 n2, .int .i64 n3] 65)) 65 #[.int .i64 0, .int .i64 0, .int .i64 0, .int .i64 0]
    simpa using this)
  obtain ⟨r0, r1, r2, r3, r4⟩ := four_cells R0.out
  have rf : ∀ k, ((w.alloc (.cells #[.int .i64 n0, .int .i64 n1, .int .i64 n2, .int .i64 n3] 65)).alloc (.cells #[.int .i64 0, .int .i64 0, .int .i64 0, .int .i64 0] 65)).frozen? ⟨w.heap.size + 1, k, none⟩ = false := fun k => Joins.unfrozen_of_block R0.out k
  go_enter Try.func148, Try.ntmps148
  go_wp2_with fail
  refine bodyPost_ret (v := .agg #[.int .i64 n1, .int .i64 n0, .int .i64 n3, .int .i64 n2]) (by simp [results, Try.results148, go_sem]) rfl ⟨rfl, ?_⟩
  repeat (first | exact Below.refl _ _ | refine below_dr ?_ | refine below_al ?_ _ | refine Below.setCell ?_ (by simp <;> omega) _)

theorem firstFlipped (n0 n1 n2 n3 : Int) (w : World) :
    Calls Try.prog 149 #[.agg #[.int .i64 n0, .int .i64 n1, .int .i64 n2, .int .i64 n3]] w fun e w' => e = .returned (.agg #[.int .i64 n2, .int .i64 n3, .int .i64 n0, .int .i64 n1]) ∧ Below w.heap.size w w' := by
  have R0 : Hid (Blk ((w.alloc (.cells #[.int .i64 n0, .int .i64 n1, .int .i64 n2, .int .i64 n3] 65)).alloc (.cells #[.int .i64 0, .int .i64 0, .int .i64 0, .int .i64 0] 65)) (w.heap.size + 1) 65 #[.int .i64 0, .int .i64 0, .int .i64 0, .int .i64 0]) := Lib.hid (by
    have := Blk.new (w.alloc (.cells #[.int .i64 n0, .int .i64 n1, .int .i64 n2, .int .i64 n3] 65)) 65 #[.int .i64 0, .int .i64 0, .int .i64 0, .int .i64 0]
    simpa using this)
  obtain ⟨r0, r1, r2, r3, r4⟩ := four_cells R0.out
  have rf : ∀ k, ((w.alloc (.cells #[.int .i64 n0, .int .i64 n1, .int .i64 n2, .int .i64 n3] 65)).alloc (.cells #[.int .i64 0, .int .i64 0, .int .i64 0, .int .i64 0] 65)).frozen? ⟨w.heap.size + 1, k, none⟩ = false := fun k => Joins.unfrozen_of_block R0.out k
  go_enter Try.func149, Try.ntmps149
  go_wp2_with fail
  refine bodyPost_ret (v := .agg #[.int .i64 n2, .int .i64 n3, .int .i64 n0, .int .i64 n1]) (by simp [results, Try.results149, go_sem]) rfl ⟨rfl, ?_⟩
  repeat (first | exact Below.refl _ _ | refine below_dr ?_ | refine below_al ?_ _ | refine Below.setCell ?_ (by simp <;> omega) _)

theorem bothFlipped (n0 n1 n2 n3 : Int) (w : World) :
    Calls Try.prog 150 #[.agg #[.int .i64 n0, .int .i64 n1, .int .i64 n2, .int .i64 n3]] w fun e w' => e = .returned (.agg #[.int .i64 n3, .int .i64 n2, .int .i64 n1, .int .i64 n0]) ∧ Below w.heap.size w w' := by
  have R0 : Hid (Blk ((w.alloc (.cells #[.int .i64 n0, .int .i64 n1, .int .i64 n2, .int .i64 n3] 65)).alloc (.cells #[.int .i64 0, .int .i64 0, .int .i64 0, .int .i64 0] 65)) (w.heap.size + 1) 65 #[.int .i64 0, .int .i64 0, .int .i64 0, .int .i64 0]) := Lib.hid (by
    have := Blk.new (w.alloc (.cells #[.int .i64 n0, .int .i64 n1, .int .i64 n2, .int .i64 n3] 65)) 65 #[.int .i64 0, .int .i64 0, .int .i64 0, .int .i64 0]
    simpa using this)
  obtain ⟨r0, r1, r2, r3, r4⟩ := four_cells R0.out
  have rf : ∀ k, ((w.alloc (.cells #[.int .i64 n0, .int .i64 n1, .int .i64 n2, .int .i64 n3] 65)).alloc (.cells #[.int .i64 0, .int .i64 0, .int .i64 0, .int .i64 0] 65)).frozen? ⟨w.heap.size + 1, k, none⟩ = false := fun k => Joins.unfrozen_of_block R0.out k
  go_enter Try.func150, Try.ntmps150
  go_wp2_with fail
  refine bodyPost_ret (v := .agg #[.int .i64 n3, .int .i64 n2, .int .i64 n1, .int .i64 n0]) (by simp [results, Try.results150, go_sem]) rfl ⟨rfl, ?_⟩
  repeat (first | exact Below.refl _ _ | refine below_dr ?_ | refine below_al ?_ _ | refine Below.setCell ?_ (by simp <;> omega) _)

theorem flipped00 (n0 n1 n2 n3 : Int) (w : World) :
    Calls Try.prog 133 #[.agg #[.int .i64 n0, .int .i64 n1, .int .i64 n2, .int .i64 n3], .int .i64 0, .int .i64 0] w fun e w' => e = .returned (.agg #[.int .i64 n0, .int .i64 n1, .int .i64 n2, .int .i64 n3]) ∧ Below w.heap.size w w' := by
  go_enter Try.func133, Try.ntmps133
  have T0 : Hid (Blk (((w.alloc (.cells #[.int .i64 n0, .int .i64 n1, .int .i64 n2, .int .i64 n3] 65)).alloc (.cells #[.int .i64 0, .int .i64 0, .int .i64 0, .int .i64 0] 65)).alloc (.cells #[.nilFunc, .nilFunc, .nilFunc, .nilFunc] 121)) (w.heap.size + 1 + 1) 121 #[.nilFunc, .nilFunc, .nilFunc, .nilFunc]) := Lib.hid (by
    have := Blk.new ((w.alloc (.cells #[.int .i64 n0, .int .i64 n1, .int .i64 n2, .int .i64 n3] 65)).alloc (.cells #[.int .i64 0, .int .i64 0, .int .i64 0, .int .i64 0] 65)) 121 #[.nilFunc, .nilFunc, .nilFunc, .nilFunc]
    simpa using this)
  obtain ⟨t0, t1, t2, t3, t4⟩ := four_cells T0.out
  have tf : ∀ k, (((w.alloc (.cells #[.int .i64 n0, .int .i64 n1, .int .i64 n2, .int .i64 n3] 65)).alloc (.cells #[.int .i64 0, .int .i64 0, .int .i64 0, .int .i64 0] 65)).alloc (.cells #[.nilFunc, .nilFunc, .nilFunc, .nilFunc] 121)).frozen? ⟨w.heap.size + 1 + 1, k, none⟩ = false := fun k => Joins.unfrozen_of_block T0.out k
  go_wp2_with fail
  have K1 : Blk (((w.alloc (.cells #[.int .i64 n0, .int .i64 n1, .int .i64 n2, .int .i64 n3] 65)).alloc (.cells #[.int .i64 0, .int .i64 0, .int .i64 0, .int .i64 0] 65)).alloc (.cells #[.func (.func 147) #[] #[], .func (.func 148) #[] #[], .func (.func 149) #[] #[], .func (.func 150) #[] #[]] 121)) w.heap.size 65 #[.int .i64 n0, .int .i64 n1, .int .i64 n2, .int .i64 n3] := ((Blk.new w 65 #[.int .i64 n0, .int .i64 n1, .int .i64 n2, .int .i64 n3]).alloc _).alloc _
  have R1 : Hid (Blk (((w.alloc (.cells #[.int .i64 n0, .int .i64 n1, .int .i64 n2, .int .i64 n3] 65)).alloc (.cells #[.int .i64 0, .int .i64 0, .int .i64 0, .int .i64 0] 65)).alloc (.cells #[.func (.func 147) #[] #[], .func (.func 148) #[] #[], .func (.func 149) #[] #[], .func (.func 150) #[] #[]] 121)) (w.heap.size + 1) 65 #[.int .i64 0, .int .i64 0, .int .i64 0, .int .i64 0]) := Lib.hid (by
    have := (Blk.new (w.alloc (.cells #[.int .i64 n0, .int .i64 n1, .int .i64 n2, .int .i64 n3] 65)) 65 #[.int .i64 0, .int .i64 0, .int .i64 0, .int .i64 0]).alloc (.cells #[.func (.func 147) #[] #[], .func (.func 148) #[] #[], .func (.func 149) #[] #[], .func (.func 150) #[] #[]] 121)
    simpa using this)
  have T1 : Blk (((w.alloc (.cells #[.int .i64 n0, .int .i64 n1, .int .i64 n2, .int .i64 n3] 65)).alloc (.cells #[.int .i64 0, .int .i64 0, .int .i64 0, .int .i64 0] 65)).alloc (.cells #[.func (.func 147) #[] #[], .func (.func 148) #[] #[], .func (.func 149) #[] #[], .func (.func 150) #[] #[]] 121)) (w.heap.size + 1 + 1) 121 #[.func (.func 147) #[] #[], .func (.func 148) #[] #[], .func (.func 149) #[] #[], .func (.func 150) #[] #[]] := by
    have := Blk.new ((w.alloc (.cells #[.int .i64 n0, .int .i64 n1, .int .i64 n2, .int .i64 n3] 65)).alloc (.cells #[.int .i64 0, .int .i64 0, .int .i64 0, .int .i64 0] 65)) 121 #[.func (.func 147) #[] #[], .func (.func 148) #[] #[], .func (.func 149) #[] #[], .func (.func 150) #[] #[]]
    simpa using this
  have B1 : Hid (Below w.heap.size w (((w.alloc (.cells #[.int .i64 n0, .int .i64 n1, .int .i64 n2, .int .i64 n3] 65)).alloc (.cells #[.int .i64 0, .int .i64 0, .int .i64 0, .int .i64 0] 65)).alloc (.cells #[.func (.func 147) #[] #[], .func (.func 148) #[] #[], .func (.func 149) #[] #[], .func (.func 150) #[] #[]] 121))) := Lib.hid (below_al (below_al (below_al (Below.refl _ _) _) _) _)
  obtain ⟨c0, c1, c2, c3, c4⟩ := four_cells K1
  obtain ⟨g0, g1, g2, g3, g4⟩ := four_cells T1
  clear K1 T1 T0 t0 t1 t2 t3 t4 tf
  go_region_held3 (fun w' => w'.cell? ⟨w.heap.size, 0, none⟩ = some (.int .i64 n0) ∧ w'.cell? ⟨w.heap.size, 1, none⟩ = some (.int .i64 n1) ∧ w'.cell? ⟨w.heap.size, 2, none⟩ = some (.int .i64 n2) ∧ w'.cell? ⟨w.heap.size, 3, none⟩ = some (.int .i64 n3) ∧ w'.cell? ⟨w.heap.size + 1 + 1, 0, none⟩ = some (.func (.func 147) #[] #[]))
    ((refine step.offs5 (R := w.heap.size + 1) c0 c1 c2 c3 g0 (by simp) (by simp) (by simp) (by simp) (by simp) ?_; repeat (first | (with_reducible exact step.Off.refl _ _) | (with_reducible refine step.Off.drew ?_) | (with_reducible refine step.Off.setCell ?_ _ _ rfl) | (with_reducible refine step.Off.below ?_ hb3))))
    (first
      | (go_at_call 147; (with_reducible refine (kept n0 n1 n2 n3 _).mono ?_); rintro e w3 ⟨rfl, hb3⟩; have R3 := R1.out.below (below_tr (below_dr (Below.refl _ _)) hb3); obtain ⟨r0, r1, r2, r3, r4⟩ := four_cells R3; have rf : ∀ k, w3.frozen? ⟨w.heap.size + 1, k, none⟩ = false := fun k => Joins.unfrozen_of_block R3 k))
  have B3 := Lib.hid (below_tr B1.out (below_tr (below_dr (Below.refl _ _)) hb3))
  clear hb3 c0 c1 c2 c3 c4 g0 g1 g2 g3 g4 R3 R1
  go_wp2_with fail
  refine bodyPost_ret (v := .agg #[.int .i64 n0, .int .i64 n1, .int .i64 n2, .int .i64 n3]) (by simp [results, Try.results133, go_sem, r0, r1, r2, r3]) rfl ⟨rfl, ?_⟩
  repeat (refine Below.setCell ?_ (by simp <;> omega) _)
  exact B3.out

theorem flipped01 (n0 n1 n2 n3 : Int) (w : World) :
    Calls Try.prog 133 #[.agg #[.int .i64 n0, .int .i64 n1, .int .i64 n2, .int .i64 n3], .int .i64 0, .int .i64 1] w fun e w' => e = .returned (.agg #[.int .i64 n1, .int .i64 n0, .int .i64 n3, .int .i64 n2]) ∧ Below w.heap.size w w' := by
  go_enter Try.func133, Try.ntmps133
  have T0 : Hid (Blk (((w.alloc (.cells #[.int .i64 n0, .int .i64 n1, .int .i64 n2, .int .i64 n3] 65)).alloc (.cells #[.int .i64 0, .int .i64 0, .int .i64 0, .int .i64 0] 65)).alloc (.cells #[.nilFunc, .nilFunc, .nilFunc, .nilFunc] 121)) (w.heap.size + 1 + 1) 121 #[.nilFunc, .nilFunc, .nilFunc, .nilFunc]) := Lib.hid (by
    have := Blk.new ((w.alloc (.cells #[.int .i64 n0, .int .i64 n1, .int .i64 n2, .int .i64 n3] 65)).alloc (.cells #[.int .i64 0, .int .i64 0, .int .i64 0, .int .i64 0] 65)) 121 #[.nilFunc, .nilFunc, .nilFunc, .nilFunc]
    simpa using this)
  obtain ⟨t0, t1, t2, t3, t4⟩ := four_cells T0.out
  have tf : ∀ k, (((w.alloc (.cells #[.int .i64 n0, .int .i64 n1, .int .i64 n2, .int .i64 n3] 65)).alloc (.cells #[.int .i64 0, .int .i64 0, .int .i64 0, .int .i64 0] 65)).alloc (.cells #[.nilFunc, .nilFunc, .nilFunc, .nilFunc] 121)).frozen? ⟨w.heap.size + 1 + 1, k, none⟩ = false := fun k => Joins.unfrozen_of_block T0.out k
  go_wp2_with fail
  have K1 : Blk (((w.alloc (.cells #[.int .i64 n0, .int .i64 n1, .int .i64 n2, .int .i64 n3] 65)).alloc (.cells #[.int .i64 0, .int .i64 0, .int .i64 0, .int .i64 0] 65)).alloc (.cells #[.func (.func 147) #[] #[], .func (.func 148) #[] #[], .func (.func 149) #[] #[], .func (.func 150) #[] #[]] 121)) w.heap.size 65 #[.int .i64 n0, .int .i64 n1, .int .i64 n2, .int .i64 n3] := ((Blk.new w 65 #[.int .i64 n0, .int .i64 n1, .int .i64 n2, .int .i64 n3]).alloc _).alloc _
  have R1 : Hid (Blk (((w.alloc (.cells #[.int .i64 n0, .int .i64 n1, .int .i64 n2, .int .i64 n3] 65)).alloc (.cells #[.int .i64 0, .int .i64 0, .int .i64 0, .int .i64 0] 65)).alloc (.cells #[.func (.func 147) #[] #[], .func (.func 148) #[] #[], .func (.func 149) #[] #[], .func (.func 150) #[] #[]] 121)) (w.heap.size + 1) 65 #[.int .i64 0, .int .i64 0, .int .i64 0, .int .i64 0]) := Lib.hid (by
    have := (Blk.new (w.alloc (.cells #[.int .i64 n0, .int .i64 n1, .int .i64 n2, .int .i64 n3] 65)) 65 #[.int .i64 0, .int .i64 0, .int .i64 0, .int .i64 0]).alloc (.cells #[.func (.func 147) #[] #[], .func (.func 148) #[] #[], .func (.func 149) #[] #[], .func (.func 150) #[] #[]] 121)
    simpa using this)
  have T1 : Blk (((w.alloc (.cells #[.int .i64 n0, .int .i64 n1, .int .i64 n2, .int .i64 n3] 65)).alloc (.cells #[.int .i64 0, .int .i64 0, .int .i64 0, .int .i64 0] 65)).alloc (.cells #[.func (.func 147) #[] #[], .func (.func 148) #[] #[], .func (.func 149) #[] #[], .func (.func 150) #[] #[]] 121)) (w.heap.size + 1 + 1) 121 #[.func (.func 147) #[] #[], .func (.func 148) #[] #[], .func (.func 149) #[] #[], .func (.func 150) #[] #[]] := by
    have := Blk.new ((w.alloc (.cells #[.int .i64 n0, .int .i64 n1, .int .i64 n2, .int .i64 n3] 65)).alloc (.cells #[.int .i64 0, .int .i64 0, .int .i64 0, .int .i64 0] 65)) 121 #[.func (.func 147) #[] #[], .func (.func 148) #[] #[], .func (.func 149) #[] #[], .func (.func 150) #[] #[]]
    simpa using this
  have B1 : Hid (Below w.heap.size w (((w.alloc (.cells #[.int .i64 n0, .int .i64 n1, .int .i64 n2, .int .i64 n3] 65)).alloc (.cells #[.int .i64 0, .int .i64 0, .int .i64 0, .int .i64 0] 65)).alloc (.cells #[.func (.func 147) #[] #[], .func (.func 148) #[] #[], .func (.func 149) #[] #[], .func (.func 150) #[] #[]] 121))) := Lib.hid (below_al (below_al (below_al (Below.refl _ _) _) _) _)
  obtain ⟨c0, c1, c2, c3, c4⟩ := four_cells K1
  obtain ⟨g0, g1, g2, g3, g4⟩ := four_cells T1
  clear K1 T1 T0 t0 t1 t2 t3 t4 tf
  go_region_held3 (fun w' => w'.cell? ⟨w.heap.size, 0, none⟩ = some (.int .i64 n0) ∧ w'.cell? ⟨w.heap.size, 1, none⟩ = some (.int .i64 n1) ∧ w'.cell? ⟨w.heap.size, 2, none⟩ = some (.int .i64 n2) ∧ w'.cell? ⟨w.heap.size, 3, none⟩ = some (.int .i64 n3) ∧ w'.cell? ⟨w.heap.size + 1 + 1, 1, none⟩ = some (.func (.func 148) #[] #[]))
    ((refine step.offs5 (R := w.heap.size + 1) c0 c1 c2 c3 g1 (by simp) (by simp) (by simp) (by simp) (by simp) ?_; repeat (first | (with_reducible exact step.Off.refl _ _) | (with_reducible refine step.Off.drew ?_) | (with_reducible refine step.Off.setCell ?_ _ _ rfl) | (with_reducible refine step.Off.below ?_ hb3))))
    (first
      | (go_at_call 148; (with_reducible refine (secondFlipped n0 n1 n2 n3 _).mono ?_); rintro e w3 ⟨rfl, hb3⟩; have R3 := R1.out.below (below_tr (below_dr (Below.refl _ _)) hb3); obtain ⟨r0, r1, r2, r3, r4⟩ := four_cells R3; have rf : ∀ k, w3.frozen? ⟨w.heap.size + 1, k, none⟩ = false := fun k => Joins.unfrozen_of_block R3 k))
  have B3 := Lib.hid (below_tr B1.out (below_tr (below_dr (Below.refl _ _)) hb3))
  clear hb3 c0 c1 c2 c3 c4 g0 g1 g2 g3 g4 R3 R1
  go_wp2_with fail
  refine bodyPost_ret (v := .agg #[.int .i64 n1, .int .i64 n0, .int .i64 n3, .int .i64 n2]) (by simp [results, Try.results133, go_sem, r0, r1, r2, r3]) rfl ⟨rfl, ?_⟩
  repeat (refine Below.setCell ?_ (by simp <;> omega) _)
  exact B3.out

theorem flipped10 (n0 n1 n2 n3 : Int) (w : World) :
    Calls Try.prog 133 #[.agg #[.int .i64 n0, .int .i64 n1, .int .i64 n2, .int .i64 n3], .int .i64 1, .int .i64 0] w fun e w' => e = .returned (.agg #[.int .i64 n2, .int .i64 n3, .int .i64 n0, .int .i64 n1]) ∧ Below w.heap.size w w' := by
  go_enter Try.func133, Try.ntmps133
  have T0 : Hid (Blk (((w.alloc (.cells #[.int .i64 n0, .int .i64 n1, .int .i64 n2, .int .i64 n3] 65)).alloc (.cells #[.int .i64 0, .int .i64 0, .int .i64 0, .int .i64 0] 65)).alloc (.cells #[.nilFunc, .nilFunc, .nilFunc, .nilFunc] 121)) (w.heap.size + 1 + 1) 121 #[.nilFunc, .nilFunc, .nilFunc, .nilFunc]) := Lib.hid (by
    have := Blk.new ((w.alloc (.cells #[.int .i64 n0, .int .i64 n1, .int .i64 n2, .int .i64 n3] 65)).alloc (.cells #[.int .i64 0, .int .i64 0, .int .i64 0, .int .i64 0] 65)) 121 #[.nilFunc, .nilFunc, .nilFunc, .nilFunc]
    simpa using this)
  obtain ⟨t0, t1, t2, t3, t4⟩ := four_cells T0.out
  have tf : ∀ k, (((w.alloc (.cells #[.int .i64 n0, .int .i64 n1, .int .i64 n2, .int .i64 n3] 65)).alloc (.cells #[.int .i64 0, .int .i64 0, .int .i64 0, .int .i64 0] 65)).alloc (.cells #[.nilFunc, .nilFunc, .nilFunc, .nilFunc] 121)).frozen? ⟨w.heap.size + 1 + 1, k, none⟩ = false := fun k => Joins.unfrozen_of_block T0.out k
  go_wp2_with fail
  have K1 : Blk (((w.alloc (.cells #[.int .i64 n0, .int .i64 n1, .int .i64 n2, .int .i64 n3] 65)).alloc (.cells #[.int .i64 0, .int .i64 0, .int .i64 0, .int .i64 0] 65)).alloc (.cells #[.func (.func 147) #[] #[], .func (.func 148) #[] #[], .func (.func 149) #[] #[], .func (.func 150) #[] #[]] 121)) w.heap.size 65 #[.int .i64 n0, .int .i64 n1, .int .i64 n2, .int .i64 n3] := ((Blk.new w 65 #[.int .i64 n0, .int .i64 n1, .int .i64 n2, .int .i64 n3]).alloc _).alloc _
  have R1 : Hid (Blk (((w.alloc (.cells #[.int .i64 n0, .int .i64 n1, .int .i64 n2, .int .i64 n3] 65)).alloc (.cells #[.int .i64 0, .int .i64 0, .int .i64 0, .int .i64 0] 65)).alloc (.cells #[.func (.func 147) #[] #[], .func (.func 148) #[] #[], .func (.func 149) #[] #[], .func (.func 150) #[] #[]] 121)) (w.heap.size + 1) 65 #[.int .i64 0, .int .i64 0, .int .i64 0, .int .i64 0]) := Lib.hid (by
    have := (Blk.new (w.alloc (.cells #[.int .i64 n0, .int .i64 n1, .int .i64 n2, .int .i64 n3] 65)) 65 #[.int .i64 0, .int .i64 0, .int .i64 0, .int .i64 0]).alloc (.cells #[.func (.func 147) #[] #[], .func (.func 148) #[] #[], .func (.func 149) #[] #[], .func (.func 150) #[] #[]] 121)
    simpa using this)
  have T1 : Blk (((w.alloc (.cells #[.int .i64 n0, .int .i64 n1, .int .i64 n2, .int .i64 n3] 65)).alloc (.cells #[.int .i64 0, .int .i64 0, .int .i64 0, .int .i64 0] 65)).alloc (.cells #[.func (.func 147) #[] #[], .func (.func 148) #[] #[], .func (.func 149) #[] #[], .func (.func 150) #[] #[]] 121)) (w.heap.size + 1 + 1) 121 #[.func (.func 147) #[] #[], .func (.func 148) #[] #[], .func (.func 149) #[] #[], .func (.func 150) #[] #[]] := by
    have := Blk.new ((w.alloc (.cells #[.int .i64 n0, .int .i64 n1, .int .i64 n2, .int .i64 n3] 65)).alloc (.cells #[.int .i64 0, .int .i64 0, .int .i64 0, .int .i64 0] 65)) 121 #[.func (.func 147) #[] #[], .func (.func 148) #[] #[], .func (.func 149) #[] #[], .func (.func 150) #[] #[]]
    simpa using this
  have B1 : Hid (Below w.heap.size w (((w.alloc (.cells #[.int .i64 n0, .int .i64 n1, .int .i64 n2, .int .i64 n3] 65)).alloc (.cells #[.int .i64 0, .int .i64 0, .int .i64 0, .int .i64 0] 65)).alloc (.cells #[.func (.func 147) #[] #[], .func (.func 148) #[] #[], .func (.func 149) #[] #[], .func (.func 150) #[] #[]] 121))) := Lib.hid (below_al (below_al (below_al (Below.refl _ _) _) _) _)
  obtain ⟨c0, c1, c2, c3, c4⟩ := four_cells K1
  obtain ⟨g0, g1, g2, g3, g4⟩ := four_cells T1
  clear K1 T1 T0 t0 t1 t2 t3 t4 tf
  go_region_held3 (fun w' => w'.cell? ⟨w.heap.size, 0, none⟩ = some (.int .i64 n0) ∧ w'.cell? ⟨w.heap.size, 1, none⟩ = some (.int .i64 n1) ∧ w'.cell? ⟨w.heap.size, 2, none⟩ = some (.int .i64 n2) ∧ w'.cell? ⟨w.heap.size, 3, none⟩ = some (.int .i64 n3) ∧ w'.cell? ⟨w.heap.size + 1 + 1, 2, none⟩ = some (.func (.func 149) #[] #[]))
    ((refine step.offs5 (R := w.heap.size + 1) c0 c1 c2 c3 g2 (by simp) (by simp) (by simp) (by simp) (by simp) ?_; repeat (first | (with_reducible exact step.Off.refl _ _) | (with_reducible refine step.Off.drew ?_) | (with_reducible refine step.Off.setCell ?_ _ _ rfl) | (with_reducible refine step.Off.below ?_ hb3))))
    (first
      | (go_at_call 149; (with_reducible refine (firstFlipped n0 n1 n2 n3 _).mono ?_); rintro e w3 ⟨rfl, hb3⟩; have R3 := R1.out.below (below_tr (below_dr (Below.refl _ _)) hb3); obtain ⟨r0, r1, r2, r3, r4⟩ := four_cells R3; have rf : ∀ k, w3.frozen? ⟨w.heap.size + 1, k, none⟩ = false := fun k => Joins.unfrozen_of_block R3 k))
  have B3 := Lib.hid (below_tr B1.out (below_tr (below_dr (Below.refl _ _)) hb3))
  clear hb3 c0 c1 c2 c3 c4 g0 g1 g2 g3 g4 R3 R1
  go_wp2_with fail
  refine bodyPost_ret (v := .agg #[.int .i64 n2, .int .i64 n3, .int .i64 n0, .int .i64 n1]) (by simp [results, Try.results133, go_sem, r0, r1, r2, r3]) rfl ⟨rfl, ?_⟩
  repeat (refine Below.setCell ?_ (by simp <;> omega) _)
  exact B3.out

theorem flipped11 (n0 n1 n2 n3 : Int) (w : World) :
    Calls Try.prog 133 #[.agg #[.int .i64 n0, .int .i64 n1, .int .i64 n2, .int .i64 n3], .int .i64 1, .int .i64 1] w fun e w' => e = .returned (.agg #[.int .i64 n3, .int .i64 n2, .int .i64 n1, .int .i64 n0]) ∧ Below w.heap.size w w' := by
  go_enter Try.func133, Try.ntmps133
  have T0 : Hid (Blk (((w.alloc (.cells #[.int .i64 n0, .int .i64 n1, .int .i64 n2, .int .i64 n3] 65)).alloc (.cells #[.int .i64 0, .int .i64 0, .int .i64 0, .int .i64 0] 65)).alloc (.cells #[.nilFunc, .nilFunc, .nilFunc, .nilFunc] 121)) (w.heap.size + 1 + 1) 121 #[.nilFunc, .nilFunc, .nilFunc, .nilFunc]) := Lib.hid (by
    have := Blk.new ((w.alloc (.cells #[.int .i64 n0, .int .i64 n1, .int .i64 n2, .int .i64 n3] 65)).alloc (.cells #[.int .i64 0, .int .i64 0, .int .i64 0, .int .i64 0] 65)) 121 #[.nilFunc, .nilFunc, .nilFunc, .nilFunc]
    simpa using this)
  obtain ⟨t0, t1, t2, t3, t4⟩ := four_cells T0.out
  have tf : ∀ k, (((w.alloc (.cells #[.int .i64 n0, .int .i64 n1, .int .i64 n2, .int .i64 n3] 65)).alloc (.cells #[.int .i64 0, .int .i64 0, .int .i64 0, .int .i64 0] 65)).alloc (.cells #[.nilFunc, .nilFunc, .nilFunc, .nilFunc] 121)).frozen? ⟨w.heap.size + 1 + 1, k, none⟩ = false := fun k => Joins.unfrozen_of_block T0.out k
  go_wp2_with fail
  have K1 : Blk (((w.alloc (.cells #[.int .i64 n0, .int .i64 n1, .int .i64 n2, .int .i64 n3] 65)).alloc (.cells #[.int .i64 0, .int .i64 0, .int .i64 0, .int .i64 0] 65)).alloc (.cells #[.func (.func 147) #[] #[], .func (.func 148) #[] #[], .func (.func 149) #[] #[], .func (.func 150) #[] #[]] 121)) w.heap.size 65 #[.int .i64 n0, .int .i64 n1, .int .i64 n2, .int .i64 n3] := ((Blk.new w 65 #[.int .i64 n0, .int .i64 n1, .int .i64 n2, .int .i64 n3]).alloc _).alloc _
  have R1 : Hid (Blk (((w.alloc (.cells #[.int .i64 n0, .int .i64 n1, .int .i64 n2, .int .i64 n3] 65)).alloc (.cells #[.int .i64 0, .int .i64 0, .int .i64 0, .int .i64 0] 65)).alloc (.cells #[.func (.func 147) #[] #[], .func (.func 148) #[] #[], .func (.func 149) #[] #[], .func (.func 150) #[] #[]] 121)) (w.heap.size + 1) 65 #[.int .i64 0, .int .i64 0, .int .i64 0, .int .i64 0]) := Lib.hid (by
    have := (Blk.new (w.alloc (.cells #[.int .i64 n0, .int .i64 n1, .int .i64 n2, .int .i64 n3] 65)) 65 #[.int .i64 0, .int .i64 0, .int .i64 0, .int .i64 0]).alloc (.cells #[.func (.func 147) #[] #[], .func (.func 148) #[] #[], .func (.func 149) #[] #[], .func (.func 150) #[] #[]] 121)
    simpa using this)
  have T1 : Blk (((w.alloc (.cells #[.int .i64 n0, .int .i64 n1, .int .i64 n2, .int .i64 n3] 65)).alloc (.cells #[.int .i64 0, .int .i64 0, .int .i64 0, .int .i64 0] 65)).alloc (.cells #[.func (.func 147) #[] #[], .func (.func 148) #[] #[], .func (.func 149) #[] #[], .func (.func 150) #[] #[]] 121)) (w.heap.size + 1 + 1) 121 #[.func (.func 147) #[] #[], .func (.func 148) #[] #[], .func (.func 149) #[] #[], .func (.func 150) #[] #[]] := by
    have := Blk.new ((w.alloc (.cells #[.int .i64 n0, .int .i64 n1, .int .i64 n2, .int .i64 n3] 65)).alloc (.cells #[.int .i64 0, .int .i64 0, .int .i64 0, .int .i64 0] 65)) 121 #[.func (.func 147) #[] #[], .func (.func 148) #[] #[], .func (.func 149) #[] #[], .func (.func 150) #[] #[]]
    simpa using this
  have B1 : Hid (Below w.heap.size w (((w.alloc (.cells #[.int .i64 n0, .int .i64 n1, .int .i64 n2, .int .i64 n3] 65)).alloc (.cells #[.int .i64 0, .int .i64 0, .int .i64 0, .int .i64 0] 65)).alloc (.cells #[.func (.func 147) #[] #[], .func (.func 148) #[] #[], .func (.func 149) #[] #[], .func (.func 150) #[] #[]] 121))) := Lib.hid (below_al (below_al (below_al (Below.refl _ _) _) _) _)
  obtain ⟨c0, c1, c2, c3, c4⟩ := four_cells K1
  obtain ⟨g0, g1, g2, g3, g4⟩ := four_cells T1
  clear K1 T1 T0 t0 t1 t2 t3 t4 tf
  go_region_held3 (fun w' => w'.cell? ⟨w.heap.size, 0, none⟩ = some (.int .i64 n0) ∧ w'.cell? ⟨w.heap.size, 1, none⟩ = some (.int .i64 n1) ∧ w'.cell? ⟨w.heap.size, 2, none⟩ = some (.int .i64 n2) ∧ w'.cell? ⟨w.heap.size, 3, none⟩ = some (.int .i64 n3) ∧ w'.cell? ⟨w.heap.size + 1 + 1, 3, none⟩ = some (.func (.func 150) #[] #[]))
    ((refine step.offs5 (R := w.heap.size + 1) c0 c1 c2 c3 g3 (by simp) (by simp) (by simp) (by simp) (by simp) ?_; repeat (first | (with_reducible exact step.Off.refl _ _) | (with_reducible refine step.Off.drew ?_) | (with_reducible refine step.Off.setCell ?_ _ _ rfl) | (with_reducible refine step.Off.below ?_ hb3))))
    (first
      | (go_at_call 150; (with_reducible refine (bothFlipped n0 n1 n2 n3 _).mono ?_); rintro e w3 ⟨rfl, hb3⟩; have R3 := R1.out.below (below_tr (below_dr (Below.refl _ _)) hb3); obtain ⟨r0, r1, r2, r3, r4⟩ := four_cells R3; have rf : ∀ k, w3.frozen? ⟨w.heap.size + 1, k, none⟩ = false := fun k => Joins.unfrozen_of_block R3 k))
  have B3 := Lib.hid (below_tr B1.out (below_tr (below_dr (Below.refl _ _)) hb3))
  clear hb3 c0 c1 c2 c3 c4 g0 g1 g2 g3 g4 R3 R1
  go_wp2_with fail
  refine bodyPost_ret (v := .agg #[.int .i64 n3, .int .i64 n2, .int .i64 n1, .int .i64 n0]) (by simp [results, Try.results133, go_sem, r0, r1, r2, r3]) rfl ⟨rfl, ?_⟩
  repeat (refine Below.setCell ?_ (by simp <;> omega) _)
  exact B3.out

end Go.Proofs.Ytlaaiahkdkhehaa.flipa
