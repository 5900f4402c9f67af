/- MixtureBox of the model. -/
import Derived.Test.YtkikdecepdbbnabMxl
namespace Go.Proofs.Ytkikdecepdbbnab.mxb
open Go.RowKit Go.Deep Go.Proofs.Ytkikdecepdbbnab.base
open Go.Proofs.Ytkikdecepdbbnab.val (okSizes okBox)


set_option maxHeartbeats 2000000 in
theorem spec_any (x y : Int) (v : Value) (ss : List Int) (w : World) (h : Ints w v ss) (hn : ss.length ≤ 1048576) :
    Calls Try.prog 37 #[.int .i64 x, .int .i64 y, v] w fun e w' => ∃ r, e = .returned (.tuple #[.agg #[.int .i64 (res x y ss).x, .int .i64 (res x y ss).y, .int .i64 (res x y ss).wh, r], .bool (res x y ss).ok]) ∧ IRows w' r (res x y ss).rows ∧ Below w.heap.size w w' := by
  have B0 := Lib.hid (below_al (Below.refl w.heap.size w) (.cells #[.int .i64 0, .int .i64 0, .int .i64 0, .slice none 0 0] 41))
  have R0 := Lib.hid (Blk.new w 41 #[.int .i64 0, .int .i64 0, .int .i64 0, .slice none 0 0])
  have F0 := Lib.hid (h.below B0.out)
  have HSH := Lib.hid (l3shares x y v ss _ F0.out hn)
  obtain ⟨A, cap, rfl⟩ : ∃ A c, v = .slice A ss.length c := by obtain ⟨A, b, o, cap, hv, _⟩ := h.form; exact ⟨A, cap, hv⟩
  clear h
  by_cases hok : okShares x y ss
  · rw [sharesB_yes hok] at HSH
    obtain ⟨X, rfl⟩ : ∃ X : Nat, x = X := ⟨x.toNat, by have := hok.1.1; omega⟩
    obtain ⟨Y, rfl⟩ : ∃ Y : Nat, y = Y := ⟨y.toNat, by have := hok.1.2; omega⟩
    have HE := Lib.hid (res_yes hok)
    have HMX := Lib.hid (l3mix X Y _ ss _ F0.out hok)
    clear hok
    go_enter Try.func37, Try.ntmps37
    go_wp2_with fail
    refine HSH.out.mono ?_
    rintro e w' ⟨rfl, rfl⟩
    go_wp2_with fail
    refine HMX.out.mono ?_
    rintro e w1 ⟨u, rfl, hu, hb⟩
    obtain ⟨T, hu⟩ := hu
    obtain ⟨va, vl, vc, rfl⟩ := hu.rows.shape
    have HU := Lib.hid hu
    have B1 := Lib.hid (below_tr B0.out hb)
    have R1 := Lib.hid (R0.out.below hb)
    obtain ⟨r0, r1, r2, r3, r4⟩ := four_cells R1.out
    have rf : ∀ k, w1.frozen? ⟨w.heap.size, k, none⟩ = false := fun k => Joins.unfrozen_of_block R1.out k
    clear hu hb HMX HSH R0 B0
    go_wp2_with fail
    refine bodyPost_ret (v := .tuple #[.agg #[.int .i64 (X : Int), .int .i64 (Y : Int), .int .i64 ss.sum, .slice va vl vc], .bool true]) (by simp [results, Try.results37, go_sem, r0, r1, r2, r3]) rfl ?_
    rw [HE.out]
    refine ⟨_, rfl, ?_, ?_⟩
    · rw [show ((X : Int) * (Y : Int)).toNat = X * Y from by rw [← Int.natCast_mul, Int.toNat_natCast]]
      refine (HU.out.low ?_).rows
      repeat (first | exact Wrote.refl _ _ | refine Wrote.setCell ?_ (by simp <;> omega) _)
    · repeat (refine Below.setCell ?_ (by simp <;> omega) _)
      exact B1.out
  · rw [sharesB_no hok] at HSH
    have HE := Lib.hid (res_no hok)
    clear hok
    go_enter Try.func37, Try.ntmps37
    go_wp2_with fail
    refine HSH.out.mono ?_
    rintro e w' ⟨rfl, rfl⟩
    go_wp2_with fail
    refine bodyPost_ret (v := .tuple #[.agg #[.int .i64 0, .int .i64 0, .int .i64 0, .slice none 0 0], .bool false]) (by simp [results, Try.results37, go_sem]) rfl ?_
    rw [HE.out]
    refine ⟨_, rfl, IRows.nil _, ?_⟩
    repeat (first | (with_reducible exact B0.out) | refine Below.setCell ?_ (by simp <;> omega) _)


end Go.Proofs.Ytkikdecepdbbnab.mxb
