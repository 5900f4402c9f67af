/- l3Four of the model. -/
import Derived.Test.YtnjaocgciokpaabQpr
namespace Go.Proofs.Ytnjaocgciokpaab.qfo
open Go.RowKit Go.Deep Go.Proofs.Ytnjaocgciokpaab.base
open Go.Proofs.Ytnjaocgciokpaab.prt (two_cells)
open Go.Proofs.Ytnjaocgciokpaab.val (okSizes ret_b)
open Go.Proofs.Ytnjaocgciokpaab.qpr (twoB twoB_yes twoB_no)

/-- what names a sum: the sizes, both pairs, and the row with the minus -/
def okFour (x y a b c d m : Int) : Prop := okSizes x y ∧ (0 ≤ a ∧ a < b ∧ b < x) ∧ (0 ≤ c ∧ c < d ∧ d < y) ∧ 0 ≤ m ∧ m ≤ 3
open Classical in
noncomputable def fourB (x y a b c d m : Int) : Bool := if okFour x y a b c d m then true else false
theorem fourB_yes {x y a b c d m : Int} (h : okFour x y a b c d m) : fourB x y a b c d m = true := if_pos h
theorem fourB_no {x y a b c d m : Int} (h : ¬ okFour x y a b c d m) : fourB x y a b c d m = false := if_neg h


set_option maxHeartbeats 2000000 in
theorem l3four (x y a b c d m : Int) (w : World) :
    Calls Try.prog 68 #[.int .i64 x, .int .i64 y, .agg #[.int .i64 a, .int .i64 b], .agg #[.int .i64 c, .int .i64 d], .int .i64 m] w fun e w' => e = .returned (.bool (fourB x y a b c d m)) ∧ Below w.heap.size w w' := by
  have B0 := Lib.hid (below_al (below_al (Below.refl w.heap.size w) (.cells #[.int .i64 a, .int .i64 b] 32)) (.cells #[.int .i64 c, .int .i64 d] 32))
  have K0 := Lib.hid ((Blk.new w 32 #[.int .i64 a, .int .i64 b]).alloc (.cells #[.int .i64 c, .int .i64 d] 32))
  have J0 : Hid (Blk ((w.alloc (.cells #[.int .i64 a, .int .i64 b] 32)).alloc (.cells #[.int .i64 c, .int .i64 d] 32)) (w.heap.size + 1) 32 #[.int .i64 c, .int .i64 d]) := Lib.hid (by
    have := Blk.new (w.alloc (.cells #[.int .i64 a, .int .i64 b] 32)) 32 #[.int .i64 c, .int .i64 d]
    simpa using this)
  obtain ⟨c0, c1, _⟩ := two_cells K0.out
  by_cases hs : okSizes x y
  · have HS := Lib.hid hs
    have H1 := Lib.hid (fun W => qpr.l3two x a b hs.1 W)
    have H2 := Lib.hid (fun W => qpr.l3two y c d hs.2 W)
    by_cases h1 : 0 ≤ a ∧ a < b ∧ b < x
    · rw [twoB_yes h1] at H1
      by_cases h2 : 0 ≤ c ∧ c < d ∧ d < y
      · rw [twoB_yes h2] at H2
        by_cases h3 : 0 ≤ m ∧ m ≤ 3
        · have HR := Lib.hid (fourB_yes (show okFour x y a b c d m from ⟨hs, h1, h2, h3⟩))
          obtain ⟨l1, l2⟩ := h3
          clear hs h1 h2
          go_enter Try.func68, Try.ntmps68
          go_wp2_with fail
          refine (val.sizes_yes _ _ _ HS.out).mono ?_
          rintro e w' ⟨rfl, rfl⟩
          go_wp2_with fail
          refine (H1.out _).mono ?_
          rintro e w1 ⟨rfl, hb⟩
          obtain ⟨d0, d1, _⟩ := two_cells (J0.out.below hb)
          have B1 := Lib.hid (below_tr B0.out hb)
          clear hb c0 c1
          go_wp2_with fail
          refine (H2.out _).mono ?_
          rintro e w2 ⟨rfl, hb⟩
          have B2 := Lib.hid (below_tr B1.out hb)
          clear hb d0 d1
          go_wp2_with fail
          refine (val.in_yes _ _ _ _ l1 l2).mono ?_
          rintro e w' ⟨rfl, rfl⟩
          go_wp2_with fail
          go_ret
          exact ⟨ret_b HR.out.symm, B2.out⟩
        · have HR := Lib.hid (fourB_no (show ¬ okFour x y a b c d m from fun h => h3 h.2.2.2))
          have l1 : m < 0 ∨ 3 < m := by omega
          clear hs h1 h2 h3
          go_enter Try.func68, Try.ntmps68
          go_wp2_with fail
          refine (val.sizes_yes _ _ _ HS.out).mono ?_
          rintro e w' ⟨rfl, rfl⟩
          go_wp2_with fail
          refine (H1.out _).mono ?_
          rintro e w1 ⟨rfl, hb⟩
          obtain ⟨d0, d1, _⟩ := two_cells (J0.out.below hb)
          have B1 := Lib.hid (below_tr B0.out hb)
          clear hb c0 c1
          go_wp2_with fail
          refine (H2.out _).mono ?_
          rintro e w2 ⟨rfl, hb⟩
          have B2 := Lib.hid (below_tr B1.out hb)
          clear hb d0 d1
          go_wp2_with fail
          refine (val.in_no _ _ _ _ l1).mono ?_
          rintro e w' ⟨rfl, rfl⟩
          go_wp2_with fail
          go_ret
          exact ⟨ret_b HR.out.symm, B2.out⟩
      · rw [twoB_no h2] at H2
        have HR := Lib.hid (fourB_no (show ¬ okFour x y a b c d m from fun h => h2 h.2.2.1))
        clear hs h1 h2
        go_enter Try.func68, Try.ntmps68
        go_wp2_with fail
        refine (val.sizes_yes _ _ _ HS.out).mono ?_
        rintro e w' ⟨rfl, rfl⟩
        go_wp2_with fail
        refine (H1.out _).mono ?_
        rintro e w1 ⟨rfl, hb⟩
        obtain ⟨d0, d1, _⟩ := two_cells (J0.out.below hb)
        have B1 := Lib.hid (below_tr B0.out hb)
        clear hb c0 c1
        go_wp2_with fail
        refine (H2.out _).mono ?_
        rintro e w2 ⟨rfl, hb⟩
        have B2 := Lib.hid (below_tr B1.out hb)
        clear hb d0 d1
        go_wp2_with fail
        go_ret
        exact ⟨ret_b HR.out.symm, B2.out⟩
    · rw [twoB_no h1] at H1
      have HR := Lib.hid (fourB_no (show ¬ okFour x y a b c d m from fun h => h1 h.2.1))
      clear hs h1
      go_enter Try.func68, Try.ntmps68
      go_wp2_with fail
      refine (val.sizes_yes _ _ _ HS.out).mono ?_
      rintro e w' ⟨rfl, rfl⟩
      go_wp2_with fail
      refine (H1.out _).mono ?_
      rintro e w1 ⟨rfl, hb⟩
      have B1 := Lib.hid (below_tr B0.out hb)
      clear hb c0 c1
      go_wp2_with fail
      go_ret
      exact ⟨ret_b HR.out.symm, B1.out⟩
  · have HS := Lib.hid hs
    have HR := Lib.hid (fourB_no (show ¬ okFour x y a b c d m from fun h => hs h.1))
    clear hs
    go_enter Try.func68, Try.ntmps68
    go_wp2_with fail
    refine (val.sizes_no _ _ _ HS.out).mono ?_
    rintro e w' ⟨rfl, rfl⟩
    go_wp2_with fail
    go_ret
    exact ⟨ret_b HR.out.symm, B0.out⟩

end Go.Proofs.Ytnjaocgciokpaab.qfo
