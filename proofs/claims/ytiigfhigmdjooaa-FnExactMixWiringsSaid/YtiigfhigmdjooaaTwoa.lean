/- Boxes with two questions for each player: the model tells them. -/
import Derived.Test.YtiigfhigmdjooaaVal
import Derived.Test.YtiigfhigmdjooaaAsk
namespace Go.Proofs.Ytiigfhigmdjooaa.two
open Go.RowKit Go.Deep Go.Proofs.Ytiigfhigmdjooaa.base
open Go.Proofs.Ytiigfhigmdjooaa.val (okBox okSizes boxB boxB_yes boxB_no)
open Go.Proofs.Ytiigfhigmdjooaa.rws (total)

def two (x y wh : Int) (xss : List (List Int)) : Prop := okBox x y wh xss ∧ x = 2 ∧ y = 2
open Classical in
noncomputable def twoB (x y wh : Int) (xss : List (List Int)) : Bool := if two x y wh xss then true else false
theorem twoB_yes {x y wh : Int} {xss : List (List Int)} (h : two x y wh xss) : twoB x y wh xss = true := if_pos h
theorem twoB_no {x y wh : Int} {xss : List (List Int)} (h : ¬ two x y wh xss) : twoB x y wh xss = false := if_neg h


set_option maxHeartbeats 1000000 in
theorem l6two (x y wh : Int) (v : Value) (xss : List (List Int)) (w : World) (h : IRows w v xss) (hn : total xss ≤ 1048576) :
    Calls Try.prog 134 #[.agg #[.int .i64 x, .int .i64 y, .int .i64 wh, v]] w fun e w' => e = .returned (.bool (twoB x y wh xss)) ∧ Below w.heap.size w w' := by
  obtain ⟨va, vn, vc, rfl⟩ := h.shape
  have B0 := Lib.hid (below_al (Below.refl w.heap.size w) (.cells #[.int .i64 x, .int .i64 y, .int .i64 wh, .slice va vn vc] 28))
  have K0 := Lib.hid (Blk.new w 28 #[.int .i64 x, .int .i64 y, .int .i64 wh, .slice va vn vc])
  have hr := val.spec_any x y wh _ xss _ (h.below B0.out) hn
  clear h
  by_cases hok : okBox x y wh xss
  · rw [boxB_yes hok] at hr
    by_cases hx : x = 2
    · have dx : (x == 2) = true := by simp [hx]
      by_cases hy : y = 2
      · have dy : (y == 2) = true := by simp [hy]
        rw [twoB_yes ⟨hok, hx, hy⟩]
        have HR := Lib.hid hr
        clear hr hok hx hy
        go_enter Try.func134, Try.ntmps134
        go_wp2_with fail
        refine HR.out.mono ?_
        rintro e w1 ⟨rfl, hb⟩
        have B1 := Lib.hid (below_tr B0.out hb)
        have K1 := Lib.hid (K0.out.below hb)
        obtain ⟨c0, c1, c2, c3, c4⟩ := four_cells K1.out
        clear hb HR B0 K0
        go_wp2_with fail
        go_ret
        exact ⟨rfl, B1.out⟩
      · have dy : (y == 2) = false := by simp [hy]
        rw [twoB_no (fun h => hy h.2.2)]
        have HR := Lib.hid hr
        clear hr hok hx hy
        go_enter Try.func134, Try.ntmps134
        go_wp2_with fail
        refine HR.out.mono ?_
        rintro e w1 ⟨rfl, hb⟩
        have B1 := Lib.hid (below_tr B0.out hb)
        have K1 := Lib.hid (K0.out.below hb)
        obtain ⟨c0, c1, c2, c3, c4⟩ := four_cells K1.out
        clear hb HR B0 K0
        go_wp2_with fail
        go_ret
        exact ⟨rfl, B1.out⟩
    · have dx : (x == 2) = false := by simp [hx]
      rw [twoB_no (fun h => hx h.2.1)]
      have HR := Lib.hid hr
      clear hr hok hx
      go_enter Try.func134, Try.ntmps134
      go_wp2_with fail
      refine HR.out.mono ?_
      rintro e w1 ⟨rfl, hb⟩
      have B1 := Lib.hid (below_tr B0.out hb)
      have K1 := Lib.hid (K0.out.below hb)
      obtain ⟨c0, c1, c2, c3, c4⟩ := four_cells K1.out
      clear hb HR B0 K0
      go_wp2_with fail
      go_ret
      exact ⟨rfl, B1.out⟩
  · rw [boxB_no hok] at hr
    rw [twoB_no (fun h => hok h.1)]
    have HR := Lib.hid hr
    clear hr hok
    go_enter Try.func134, Try.ntmps134
    go_wp2_with fail
    refine HR.out.mono ?_
    rintro e w1 ⟨rfl, hb⟩
    have B1 := Lib.hid (below_tr B0.out hb)
    clear hb HR B0 K0
    go_wp2_with fail
    go_ret
    exact ⟨rfl, B1.out⟩


end Go.Proofs.Ytiigfhigmdjooaa.two
