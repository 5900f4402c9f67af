/- Boxes with two questions for each player: both sides tell them, and quiet ones among them. -/
import Derived.Test.YtnjaocgciokpaabLoudc
import Derived.Test.YtnjaocgciokpaabAsk
namespace Go.Proofs.Ytnjaocgciokpaab.two
open Go.RowKit Go.Deep Go.Proofs.Ytnjaocgciokpaab.base
open Go.Proofs.Ytnjaocgciokpaab.val (okBox okSizes boxB boxB_yes boxB_no)
open Go.Proofs.Ytnjaocgciokpaab.rws (total)
open Go.Proofs.Ytnjaocgciokpaab.loud (Quiet quietB quietB_yes quietB_no)

def two (x y wh : Int) (xss : List (List Int)) : Prop := okBox x y wh xss ∧ x = 2 ∧ y = 2
open Classical in
noncomputable def twoB (x y wh : Int) (xss : List (List Int)) : Bool := if two x y wh xss then true else false
theorem twoB_yes {x y wh : Int} {xss : List (List Int)} (h : two x y wh xss) : twoB x y wh xss = true := if_pos h
theorem twoB_no {x y wh : Int} {xss : List (List Int)} (h : ¬ two x y wh xss) : twoB x y wh xss = false := if_neg h
/-- a quiet one -/
def qt (x y wh : Int) (xss : List (List Int)) : Prop := two x y wh xss ∧ Quiet xss 2 2
open Classical in
noncomputable def qtB (x y wh : Int) (xss : List (List Int)) : Bool := if qt x y wh xss then true else false
theorem qtB_yes {x y wh : Int} {xss : List (List Int)} (h : qt x y wh xss) : qtB x y wh xss = true := if_pos h
theorem qtB_no {x y wh : Int} {xss : List (List Int)} (h : ¬ qt x y wh xss) : qtB x y wh xss = false := if_neg h
theorem quiet_qt {x y wh : Int} {xss : List (List Int)} (h : two x y wh xss) : quietB x y wh xss = qtB x y wh xss := by
  obtain ⟨h1, rfl, rfl⟩ := h
  by_cases hq : Quiet xss 2 2
  · rw [qtB_yes ⟨⟨h1, rfl, rfl⟩, hq⟩]; exact quietB_yes (X := 2) (Y := 2) h1 hq
  · rw [qtB_no (fun h => hq h.2)]; exact if_neg (fun h => hq h.2)





/-! ### the program -/

set_option maxHeartbeats 1000000 in
theorem iqt (x y wh : Int) (v : Value) (xss : List (List Int)) (w : World) (h : IRows w v xss) (hn : total xss ≤ 1048576) :
    Calls Try.prog 125 #[.agg #[.int .i64 x, .int .i64 y, .int .i64 wh, v]] w fun e w' => e = .returned (.bool (qtB x y wh xss)) ∧ Below w.heap.size w w' := by
  obtain ⟨va, vn, vc, rfl⟩ := h.shape
  have B0 := Lib.hid (below_al (Below.refl w.heap.size w) (.cells #[.int .i64 x, .int .i64 y, .int .i64 wh, .slice va vn vc] 28))
  have K0 := Lib.hid (Blk.new w 28 #[.int .i64 x, .int .i64 y, .int .i64 wh, .slice va vn vc])
  have hr := loud.impl_quiet x y wh _ xss _ (h.below B0.out) hn
  clear h
  by_cases hq : quietB x y wh xss = true
  · have hok : okBox x y wh xss ∧ Quiet xss x.toNat y.toNat := by
      by_cases h : okBox x y wh xss ∧ Quiet xss x.toNat y.toNat
      · exact h
      · rw [show quietB x y wh xss = false from if_neg h] at hq; cases hq
    rw [hq] at hr
    have e : qtB x y wh xss = asksB x y := by
      by_cases h : x = 2 ∧ y = 2
      · obtain ⟨rfl, rfl⟩ := h
        rw [asksB_yes]; exact qtB_yes ⟨⟨hok.1, rfl, rfl⟩, hok.2⟩
      · rw [asksB_no h]; exact qtB_no (fun h' => h h'.1.2)
    rw [e]
    have HR := Lib.hid hr
    clear hr hok hq e
    go_enter Try.func125, Try.ntmps125
    go_wp2_with fail
    refine HR.out.mono ?_
    rintro e w1 ⟨rfl, hb⟩
    have B1 := Lib.hid (below_tr B0.out hb)
    have K1 := Lib.hid (K0.out.below hb)
    obtain ⟨c0, c1, c2, c3, c4⟩ := four_cells K1.out
    clear hb HR B0 K0
    go_wp2_with fail
    refine (asks x y _).mono ?_
    rintro e w2 ⟨rfl, rfl⟩
    go_wp2_with fail
    go_ret
    exact ⟨rfl, B1.out⟩
  · have hqf : quietB x y wh xss = false := by simpa using hq
    rw [hqf] at hr
    rw [qtB_no (fun h => hq (by rw [quiet_qt h.1]; exact qtB_yes h))]
    have HR := Lib.hid hr
    clear hr hq hqf
    go_enter Try.func125, Try.ntmps125
    go_wp2_with fail
    refine HR.out.mono ?_
    rintro e w1 ⟨rfl, hb⟩
    have B1 := Lib.hid (below_tr B0.out hb)
    clear hb HR B0 K0
    go_wp2_with fail
    go_ret
    exact ⟨rfl, B1.out⟩


end Go.Proofs.Ytnjaocgciokpaab.two
