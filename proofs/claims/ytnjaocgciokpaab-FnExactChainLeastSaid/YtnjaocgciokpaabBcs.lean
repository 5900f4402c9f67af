/- BoxCode of the model. -/
import Derived.Test.YtnjaocgciokpaabBcd
namespace Go.Proofs.Ytnjaocgciokpaab.bcs
open Go.RowKit Go.Deep Go.Proofs.Ytnjaocgciokpaab.base
open Go.Proofs.Ytnjaocgciokpaab.ints (ret_int infoInt)
open Go.Proofs.Ytnjaocgciokpaab.val (okBox boxB boxB_yes boxB_no)
open Go.Proofs.Ytnjaocgciokpaab.rws (total)
open Go.Proofs.Ytnjaocgciokpaab.row (nn at_)
open Go.Proofs.Ytnjaocgciokpaab.oco
open Go.Proofs.Ytnjaocgciokpaab.ocs (two_cells' three_cells' four_cells' R)
open Go.Proofs.Ytnjaocgciokpaab.rlo
open Go.Proofs.Ytnjaocgciokpaab.cdm (lt lt_le)
open Go.Proofs.Ytnjaocgciokpaab.bcd

/-- the sum over the first places -/
def ms (xss : List (List Int)) (s t i bit : Nat) : Nat → Int
  | 0 => 0
  | a + 1 => ms xss s t i bit a + (if (s ^^^ (a / 2)) ^^^ (a % 2) = bit then R xss (i : Int) (s ^^^ t) a else 0)
theorem ms_all (xss : List (List Int)) (s t i bit : Nat) : ms xss s t i bit 4 = rn bit (pair xss i s t) := by
  simp [ms, rn, pair, comb, oco.row, oco.four, oco.one, List.range_succ]
  omega
theorem ms_yes {xss : List (List Int)} {s t i bit a : Nat} (h : (s ^^^ (a / 2)) ^^^ (a % 2) = bit) : ms xss s t i bit (a + 1) = ms xss s t i bit a + R xss (i : Int) (s ^^^ t) a := by show _ + _ = _; rw [if_pos h]
theorem ms_no {xss : List (List Int)} {s t i bit a : Nat} (h : ¬ (s ^^^ (a / 2)) ^^^ (a % 2) = bit) : ms xss s t i bit (a + 1) = ms xss s t i bit a := by show _ + _ = _; rw [if_neg h, Int.add_zero]


open Classical in
noncomputable def twoB (x y wh : Int) (xss : List (List Int)) : Bool := if okT x y wh xss then true else false
theorem twoB_yes {x y wh : Int} {xss : List (List Int)} (h : okT x y wh xss) : twoB x y wh xss = true := if_pos h
theorem twoB_no {x y wh : Int} {xss : List (List Int)} (h : ¬ okT x y wh xss) : twoB x y wh xss = false := if_neg h
set_option maxHeartbeats 1000000 in
theorem two (x y wh : Int) (v : Value) (xss : List (List Int)) (w : World) (h : IRows w v xss) (hn : total xss ≤ 1048576) :
    Calls Try.prog 122 #[.agg #[.int .i64 x, .int .i64 y, .int .i64 wh, v]] w fun e w' => e = .returned (.bool (twoB x y wh xss)) ∧ Below w.heap.size w w' := by
  have hr := val.spec_any x y wh _ xss _ (h.below (below_al (Below.refl w.heap.size w) (.cells #[.int .i64 x, .int .i64 y, .int .i64 wh, v] 28))) hn
  obtain ⟨va, vn, vc, rfl⟩ := h.shape
  have K0 := Lib.hid (Blk.new w 28 #[.int .i64 x, .int .i64 y, .int .i64 wh, .slice va vn vc])
  have B0 := Lib.hid (below_al (Below.refl w.heap.size w) (.cells #[.int .i64 x, .int .i64 y, .int .i64 wh, .slice va vn vc] 28))
  have HR := Lib.hid hr
  clear h hr
  by_cases hok : okBox x y wh xss
  · rw [boxB_yes hok] at HR
    by_cases hx : x = 2
    · have dx : (x == 2) = true := by simp [hx]
      by_cases hy : y = 2
      · have dy : (y == 2) = true := by simp [hy]
        rw [twoB_yes ⟨hok, hx, hy⟩]
        clear hok hx hy
        go_enter Try.func122, Try.ntmps122
        go_wp2_with fail
        refine HR.out.mono ?_
        rintro e w1 ⟨rfl, hb⟩
        have B1 := Lib.hid (below_tr B0.out hb)
        have K1 := Lib.hid (K0.out.below hb)
        obtain ⟨c0, c1, c2, c3⟩ := four_cells' K1.out
        clear hb HR B0 K0
        go_wp2_with fail
        go_ret
        exact ⟨rfl, B1.out⟩
      · have dy : (y == 2) = false := by simp [hy]
        rw [twoB_no (fun h => hy h.2.2)]
        clear hok hx hy
        go_enter Try.func122, Try.ntmps122
        go_wp2_with fail
        refine HR.out.mono ?_
        rintro e w1 ⟨rfl, hb⟩
        have B1 := Lib.hid (below_tr B0.out hb)
        have K1 := Lib.hid (K0.out.below hb)
        obtain ⟨c0, c1, c2, c3⟩ := four_cells' K1.out
        clear hb HR B0 K0
        go_wp2_with fail
        go_ret
        exact ⟨rfl, B1.out⟩
    · have dx : (x == 2) = false := by simp [hx]
      rw [twoB_no (fun h => hx h.2.1)]
      clear hok hx
      go_enter Try.func122, Try.ntmps122
      go_wp2_with fail
      refine HR.out.mono ?_
      rintro e w1 ⟨rfl, hb⟩
      have B1 := Lib.hid (below_tr B0.out hb)
      have K1 := Lib.hid (K0.out.below hb)
      obtain ⟨c0, c1, c2, c3⟩ := four_cells' K1.out
      clear hb HR B0 K0
      go_wp2_with fail
      go_ret
      exact ⟨rfl, B1.out⟩
  · rw [boxB_no hok] at HR
    rw [twoB_no (fun h => hok h.1)]
    clear hok
    go_enter Try.func122, Try.ntmps122
    go_wp2_with fail
    refine HR.out.mono ?_
    rintro e w1 ⟨rfl, hb⟩
    have B1 := Lib.hid (below_tr B0.out hb)
    have K1 := Lib.hid (K0.out.below hb)
    obtain ⟨c0, c1, c2, c3⟩ := four_cells' K1.out
    clear hb HR B0 K0
    go_wp2_with fail
    go_ret
    exact ⟨rfl, B1.out⟩



end Go.Proofs.Ytnjaocgciokpaab.bcs
