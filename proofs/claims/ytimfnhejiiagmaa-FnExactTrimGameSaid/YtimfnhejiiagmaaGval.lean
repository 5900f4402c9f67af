/- What a valid Game is; that the model's l4Game tells it; the parts of the program's IsGame. -/
import Derived.Test.YtimfnhejiiagmaaGame
import Derived.Test.YtimfnhejiiagmaaPlay
namespace Go.Proofs.Ytimfnhejiiagmaa.gval
open Go.RowKit Go.Deep Go.Proofs.Ytimfnhejiiagmaa.base
open Go.Proofs.Ytimfnhejiiagmaa.ints (ret_int ret_no ret_yes)
open Go.Proofs.Ytimfnhejiiagmaa.rws (total len_le_total)
open Go.Proofs.Ytimfnhejiiagmaa.val (okSizes ret_b sum_take_succ)
open Go.Proofs.Ytimfnhejiiagmaa.play (within withinB withinB_yes withinB_no)

def okGame (x y : Int) (ws : List Int) (xss : List (List Int)) : Prop :=
  okSizes x y ∧ (ws.length : Int) = x * y ∧ (xss.length : Int) = x * y ∧ (∀ k (h : k < ws.length), 0 ≤ ws[k] ∧ ws[k] ≤ 99) ∧ (∀ k (h : k < xss.length), within 4 0 1 xss[k]) ∧ 0 < ws.sum
open Classical in
noncomputable def gameB (x y : Int) (ws : List Int) (xss : List (List Int)) : Bool := if okGame x y ws xss then true else false
theorem gameB_yes {x y : Int} {ws : List Int} {xss : List (List Int)} (h : okGame x y ws xss) : gameB x y ws xss = true := if_pos h
theorem gameB_no {x y : Int} {ws : List Int} {xss : List (List Int)} (h : ¬ okGame x y ws xss) : gameB x y ws xss = false := if_neg h

set_option maxHeartbeats 2000000 in
theorem spec_any (x y : Int) (v : Value) (ws : List Int) (u : Value) (xss : List (List Int)) (w : World) (h : game.GV w v ws u xss) (hn : ws.length ≤ 1048576) (hm : total xss ≤ 1048576) :
    Calls Try.prog 69 #[.agg #[.int .i64 x, .int .i64 y, v, u]] w fun e w' => e = .returned (.bool (gameB x y ws xss)) ∧ Below w.heap.size w w' := by
  obtain ⟨B, d, q, cap', R, rfl, hcap', hmax', hB, hr⟩ := h.rows.form
  obtain ⟨A, b, o, cap, rfl, hcap, hmax, hA, hc⟩ := h.ints.form
  clear h hmax hmax' hcap hcap'
  have hlen : xss.length ≤ 1048576 := by unfold total at hm; omega
  by_cases hs : okSizes x y
  · have hmm := val.mul_small hs
    obtain ⟨hm1, hm2⟩ := hmm
    have HSz := Lib.hid hs
    clear hs
    by_cases hl : (ws.length : Int) = x * y
    · have dl : ((ws.length : Int) != x * y) = false := by simp [hl]
      have HL := Lib.hid hl
      clear hl
      by_cases hl2 : (xss.length : Int) = x * y
      · have dl2 : ((xss.length : Int) != x * y) = false := by simp [hl2]
        have HL2 := Lib.hid hl2
        have hwx : ws.length = xss.length := by have := HL.out; omega
        have HWX := Lib.hid hwx
        clear hl2 hwx
        go_enter Try.func69, Try.ntmps69
        go_wp2_with fail
        refine (val.sizes_yes _ _ _ HSz.out).mono ?_
        rintro e w' ⟨rfl, rfl⟩
        go_wp2_with fail
        go_loopw [2, 3, 4] (fun q s i wr => ∃ k : Nat, ∃ c : Int, k ≤ ws.length ∧ i = .int .i64 k ∧ s = .int .i64 c ∧ q = .bool false ∧ 0 ≤ c ∧ c ≤ 99 * k ∧ Hid (c = (ws.take k).sum ∧ (∀ j (h : j < ws.length), j < k → 0 ≤ ws[j] ∧ ws[j] ≤ 99) ∧ (∀ j (h : j < xss.length), j < k → within 4 0 1 xss[j])) ∧ wr = w.alloc (.cells #[.int .i64 x, .int .i64 y, .slice A ws.length cap, .slice B xss.length cap'] 40)) (fun _ _ i _ => ws.length - (intOf i).toNat)
        case atStart => exact ⟨0, 0, Nat.zero_le _, rfl, rfl, rfl, by omega, by omega, ⟨by simp, fun j _ hj => by omega, fun j _ hj => by omega⟩, rfl⟩
        case round =>
          obtain ⟨k, c, hk, rfl, rfl, rfl, hc0, hc1, hH, rfl⟩ := hrel
          by_cases hlt : k < ws.length
          · have hkz : (k : Int) < (ws.length : Int) := by omega
            have hlt2 : k < xss.length := by have := HWX.out; omega
            obtain rfl := hA (by omega)
            obtain rfl := hB (by omega)
            have g0 := hc k hlt
            have gl := World.block_lt_of_cell? _ _ g0
            have g1 := (hr k hlt2).1
            have gl1 := World.block_lt_of_cell? _ _ g1
            have hkz2 : (k : Int) < (xss.length : Int) := by omega
            have HF := Lib.hid (play.spec_bits (R k) xss[k] 4 (w.alloc (.cells #[.int .i64 x, .int .i64 y, .slice (some ⟨b, o, none⟩) ws.length cap, .slice (some ⟨d, q, none⟩) xss.length cap'] 40)) ((hr k hlt2).2.below (below_al (Below.refl _ _) _)))
            have HC := Lib.hid hc
            have HR := Lib.hid hr
            have HS := Lib.hid (sum_take_succ ws k hlt)
            clear hc hr hA hB
            by_cases hin : 0 ≤ ws[k] ∧ ws[k] ≤ 99
            · obtain ⟨i1, i2⟩ := hin
              go_wp2_with fail
              refine (val.in_yes _ _ _ _ i1 i2).mono ?_
              rintro e w' ⟨rfl, rfl⟩
              by_cases hw : within 4 0 1 xss[k]
              · have HW := Lib.hid hw
                have HE := Lib.hid (withinB_yes hw)
                clear hw
                go_wp2_with fail
                refine HF.out.mono ?_
                rintro e w' ⟨rfl, rfl⟩
                rw [HE.out]
                go_wp2_with fail
                go_roundw
                case rel =>
                  refine ⟨k + 1, _, by omega, by go_num, rfl, rfl, by omega, by omega, ⟨?_, fun j hj hj' => ?_, fun j hj hj' => ?_⟩, by first | rfl | trivial⟩
                  · rw [HS.out, hH.out.1]
                  · by_cases e : j = k
                    · subst e; exact ⟨i1, i2⟩
                    · exact hH.out.2.1 j hj (by omega)
                  · by_cases e : j = k
                    · subst e; exact HW.out
                    · exact hH.out.2.2 j hj (by omega)
                case measure => simp [intOf]; omega
              · have HN : Hid (¬ okGame x y ws xss) := Lib.hid (fun h => hw (h.2.2.2.2.1 k hlt2))
                have HE := Lib.hid (withinB_no hw)
                clear hw
                go_wp2_with fail
                refine HF.out.mono ?_
                rintro e w' ⟨rfl, rfl⟩
                rw [HE.out]
                go_wp2_with fail
                go_ret
                exact ⟨ret_b (gameB_no HN.out).symm, below_al (Below.refl _ _) _⟩
            · have hbad : ws[k] < 0 ∨ 99 < ws[k] := by omega
              have HN : Hid (¬ okGame x y ws xss) := Lib.hid (fun h => hin (h.2.2.2.1 k hlt))
              clear hin
              go_wp2_with fail
              refine (val.in_no _ _ _ _ hbad).mono ?_
              rintro e w' ⟨rfl, rfl⟩
              clear hbad
              go_wp2_with fail
              go_ret
              exact ⟨ret_b (gameB_no HN.out).symm, below_al (Below.refl _ _) _⟩
          · have hkz : ¬ (k : Int) < (ws.length : Int) := by omega
            obtain rfl : k = ws.length := by omega
            have hall : Hid (c = ws.sum) := Lib.hid (by have := hH.out.1; rw [List.take_length] at this; exact this)
            clear hc hr hA hB
            by_cases hp : 0 < c
            · have dp : decide (0 < c) = true := by simp [hp]
              have HN : Hid (okGame x y ws xss) := Lib.hid ⟨HSz.out, HL.out, HL2.out, fun j hj => hH.out.2.1 j hj hj, fun j hj => hH.out.2.2 j hj (by have := HWX.out; omega), by rw [← hall.out]; exact hp⟩
              go_wp2_with fail
              go_ret
              exact ⟨ret_b (gameB_yes HN.out).symm, below_al (Below.refl _ _) _⟩
            · have dp : decide (0 < c) = false := by simp; omega
              have HN : Hid (¬ okGame x y ws xss) := Lib.hid (fun h => hp (by rw [hall.out]; exact h.2.2.2.2.2))
              go_wp2_with fail
              go_ret
              exact ⟨ret_b (gameB_no HN.out).symm, below_al (Below.refl _ _) _⟩
      · have dl2 : ((xss.length : Int) != x * y) = true := by simp [hl2]
        have HN : Hid (¬ okGame x y ws xss) := Lib.hid (fun h => hl2 h.2.2.1)
        clear hl2 hc hr hA hB
        go_enter Try.func69, Try.ntmps69
        go_wp2_with fail
        refine (val.sizes_yes _ _ _ HSz.out).mono ?_
        rintro e w' ⟨rfl, rfl⟩
        go_wp2_with fail
        go_ret
        exact ⟨ret_b (gameB_no HN.out).symm, below_al (Below.refl _ _) _⟩
    · have dl : ((ws.length : Int) != x * y) = true := by simp [hl]
      have HN : Hid (¬ okGame x y ws xss) := Lib.hid (fun h => hl h.2.1)
      clear hl hc hr hA hB
      go_enter Try.func69, Try.ntmps69
      go_wp2_with fail
      refine (val.sizes_yes _ _ _ HSz.out).mono ?_
      rintro e w' ⟨rfl, rfl⟩
      go_wp2_with fail
      go_ret
      exact ⟨ret_b (gameB_no HN.out).symm, below_al (Below.refl _ _) _⟩
  · have HN : Hid (¬ okGame x y ws xss) := Lib.hid (fun h => hs h.1)
    have HSz := Lib.hid hs
    clear hs hc hr hA hB
    go_enter Try.func69, Try.ntmps69
    go_wp2_with fail
    refine (val.sizes_no _ _ _ HSz.out).mono ?_
    rintro e w' ⟨rfl, rfl⟩
    go_wp2_with fail
    go_ret
    exact ⟨ret_b (gameB_no HN.out).symm, below_al (Below.refl _ _) _⟩

end Go.Proofs.Ytimfnhejiiagmaa.gval
