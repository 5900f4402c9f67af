/- Lists of signs of both sides; the model's l5Switch. -/
import Derived.Test.YtfkdhdiacelcjaaSgr
import Derived.Test.YtfkdhdiacelcjaaPile
import Derived.Test.YtfkdhdiacelcjaaStep
import Derived.Deep.RegionHeld3
namespace Go.Proofs.Ytfkdhdiacelcjaa.sws
open Go.RowKit Go.Deep Go.Proofs.Ytfkdhdiacelcjaa.base
open Go.Proofs.Ytfkdhdiacelcjaa.ints (ret_int infoInt infoInts)
open Go.Proofs.Ytfkdhdiacelcjaa.rws (total)
open Go.Proofs.Ytfkdhdiacelcjaa.play (within withinB withinB_yes withinB_no)
open Go.Proofs.Ytfkdhdiacelcjaa.sgn (wide okSign signB signB_yes signB_no)
open Go.Proofs.Ytfkdhdiacelcjaa.val (ret_b)
open Go.Proofs.Ytfkdhdiacelcjaa.row (nn)

def signs (n : Int) (xs : List Int) : Prop := (xs.length : Int) = n ∧ ∀ k (h : k < xs.length), xs[k] = 1 ∨ xs[k] = -1
open Classical in
noncomputable def signsB (n : Int) (xs : List Int) : Bool := if signs n xs then true else false
theorem signsB_yes {n : Int} {xs : List Int} (h : signs n xs) : signsB n xs = true := if_pos h
theorem signsB_no {n : Int} {xs : List Int} (h : ¬ signs n xs) : signsB n xs = false := if_neg h

/-- a number of the switched game -/
def sw (xss : List (List Int)) (rs ps : List Int) (r c : Nat) : Int := nn xss r c * rs.getD r 0 * ps.getD c 0
def swrow (xss : List (List Int)) (rs ps : List Int) (Y r : Nat) : List Int := (List.range Y).map (sw xss rs ps r)
def swrows (xss : List (List Int)) (rs ps : List Int) (Y X : Nat) : List (List Int) := (List.range X).map (swrow xss rs ps Y)
theorem len_swrow (xss : List (List Int)) (rs ps : List Int) (Y r : Nat) : (swrow xss rs ps Y r).length = Y := by simp [swrow]
theorem len_swrows (xss : List (List Int)) (rs ps : List Int) (Y X : Nat) : (swrows xss rs ps Y X).length = X := by simp [swrows]
theorem swrow_succ (xss : List (List Int)) (rs ps : List Int) (Y r : Nat) : swrow xss rs ps (Y + 1) r = swrow xss rs ps Y r ++ [sw xss rs ps r Y] := by simp [swrow, List.range_succ]
theorem swrows_succ (xss : List (List Int)) (rs ps : List Int) (Y X : Nat) : swrows xss rs ps Y (X + 1) = swrows xss rs ps Y X ++ [swrow xss rs ps Y X] := by simp [swrows, List.range_succ]
theorem total_swrows (xss : List (List Int)) (rs ps : List Int) (Y X : Nat) (hY : Y ≤ 3) (hX : X ≤ 3) : total (swrows xss rs ps Y X) ≤ 1048576 := by
  have : ∀ k, ((swrows xss rs ps Y k).map List.length).sum = Y * k := by
    intro k
    induction k with
    | zero => rfl
    | succ k ih => rw [swrows_succ, List.map_append, List.sum_append, ih]; simp [len_swrow, Nat.mul_add]
  have h9 : Y * X ≤ 3 * 3 := Nat.mul_le_mul hY hX
  unfold total; rw [this, len_swrows]; omega
open Classical in
noncomputable def res (xss : List (List Int)) (rs ps : List Int) : List (List Int) × Bool := if okSign xss ∧ signs xss.length rs ∧ signs ((wide xss : Nat) : Int) ps then (swrows xss rs ps (wide xss) xss.length, true) else ([], false)
theorem res_yes {xss : List (List Int)} {rs ps : List Int} (h : okSign xss ∧ signs xss.length rs ∧ signs ((wide xss : Nat) : Int) ps) : res xss rs ps = (swrows xss rs ps (wide xss) xss.length, true) := if_pos h
theorem res_no {xss : List (List Int)} {rs ps : List Int} (h : ¬ (okSign xss ∧ signs xss.length rs ∧ signs ((wide xss : Nat) : Int) ps)) : res xss rs ps = ([], false) := if_neg h
theorem tot (xss : List (List Int)) (rs ps : List Int) : total (res xss rs ps).1 ≤ 1048576 := by
  by_cases h : okSign xss ∧ signs xss.length rs ∧ signs ((wide xss : Nat) : Int) ps
  · rw [res_yes h]; exact total_swrows _ _ _ _ _ (sgn.wide3 h.1).2 (sgn.len3 h.1)
  · rw [res_no h]; exact Nat.zero_le _
theorem sign_at {n : Int} {xs : List Int} (h : signs n xs) {k : Nat} (hk : k < xs.length) : xs.getD k 0 = 1 ∨ xs.getD k 0 = -1 := by
  rw [show xs.getD k 0 = xs[k] from by simp [List.getD, hk]]; exact h.2 k hk


set_option maxHeartbeats 1000000 in
theorem has2 (g c : Nat) (x : Int) (w : World) (h0 : w.cell? ⟨g, 0, none⟩ = some (.int .i64 1)) (h1 : w.cell? ⟨g, 1, none⟩ = some (.int .i64 (-1))) (hx : x = 1 ∨ x = -1) :
    Calls Try.prog 104 #[.slice (some ⟨g, 0, none⟩) 2 c, .int .i64 x] w fun e w' => e = .returned (.bool true) ∧ w = w' := by
  go_enter Try.func104, Try.ntmps104
  go_wp2_with fail
  go_loopw [4, 5] (fun q i wr => ∃ k : Nat, k ≤ 2 ∧ i = .int .i64 k ∧ q = .bool false ∧ (k = 1 → x = -1) ∧ (k = 2 → False) ∧ w = wr) (fun _ i _ => 2 - (intOf i).toNat)
  case atStart => exact ⟨0, by omega, rfl, rfl, by omega, by omega, rfl⟩
  case round =>
    obtain ⟨k, hk, rfl, rfl, e1, e2, rfl⟩ := hrel
    obtain rfl | rfl | rfl : k = 0 ∨ k = 1 ∨ k = 2 := by omega
    · by_cases hh : x = 1
      · subst hh
        clear e1 e2 hx
        go_wp2_with fail
        go_ret
        exact ⟨rfl, rfl⟩
      · have d1 : ((1 : Int) == x) = false := beq_eq_false_iff_ne.2 (fun e => hh e.symm)
        have hm : x = -1 := by omega
        clear e1 e2 hx
        go_wp2_with fail
        go_roundw
        case rel => exact ⟨1, by omega, by go_num, rfl, fun _ => hm, by omega, by first | rfl | trivial⟩
        case measure => simp [intOf]
    · obtain rfl := e1 rfl
      clear e1 e2 hx
      go_wp2_with fail
      go_ret
      exact ⟨rfl, rfl⟩
    · exact absurd rfl e2
set_option maxHeartbeats 1000000 in
theorem hasno (g c : Nat) (x : Int) (w : World) (h0 : w.cell? ⟨g, 0, none⟩ = some (.int .i64 1)) (h1 : w.cell? ⟨g, 1, none⟩ = some (.int .i64 (-1))) (hx : ¬ (x = 1 ∨ x = -1)) :
    Calls Try.prog 104 #[.slice (some ⟨g, 0, none⟩) 2 c, .int .i64 x] w fun e w' => e = .returned (.bool false) ∧ w = w' := by
  have d1 : ((1 : Int) == x) = false := beq_eq_false_iff_ne.2 (fun e => hx (.inl e.symm))
  have d2 : ((-1 : Int) == x) = false := beq_eq_false_iff_ne.2 (fun e => hx (.inr e.symm))
  clear hx
  go_enter Try.func104, Try.ntmps104
  go_wp2_with fail
  go_loopw [4, 5] (fun q i wr => ∃ k : Nat, k ≤ 2 ∧ i = .int .i64 k ∧ q = .bool false ∧ w = wr) (fun _ i _ => 2 - (intOf i).toNat)
  case atStart => exact ⟨0, by omega, rfl, rfl, rfl⟩
  case round =>
    obtain ⟨k, hk, rfl, rfl, rfl⟩ := hrel
    obtain rfl | rfl | rfl : k = 0 ∨ k = 1 ∨ k = 2 := by omega
    · go_wp2_with fail
      go_roundw
      case rel => exact ⟨1, by omega, by go_num, rfl, by first | rfl | trivial⟩
      case measure => simp [intOf]
    · go_wp2_with fail
      go_roundw
      case rel => exact ⟨2, by omega, by go_num, rfl, by first | rfl | trivial⟩
      case measure => simp [intOf]
    · go_wp2_with fail
      go_ret
      exact ⟨rfl, rfl⟩



set_option maxHeartbeats 2000000 in
theorem spec_are (v : Value) (xs : List Int) (n : Int) (w : World) (h : Ints w v xs) :
    Calls Try.prog 96 #[v, .int .i64 n] w fun e w' => e = .returned (.bool (signsB n xs)) ∧ Below w.heap.size w w' := by
  obtain ⟨A, b, o, cap, rfl, hcap, hmax, hA, hc⟩ := h.form
  have hm : (xs.length : Int) ≤ 9223372036854775807 := by unfold maxLen at hmax; omega
  clear h hmax
  go_enter Try.func96, Try.ntmps96
  go_wp2_with fail
  go_loopw [4, 5] (fun q i wr => ∃ k : Nat, k ≤ xs.length ∧ i = .int .i64 k ∧ q = .bool false ∧ Hid (∀ j (h : j < xs.length), j < k → xs[j] = 1 ∨ xs[j] = -1) ∧ Hid (Below w.heap.size w wr)) (fun _ i _ => xs.length - (intOf i).toNat)
  case atStart => exact ⟨0, Nat.zero_le _, rfl, rfl, fun j _ hj => by omega, Lib.hid (Below.refl _ _)⟩
  case round =>
    obtain ⟨k, hk, rfl, rfl, hH, hB⟩ := hrel
    obtain ⟨wi, rfl⟩ : ∃ wi : World, wi = wr := ⟨_, rfl⟩
    by_cases hlt : k < xs.length
    · have hkz : (k : Int) < (xs.length : Int) := by omega
      obtain rfl := hA (by omega)
      have g0 := below_cell (below_al hB.out (.cells #[.int .i64 1, .int .i64 (-1)] 3)) _ _ (hc k hlt)
      have h0 : (wi.alloc (.cells #[.int .i64 1, .int .i64 (-1)] 3)).cell? ⟨wi.heap.size, 0, none⟩ = some (.int .i64 1) := by rw [Joins.cell_of_block (heap_alloc_new _ _)]; rfl
      have h1 : (wi.alloc (.cells #[.int .i64 1, .int .i64 (-1)] 3)).cell? ⟨wi.heap.size, 1, none⟩ = some (.int .i64 (-1)) := by rw [Joins.cell_of_block (heap_alloc_new _ _)]; rfl
      have HC := Lib.hid hc
      have B2 := Lib.hid (below_al hB.out (.cells #[.int .i64 1, .int .i64 (-1)] 3))
      clear hc hA
      by_cases hin : xs[k] = 1 ∨ xs[k] = -1
      · have HIN := Lib.hid hin
        have HF := Lib.hid (has2 wi.heap.size 2 xs[k] _ h0 h1 hin)
        clear hin h0 h1
        go_wp2_with fail
        refine HF.out.mono ?_
        rintro e w' ⟨rfl, rfl⟩
        go_wp2_with fail
        go_roundw
        case rel =>
          refine ⟨k + 1, by omega, by go_num, rfl, fun j hj hj' => ?_, B2⟩
          by_cases e : j = k
          · subst e; exact HIN.out
          · exact hH.out j hj (by omega)
        case measure => simp [intOf]; omega
      · have HN : Hid (¬ signs n xs) := Lib.hid (fun h => hin (h.2 k hlt))
        have HF := Lib.hid (hasno wi.heap.size 2 xs[k] _ h0 h1 hin)
        clear hin h0 h1
        go_wp2_with fail
        refine HF.out.mono ?_
        rintro e w' ⟨rfl, rfl⟩
        go_wp2_with fail
        go_ret
        exact ⟨ret_b (signsB_no HN.out).symm, B2.out⟩
    · have hkz : ¬ (k : Int) < (xs.length : Int) := by omega
      clear hc hA
      by_cases hl : (xs.length : Int) = n
      · have dl : ((xs.length : Int) == n) = true := by simp [hl]
        have HN : Hid (signs n xs) := Lib.hid ⟨hl, fun j hj => hH.out j hj (by omega)⟩
        clear hl
        go_wp2_with fail
        go_ret
        exact ⟨ret_b (signsB_yes HN.out).symm, hB.out⟩
      · have dl : ((xs.length : Int) == n) = false := beq_eq_false_iff_ne.2 hl
        have HN : Hid (¬ signs n xs) := Lib.hid (fun h => hl h.1)
        clear hl
        go_wp2_with fail
        go_ret
        exact ⟨ret_b (signsB_no HN.out).symm, hB.out⟩



set_option maxHeartbeats 1000000 in
theorem index_no (v : Value) (xs : List Int) (w : World) (h : Ints w v xs) (hx : ∀ k (h : k < xs.length), xs[k] ≠ 0) :
    Calls Try.prog 123 #[v, .int .i64 0] w fun e w' => e = .returned (.int .i64 (-1)) ∧ w = w' := by
  obtain ⟨A, b, o, cap, rfl, hcap, hmax, hA, hc⟩ := h.form
  have hm : (xs.length : Int) ≤ 9223372036854775807 := by unfold maxLen at hmax; omega
  have HX := Lib.hid hx
  clear h hmax hx
  go_enter Try.func123, Try.ntmps123
  go_wp2_with fail
  go_loopw [4, 5, 8] (fun q z i wr => ∃ k : Nat, k ≤ xs.length ∧ i = .int .i64 k ∧ q = .int .i64 0 ∧ (∃ z', z = z') ∧ w = wr) (fun _ _ i _ => xs.length - (intOf i).toNat)
  case atStart => exact ⟨0, Nat.zero_le _, rfl, rfl, ⟨_, rfl⟩, rfl⟩
  case round =>
    obtain ⟨k, hk, rfl, rfl, ⟨z', rfl⟩, rfl⟩ := hrel
    by_cases hlt : k < xs.length
    · have hkz : (k : Int) < (xs.length : Int) := by omega
      obtain rfl := hA (by omega)
      have g0 := hc k hlt
      have d1 : ((0 : Int) == xs[k]) = false := beq_eq_false_iff_ne.2 (fun e => HX.out k hlt e.symm)
      have HC := Lib.hid hc
      clear hc hA
      go_wp2_with fail
      go_roundw
      case rel => exact ⟨k + 1, by omega, by go_num, rfl, ⟨_, rfl⟩, by first | rfl | trivial⟩
      case measure => simp [intOf]; omega
    · have hkz : ¬ (k : Int) < (xs.length : Int) := by omega
      clear hc hA
      go_wp2_with fail
      go_ret
      exact ⟨rfl, rfl⟩
set_option maxHeartbeats 1000000 in
theorem index_yes (v : Value) (xs : List Int) (w : World) (h : Ints w v xs) (hx : ¬ ∀ k (h : k < xs.length), xs[k] ≠ 0) :
    Calls Try.prog 123 #[v, .int .i64 0] w fun e w' => ∃ k : Nat, e = .returned (.int .i64 k) ∧ w = w' := by
  obtain ⟨A, b, o, cap, rfl, hcap, hmax, hA, hc⟩ := h.form
  have hm : (xs.length : Int) ≤ 9223372036854775807 := by unfold maxLen at hmax; omega
  have HX := Lib.hid hx
  clear h hmax hx
  go_enter Try.func123, Try.ntmps123
  go_wp2_with fail
  go_loopw [4, 5, 8] (fun q z i wr => ∃ k : Nat, k ≤ xs.length ∧ i = .int .i64 k ∧ q = .int .i64 0 ∧ (∃ z', z = z') ∧ Hid (∀ j (h : j < xs.length), j < k → xs[j] ≠ 0) ∧ w = wr) (fun _ _ i _ => xs.length - (intOf i).toNat)
  case atStart => exact ⟨0, Nat.zero_le _, rfl, rfl, ⟨_, rfl⟩, fun j _ hj => by omega, rfl⟩
  case round =>
    obtain ⟨k, hk, rfl, rfl, ⟨z', rfl⟩, hH, rfl⟩ := hrel
    by_cases hlt : k < xs.length
    · have hkz : (k : Int) < (xs.length : Int) := by omega
      obtain rfl := hA (by omega)
      have g0 := hc k hlt
      have HC := Lib.hid hc
      clear hc hA
      by_cases hz : xs[k] = 0
      · rw [hz] at g0
        clear hz
        go_wp2_with fail
        go_ret
        exact ⟨k, rfl, rfl⟩
      · have d1 : ((0 : Int) == xs[k]) = false := beq_eq_false_iff_ne.2 (fun e => hz e.symm)
        have HZ := Lib.hid hz
        clear hz
        go_wp2_with fail
        go_roundw
        case rel =>
          refine ⟨k + 1, by omega, by go_num, rfl, ⟨_, rfl⟩, fun j hj hj' => ?_, by first | rfl | trivial⟩
          by_cases e : j = k
          · subst e; exact HZ.out
          · exact hH.out j hj (by omega)
        case measure => simp [intOf]; omega
    · exact absurd (fun j hj => hH.out j hj (by omega)) HX.out
set_option maxHeartbeats 1000000 in
theorem contains_no (v : Value) (xs : List Int) (w : World) (h : Ints w v xs) (hx : ∀ k (h : k < xs.length), xs[k] ≠ 0) :
    Calls Try.prog 115 #[v, .int .i64 0] w fun e w' => e = .returned (.bool false) ∧ w = w' := by
  have HI := Lib.hid (index_no v xs w h hx)
  obtain ⟨va, vn, vc, rfl⟩ := h.shape
  clear h hx
  go_enter Try.func115, Try.ntmps115
  go_wp2_with fail
  refine HI.out.mono ?_
  rintro e w' ⟨rfl, rfl⟩
  go_wp2_with fail
  go_ret
  exact ⟨rfl, rfl⟩
set_option maxHeartbeats 1000000 in
theorem contains_yes (v : Value) (xs : List Int) (w : World) (h : Ints w v xs) (hx : ¬ ∀ k (h : k < xs.length), xs[k] ≠ 0) :
    Calls Try.prog 115 #[v, .int .i64 0] w fun e w' => e = .returned (.bool true) ∧ w = w' := by
  have HI := Lib.hid (index_yes v xs w h hx)
  obtain ⟨va, vn, vc, rfl⟩ := h.shape
  clear h hx
  go_enter Try.func115, Try.ntmps115
  go_wp2_with fail
  refine HI.out.mono ?_
  rintro e w' ⟨k, rfl, rfl⟩
  have d1 : decide ((0 : Int) ≤ (k : Int)) = true := by simp
  go_wp2_with fail
  go_ret
  exact ⟨rfl, rfl⟩
set_option maxHeartbeats 1000000 in
theorem impl_are (v : Value) (xs : List Int) (n : Int) (w : World) (h : Ints w v xs) :
    Calls Try.prog 98 #[v, .int .i64 n] w fun e w' => e = .returned (.bool (signsB n xs)) ∧ w = w' := by
  have HW := Lib.hid (play.impl_within v xs n (-1) 1 w h)
  have HIN := Lib.hid (contains_no v xs w h)
  have HIY := Lib.hid (contains_yes v xs w h)
  obtain ⟨va, vn, vc, rfl⟩ := h.shape
  clear h
  by_cases hw : within n (-1) 1 xs
  · have HE := Lib.hid (withinB_yes hw)
    by_cases hz : ∀ k (h : k < xs.length), xs[k] ≠ 0
    · have HS : Hid (signs n xs) := Lib.hid ⟨hw.1, fun k hk => by have a := hw.2 k hk; have b := hz k hk; omega⟩
      have HI := Lib.hid (HIN.out hz)
      clear hw hz HIN HIY
      go_enter Try.func98, Try.ntmps98
      go_wp2_with fail
      refine HW.out.mono ?_
      rintro e w' ⟨rfl, rfl⟩
      rw [HE.out]
      go_wp2_with fail
      refine HI.out.mono ?_
      rintro e w' ⟨rfl, rfl⟩
      go_wp2_with fail
      go_ret
      exact ⟨ret_b (signsB_yes HS.out).symm, rfl⟩
    · have HS : Hid (¬ signs n xs) := Lib.hid (fun h => hz (fun k hk => by have := h.2 k hk; omega))
      have HI := Lib.hid (HIY.out hz)
      clear hw hz HIN HIY
      go_enter Try.func98, Try.ntmps98
      go_wp2_with fail
      refine HW.out.mono ?_
      rintro e w' ⟨rfl, rfl⟩
      rw [HE.out]
      go_wp2_with fail
      refine HI.out.mono ?_
      rintro e w' ⟨rfl, rfl⟩
      go_wp2_with fail
      go_ret
      exact ⟨ret_b (signsB_no HS.out).symm, rfl⟩
  · have HE := Lib.hid (withinB_no hw)
    have HS : Hid (¬ signs n xs) := Lib.hid (fun h => hw ⟨h.1, fun k hk => by have := h.2 k hk; omega⟩)
    clear hw HIN HIY
    go_enter Try.func98, Try.ntmps98
    go_wp2_with fail
    refine HW.out.mono ?_
    rintro e w' ⟨rfl, rfl⟩
    rw [HE.out]
    go_wp2_with fail
    go_ret
    exact ⟨ret_b (signsB_no HS.out).symm, rfl⟩


end Go.Proofs.Ytfkdhdiacelcjaa.sws
