/- The product of two lists, of both sides. -/
import Derived.Test.YtfkdhdiacelcjaaSgr
namespace Go.Proofs.Ytfkdhdiacelcjaa.spd
open Go.RowKit Go.Deep Go.Proofs.Ytfkdhdiacelcjaa.base
open Go.Proofs.Ytfkdhdiacelcjaa.ints (ret_int)
open Go.Proofs.Ytfkdhdiacelcjaa.play (within withinB withinB_yes withinB_no)
open Go.Proofs.Ytfkdhdiacelcjaa.worth (cum cum_bd)

def term (xs ys : List Int) (i : Nat) : Int := xs.getD i 0 * ys.getD i 0
/-- the product of two lists of the same length -/
def dot (xs ys : List Int) : Int := cum (term xs ys) xs.length
theorem at_lt {xs : List Int} {k : Nat} (h : k < xs.length) : xs.getD k 0 = xs[k] := by simp [List.getD, h]
theorem mul81 {a b : Int} (a0 : -9 ≤ a) (a1 : a ≤ 9) (b0 : -9 ≤ b) (b1 : b ≤ 9) : -81 ≤ a * b ∧ a * b ≤ 81 := by
  have h1 : 0 ≤ (9 - a) * (9 + b) := Int.mul_nonneg (by omega) (by omega)
  have h2 : 0 ≤ (9 + a) * (9 - b) := Int.mul_nonneg (by omega) (by omega)
  have h3 : 0 ≤ (9 - a) * (9 - b) := Int.mul_nonneg (by omega) (by omega)
  have h4 : 0 ≤ (9 + a) * (9 + b) := Int.mul_nonneg (by omega) (by omega)
  rw [Int.sub_mul, Int.mul_add, Int.mul_add] at h1
  rw [Int.add_mul, Int.mul_sub, Int.mul_sub] at h2
  rw [Int.sub_mul, Int.mul_sub, Int.mul_sub] at h3
  rw [Int.add_mul, Int.mul_add, Int.mul_add] at h4
  omega
theorem term_bd {n : Int} {xs ys : List Int} (hx : within n (-9) 9 xs) (hy : within n (-9) 9 ys) (i : Nat) (h : i < xs.length) : -81 ≤ term xs ys i ∧ term xs ys i ≤ 81 := by
  have hl : i < ys.length := by have := hx.1; have := hy.1; omega
  unfold term
  rw [at_lt h, at_lt hl]
  have a := hx.2 i h
  have b := hy.2 i hl
  exact mul81 a.1 a.2 b.1 b.2
theorem dot_bd {n : Int} {xs ys : List Int} (hx : within n (-9) 9 xs) (hy : within n (-9) 9 ys) (hn : n ≤ 4) : -324 ≤ dot xs ys ∧ dot xs ys ≤ 324 := by
  have h := cum_bd (g := term xs ys) (m := 81) xs.length (fun t ht => term_bd hx hy t ht)
  have := hx.1
  unfold dot
  omega
/-- what a round of the sum needs -/
theorem step_bd {n : Int} {xs ys : List Int} (hx : within n (-9) 9 xs) (hy : within n (-9) 9 ys) (hn : n ≤ 4) {i : Nat} (h : i < xs.length) :
    IntKind.i64.wrap (xs.getD i 0 * ys.getD i 0) = xs.getD i 0 * ys.getD i 0 ∧ IntKind.i64.wrap (cum (term xs ys) i + xs.getD i 0 * ys.getD i 0) = cum (term xs ys) i + xs.getD i 0 * ys.getD i 0 := by
  have s := cum_bd (g := term xs ys) (m := 81) i (fun t ht => term_bd hx hy t (by omega))
  have t := term_bd hx hy i h
  have hl := hx.1
  have hz : (i : Int) ≤ 4 := by omega
  unfold term at t
  exact ⟨IntWalk.i64_in _ (by omega), IntWalk.i64_in _ (by omega)⟩


set_option maxHeartbeats 1000000 in
theorem spec_dot (v u : Value) (xs ys : List Int) (n : Int) (w : World) (h : Ints w v xs) (h' : Ints w u ys) (hx : within n (-9) 9 xs) (hy : within n (-9) 9 ys) (hn : n ≤ 4) :
    Calls Try.prog 93 #[v, u] w fun e w' => e = .returned (.int .i64 (dot xs ys)) ∧ ∃ m, w' = w.drewN m := by
  obtain ⟨A, b, o, cap, rfl, _, hmax, hA, hc⟩ := h.form
  obtain ⟨A', b', o', cap', rfl, _, _, hA', hc'⟩ := h'.form
  have hm : (xs.length : Int) ≤ 9223372036854775807 := by unfold maxLen at hmax; omega
  have hl : ys.length = xs.length := by have := hx.1; have := hy.1; omega
  have HL := Lib.hid hl
  have HST := Lib.hid (fun (i : Nat) (h : i < xs.length) => step_bd hx hy hn h)
  have HGX := Lib.hid (fun (i : Nat) (h : i < xs.length) => at_lt h)
  have HGY := Lib.hid (fun (i : Nat) (h : i < ys.length) => at_lt h)
  clear h h' hx hy hl hmax
  go_enter Try.func93, Try.ntmps93
  go_wp2_with fail
  go_loopw [5, 6] (fun s i wr => ∃ k : Nat, ∃ c : Int, k ≤ xs.length ∧ i = .int .i64 k ∧ s = .int .i64 c ∧ Hid (c = cum (term xs ys) k) ∧ ∃ q, wr = w.drewN q) (fun _ i _ => xs.length - (intOf i).toNat)
  case atStart => exact ⟨0, 0, Nat.zero_le _, rfl, rfl, rfl, 0, rfl⟩
  case round =>
    obtain ⟨k, c, hk, rfl, rfl, hC, q, rfl⟩ := hrel
    by_cases hlt : k < xs.length
    · have hkz : (k : Int) < (xs.length : Int) := by omega
      have hlt' : k < ys.length := by have := HL.out; omega
      have hkz' : (k : Int) < (ys.length : Int) := by omega
      obtain rfl := hA (by omega)
      obtain rfl := hA' (by omega)
      have g0 := hc k hlt
      have f0 := hc' k hlt'
      rw [← HGX.out k hlt] at g0
      rw [← HGY.out k hlt'] at f0
      obtain ⟨k1, k2⟩ := HST.out k hlt
      rw [← hC.out] at k2
      have HN : Hid (c + xs.getD k 0 * ys.getD k 0 = cum (term xs ys) (k + 1)) := Lib.hid (by rw [hC.out]; rfl)
      have HC := Lib.hid hc
      have HC' := Lib.hid hc'
      clear hc hc' hA hA'
      generalize xs.getD k 0 = n1 at *
      generalize ys.getD k 0 = n2 at *
      go_wp2_with fail
      go_quiet (fail)
      go_wp2_with fail
      go_roundw
      case rel => exact ⟨k + 1, _, by omega, by go_num, rfl, HN, _, rfl⟩
      case measure => simp [intOf]; omega
    · have hkz : ¬ (k : Int) < (xs.length : Int) := by omega
      have HE : Hid (c = dot xs ys) := Lib.hid (by rw [hC.out]; unfold dot; rw [show k = xs.length from by omega])
      clear hc hc' hA hA'
      go_wp2_with fail
      go_ret
      exact ⟨ret_int HE.out, _, rfl⟩


set_option maxHeartbeats 1000000 in
theorem impl_dot (v u : Value) (xs ys : List Int) (n : Int) (w : World) (h : Ints w v xs) (h' : Ints w u ys) (hx : within n (-9) 9 xs) (hy : within n (-9) 9 ys) (hn : n ≤ 4) :
    Calls Try.prog 94 #[v, u] w fun e w' => e = .returned (.int .i64 (dot xs ys)) ∧ w = w' := by
  obtain ⟨A, b, o, cap, rfl, _, hmax, hA, hc⟩ := h.form
  obtain ⟨A', b', o', cap', rfl, _, _, hA', hc'⟩ := h'.form
  have hm : (xs.length : Int) ≤ 9223372036854775807 := by unfold maxLen at hmax; omega
  have hl : ys.length = xs.length := by have := hx.1; have := hy.1; omega
  have HL := Lib.hid hl
  have HST := Lib.hid (fun (i : Nat) (h : i < xs.length) => step_bd hx hy hn h)
  have HGX := Lib.hid (fun (i : Nat) (h : i < xs.length) => at_lt h)
  have HGY := Lib.hid (fun (i : Nat) (h : i < ys.length) => at_lt h)
  clear h h' hx hy hl hmax
  go_enter Try.func94, Try.ntmps94
  go_wp2_with fail
  go_loopw [5, 6, 7, 10] (fun s z1 z2 i wr => ∃ k : Nat, ∃ c : Int, k ≤ xs.length ∧ i = .int .i64 k ∧ s = .int .i64 c ∧ (∃ z', z1 = z') ∧ (∃ z', z2 = z') ∧ Hid (c = cum (term xs ys) k) ∧ w = wr) (fun _ _ _ i _ => xs.length - (intOf i).toNat)
  case atStart => exact ⟨0, 0, Nat.zero_le _, rfl, rfl, ⟨_, rfl⟩, ⟨_, rfl⟩, rfl, rfl⟩
  case round =>
    obtain ⟨k, c, hk, rfl, rfl, ⟨z1, rfl⟩, ⟨z2, rfl⟩, hC, rfl⟩ := hrel
    by_cases hlt : k < xs.length
    · have hkz : (k : Int) < (xs.length : Int) := by omega
      have hlt' : k < ys.length := by have := HL.out; omega
      have hkz' : (k : Int) < (ys.length : Int) := by omega
      obtain rfl := hA (by omega)
      obtain rfl := hA' (by omega)
      have g0 := hc k hlt
      have f0 := hc' k hlt'
      rw [← HGX.out k hlt] at g0
      rw [← HGY.out k hlt'] at f0
      obtain ⟨k1, k2⟩ := HST.out k hlt
      rw [← hC.out] at k2
      have HN : Hid (c + xs.getD k 0 * ys.getD k 0 = cum (term xs ys) (k + 1)) := Lib.hid (by rw [hC.out]; rfl)
      have HC := Lib.hid hc
      have HC' := Lib.hid hc'
      clear hc hc' hA hA'
      generalize xs.getD k 0 = n1 at *
      generalize ys.getD k 0 = n2 at *
      go_wp2_with fail
      go_roundw
      case rel => exact ⟨k + 1, _, by omega, by go_num, rfl, ⟨_, rfl⟩, ⟨_, rfl⟩, HN, by first | rfl | trivial⟩
      case measure => simp [intOf]; omega
    · have hkz : ¬ (k : Int) < (xs.length : Int) := by omega
      have HE : Hid (c = dot xs ys) := Lib.hid (by rw [hC.out]; unfold dot; rw [show k = xs.length from by omega])
      clear hc hc' hA hA'
      go_wp2_with fail
      go_ret
      exact ⟨ret_int HE.out, rfl⟩

end Go.Proofs.Ytfkdhdiacelcjaa.spd
