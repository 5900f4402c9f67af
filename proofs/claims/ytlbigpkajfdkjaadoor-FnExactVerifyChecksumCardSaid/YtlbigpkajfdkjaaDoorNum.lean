import Derived.Test.YtlbigpkajfdkjaaDoorRows
import Derived.Test.YtlbigpkajfdkjaaDoorShelf
import Derived.WalkKit
import Derived.WalkSpells
import Derived.Deep.QuietTactic
import Derived.BigQuiet
import Derived.Lib.ItoaMem
import Derived.Lib.Hide
import Derived.Lib.ItoaLen
import Derived.IntWalk
namespace Go.Proofs.YtlbigpkajfdkjaaDoor.num
open Go.RowKit

theorem ret_str {a b : List UInt8} (h : a = b) : Ending.returned (.string ⟨a.toArray⟩) = .returned (.string ⟨b.toArray⟩) := by rw [h]
theorem digit_fin : ∀ i : Fin 10, (([48, 49, 50, 51, 52, 53, 54, 55, 56, 57] : List UInt8).drop i.val).take 1 = [UInt8.ofNat (48 + i.val)] := by decide +kernel
theorem digit_at {i : Nat} (h : i < 10) : (([48, 49, 50, 51, 52, 53, 54, 55, 56, 57] : List UInt8).drop i).take 1 = [UInt8.ofNat (48 + i)] := digit_fin ⟨i, h⟩


theorem extract_list (l : List UInt8) (a b : Nat) : (⟨l.toArray⟩ : ByteArray).extract a b = ⟨((l.drop a).take (b - a)).toArray⟩ := by
  apply ByteArray.ext
  rw [ByteArray.data_extract]
  apply Array.ext'
  simp

theorem one_digit {u : Nat} (h : u < 10) : Ending.returned (.string ((⟨#[48, 49, 50, 51, 52, 53, 54, 55, 56, 57]⟩ : ByteArray).extract u (u + 1))) = .returned (.string ⟨(Lib.decDigits u).toArray⟩) := by
  rw [show (#[48, 49, 50, 51, 52, 53, 54, 55, 56, 57] : Array UInt8) = ([48, 49, 50, 51, 52, 53, 54, 55, 56, 57] : List UInt8).toArray from rfl, extract_list, Nat.add_sub_cancel_left, digit_at h, Lib.decDigits_one h]

theorem len_le (u : Nat) (h : u ≤ 1000000000000) : (Lib.decDigits u).length ≤ 21 := by
  have := Lib.itoa_length_le (u : Int) (by omega) (by omega)
  rwa [Lib.itoa_nonneg] at this

theorem cat_digit {u q r : Nat} (hr : r < 10) (hu : u = 10 * q + r) (h10 : ¬ u < 10) (hq : q ≤ 1000000000000) (w : World) :
    (Op.stringOp .add ⟨(Lib.decDigits q).toArray⟩ ((⟨#[48, 49, 50, 51, 52, 53, 54, 55, 56, 57]⟩ : ByteArray).extract r (r + 1))).run Tryd.prog w = .ok (.string ⟨(Lib.decDigits u).toArray⟩) w := by
  have hl := len_le q hq
  rw [show (#[48, 49, 50, 51, 52, 53, 54, 55, 56, 57] : Array UInt8) = ([48, 49, 50, 51, 52, 53, 54, 55, 56, 57] : List UInt8).toArray from rfl, extract_list, Nat.add_sub_cancel_left, digit_at hr,
    run_string_add_lists w _ _ (by omega) (by simp)]
  have e : Lib.decDigits u = Lib.decDigits q ++ [UInt8.ofNat (48 + r)] := by
    rw [Lib.decDigits, dif_neg h10, show u / 10 = q by omega, show u % 10 = r by omega]
  rw [e]

set_option maxHeartbeats 1000000 in
theorem pos_any (k : Nat) : ∀ (u : Nat) (w : World), u < k → u ≤ 1000000000000 →
    Calls Tryd.prog 25 #[.int .i64 (u : Int)] w fun e w' => e = .returned (.string ⟨(Lib.decDigits u).toArray⟩) ∧ ∃ q, w' = w.drewN q := by
  induction k with
  | zero => intro n w h1 _; omega
  | succ k ih =>
    intro u w hk hb
    by_cases hs : u < 10
    · go_enter Tryd.func25, Tryd.ntmps25
      go_wp2_with fail
      go_ret
      exact ⟨one_digit hs, 0, rfl⟩
    · obtain ⟨q, r, hr, HU⟩ : ∃ q r : Nat, r < 10 ∧ Hid (u = 10 * q + r) := ⟨u / 10, u % 10, by omega, Lib.hid (by omega)⟩
      have hq : q < k := by have := HU.out; omega
      have hq1 : q ≤ 1000000000000 := by have := HU.out; omega
      have e1 : IntKind.i64.wrap ((u : Int) / 10) = (q : Int) := by
        have := HU.out; rw [IntWalk.i64_in _ (by omega)]; omega
      have e2 : (u : Int).tmod 10 = (r : Int) := by
        have := HU.out; rw [Int.tmod_eq_emod_of_nonneg (by omega)]; omega
      have e3 : IntKind.i64.wrap ((r : Int) + 1) = (r : Int) + 1 := IntWalk.i64_in _ (by omega)
      have e4 : ((r : Int) + 1).toNat = r + 1 := by omega
      have g1 : (0 : Int) ≤ (r : Int) + 1 := by omega
      have g2 : (0 : Int) ≤ (r : Int) := by omega
      have g3 : (r : Int) ≤ (r : Int) + 1 := by omega
      have g4 : (r : Int) + 1 ≤ 10 := by omega
      have g5 : r + 1 ≤ 10 := by omega
      have g6 : r ≤ r + 1 := by omega
      have ih' := ih q
      have hcat := fun w => cat_digit hr HU.out hs hq1 w
      clear ih
      go_enter Tryd.func25, Tryd.ntmps25
      go_wp2_with fail
      go_quiet ((go_at_call 25; exact Calls.quiet_of (ih' _ hq hq1)))
      go_wp2_with fail
      go_ret
      exact ⟨rfl, _, rfl⟩

theorem cat_minus (u : Nat) (h : u ≤ 1000000000000) (h1 : 1 ≤ u) (w : World) :
    (Op.stringOp .add ⟨#[45]⟩ ⟨(Lib.decDigits u).toArray⟩).run Tryd.prog w = .ok (.string ⟨(Lib.itoa (-(u : Int))).toArray⟩) w := by
  have hl := len_le u h
  rw [show (#[45] : Array UInt8) = ([45] : List UInt8).toArray from rfl, run_string_add_lists w _ _ (by simp) (by omega), Lib.itoa_neg u h1]
  rfl

set_option maxHeartbeats 400000 in
theorem l1Num_any (n : Int) (w : World) (h0 : -1000000000000 ≤ n) (h1 : n ≤ 1000000000000) :
    Calls Tryd.prog 25 #[.int .i64 n] w fun e w' => e = .returned (.string ⟨(Lib.itoa n).toArray⟩) ∧ ∃ q, w' = w.drewN q := by
  by_cases hn : n < 0
  · obtain ⟨u, rfl⟩ : ∃ u : Nat, n = -(u : Int) := ⟨n.natAbs, by omega⟩
    have hu : 1 ≤ u := by omega
    have hu2 : u ≤ 1000000000000 := by omega
    have hcat := fun w => cat_minus u hu2 hu w
    have hneg : (0 : Int) ≤ (u : Int) := by omega
    go_enter Tryd.func25, Tryd.ntmps25
    go_wp2_with ((go_at_call 25; refine (pos_any (u + 1) u _ (by omega) hu2).mono ?_; rintro e w' ⟨rfl, q, rfl⟩))
    go_ret
    exact ⟨rfl, _, rfl⟩
  · obtain ⟨u, rfl⟩ : ∃ u : Nat, n = (u : Int) := ⟨n.toNat, by omega⟩
    have := pos_any (u + 1) u w (by omega) (by omega)
    rw [Lib.itoa_nonneg]
    exact this
end Go.Proofs.YtlbigpkajfdkjaaDoor.num
