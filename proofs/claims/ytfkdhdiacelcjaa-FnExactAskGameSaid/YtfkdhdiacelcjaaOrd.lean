/- Orders of questions: l4Order of the model, isOrder of the program. -/
import Derived.Test.YtfkdhdiacelcjaaPlay
namespace Go.Proofs.Ytfkdhdiacelcjaa.ord
open Go.RowKit Go.Deep Go.Proofs.Ytfkdhdiacelcjaa.base
open Go.Proofs.Ytfkdhdiacelcjaa.val (ret_b)
open Go.Proofs.Ytfkdhdiacelcjaa.play (within withinB withinB_yes withinB_no)

/-- a list of all of 0..n-1, each once -/
def order (n : Int) (xs : List Int) : Prop := (xs.length : Int) = n ∧ ∀ i : Int, 0 ≤ i → i < n → i ∈ xs
open Classical in
noncomputable def orderB (n : Int) (xs : List Int) : Bool := if order n xs then true else false
theorem orderB_yes {n : Int} {xs : List Int} (h : order n xs) : orderB n xs = true := if_pos h
theorem orderB_no {n : Int} {xs : List Int} (h : ¬ order n xs) : orderB n xs = false := if_neg h
/-- no number comes twice -/
def once (xs : List Int) : Prop := ∀ k (h : k < xs.length), (xs.take k).contains xs[k] = false

theorem three {xs : List Int} {n : Nat} (h : xs.length = n) (h1 : 1 ≤ n) (h3 : n ≤ 3) : (∃ a, xs = [a]) ∨ (∃ a b, xs = [a, b]) ∨ ∃ a b c, xs = [a, b, c] := by
  match xs, h with
  | [a], _ => exact .inl ⟨a, rfl⟩
  | [a, b], _ => exact .inr (.inl ⟨a, b, rfl⟩)
  | [a, b, c], _ => exact .inr (.inr ⟨a, b, c, rfl⟩)
  | [], h => simp at h; omega
  | a :: b :: c :: d :: e, h => simp at h; omega
theorem once1 (a : Int) : once [a] := by intro k hk; simp at hk; subst hk; rfl
theorem once2 (a b : Int) : once [a, b] ↔ b ≠ a := by
  constructor
  · intro h e; have := h 1 (by simp); simp [e] at this
  · intro h k hk
    obtain rfl | rfl : k = 0 ∨ k = 1 := by simp at hk; omega
    · rfl
    · simp [h]
theorem once3 (a b c : Int) : once [a, b, c] ↔ b ≠ a ∧ c ≠ a ∧ c ≠ b := by
  constructor
  · intro h
    have h1 := h 1 (by simp)
    have h2 := h 2 (by simp)
    simp at h1 h2
    exact ⟨h1, h2⟩
  · intro h k hk
    obtain rfl | rfl | rfl : k = 0 ∨ k = 1 ∨ k = 2 := by simp at hk; omega
    · rfl
    · simp [h.1]
    · simp [h.2.1, h.2.2]
/-- the two ways to say it -/
theorem order_iff {n : Int} {xs : List Int} (h1 : 1 ≤ n) (h3 : n ≤ 3) : order n xs ↔ within n 0 (n - 1) xs ∧ once xs := by
  by_cases hl : (xs.length : Int) = n
  · rcases three (n := xs.length) rfl (by omega) (by omega) with ⟨a, rfl⟩ | ⟨a, b, rfl⟩ | ⟨a, b, c, rfl⟩
    · have hn : n = 1 := by simpa using hl.symm
      subst hn
      constructor
      · intro h
        have := h.2 0 (by omega) (by omega)
        simp at this
        refine ⟨⟨hl, fun k hk => ?_⟩, once1 _⟩
        have : k = 0 := by simp at hk; omega
        subst this; simp; omega
      · intro h
        have := h.1.2 0 (by simp)
        simp at this
        exact ⟨hl, fun i i0 i1 => by simp; omega⟩
    · have hn : n = 2 := by simpa using hl.symm
      subst hn
      constructor
      · intro h
        have e0 := h.2 0 (by omega) (by omega)
        have e1 := h.2 1 (by omega) (by omega)
        simp at e0 e1
        refine ⟨⟨hl, fun k hk => ?_⟩, (once2 a b).2 (by omega)⟩
        obtain rfl | rfl : k = 0 ∨ k = 1 := by simp at hk; omega
        · simp; omega
        · simp; omega
      · intro h
        have e0 := h.1.2 0 (by simp)
        have e1 := h.1.2 1 (by simp)
        simp at e0 e1
        have e2 := (once2 a b).1 h.2
        exact ⟨hl, fun i i0 i1 => by simp; omega⟩
    · have hn : n = 3 := by simpa using hl.symm
      subst hn
      constructor
      · intro h
        have e0 := h.2 0 (by omega) (by omega)
        have e1 := h.2 1 (by omega) (by omega)
        have e2 := h.2 2 (by omega) (by omega)
        simp at e0 e1 e2
        refine ⟨⟨hl, fun k hk => ?_⟩, (once3 a b c).2 (by omega)⟩
        obtain rfl | rfl | rfl : k = 0 ∨ k = 1 ∨ k = 2 := by simp at hk; omega
        · simp; omega
        · simp; omega
        · simp; omega
      · intro h
        have e0 := h.1.2 0 (by simp)
        have e1 := h.1.2 1 (by simp)
        have e2 := h.1.2 2 (by simp)
        simp at e0 e1 e2
        have e3 := (once3 a b c).1 h.2
        exact ⟨hl, fun i i0 i1 => by simp; omega⟩
  · exact ⟨fun h => absurd h.1 hl, fun h => absurd h.1.1 hl⟩


set_option maxHeartbeats 1000000 in
theorem has_yes (v : Value) (xs : List Int) (x : Int) (w : World) (h : Ints w v xs) (hx : x ∈ xs) :
    Calls Try.prog 104 #[v, .int .i64 x] w fun e w' => e = .returned (.bool true) ∧ w = w' := by
  obtain ⟨A, b, o, cap, rfl, hcap, hmax, hA, hc⟩ := h.form
  have hm : (xs.length : Int) ≤ 9223372036854775807 := by unfold maxLen at hmax; omega
  have HX := Lib.hid hx
  clear h hmax hx
  go_enter Try.func104, Try.ntmps104
  go_wp2_with fail
  go_loopw [4, 5] (fun q i wr => ∃ k : Nat, k ≤ xs.length ∧ i = .int .i64 k ∧ q = .bool false ∧ Hid (∀ j (h : j < xs.length), j < k → xs[j] ≠ x) ∧ w = wr) (fun _ i _ => xs.length - (intOf i).toNat)
  case atStart => exact ⟨0, Nat.zero_le _, rfl, rfl, fun j _ hj => by omega, rfl⟩
  case round =>
    obtain ⟨k, hk, rfl, rfl, hH, rfl⟩ := hrel
    by_cases hlt : k < xs.length
    · have hkz : (k : Int) < (xs.length : Int) := by omega
      obtain rfl := hA (by omega)
      have g0 := hc k hlt
      have HC := Lib.hid hc
      clear hc hA
      by_cases hz : xs[k] = x
      · rw [hz] at g0
        clear hz
        go_wp2_with fail
        go_ret
        exact ⟨rfl, rfl⟩
      · have d1 : (xs[k] == x) = false := beq_eq_false_iff_ne.2 hz
        have HZ := Lib.hid hz
        clear hz
        go_wp2_with fail
        go_roundw
        case rel =>
          refine ⟨k + 1, by omega, by go_num, rfl, fun j hj hj' => ?_, by first | rfl | trivial⟩
          by_cases e : j = k
          · subst e; exact HZ.out
          · exact hH.out j hj (by omega)
        case measure => simp [intOf]; omega
    · obtain ⟨j, hj, e⟩ := List.mem_iff_getElem.1 HX.out
      exact absurd e (hH.out j hj (by omega))
set_option maxHeartbeats 1000000 in
theorem has_no (v : Value) (xs : List Int) (x : Int) (w : World) (h : Ints w v xs) (hx : ¬ x ∈ xs) :
    Calls Try.prog 104 #[v, .int .i64 x] w fun e w' => e = .returned (.bool false) ∧ w = w' := by
  obtain ⟨A, b, o, cap, rfl, hcap, hmax, hA, hc⟩ := h.form
  have hm : (xs.length : Int) ≤ 9223372036854775807 := by unfold maxLen at hmax; omega
  have HX := Lib.hid (fun (j : Nat) (hj : j < xs.length) => show (xs[j] == x) = false from beq_eq_false_iff_ne.2 (fun e => hx (e ▸ List.getElem_mem hj)))
  clear h hmax hx
  go_enter Try.func104, Try.ntmps104
  go_wp2_with fail
  go_loopw [4, 5] (fun q i wr => ∃ k : Nat, k ≤ xs.length ∧ i = .int .i64 k ∧ q = .bool false ∧ w = wr) (fun _ i _ => xs.length - (intOf i).toNat)
  case atStart => exact ⟨0, Nat.zero_le _, rfl, rfl, rfl⟩
  case round =>
    obtain ⟨k, hk, rfl, rfl, rfl⟩ := hrel
    by_cases hlt : k < xs.length
    · have hkz : (k : Int) < (xs.length : Int) := by omega
      obtain rfl := hA (by omega)
      have g0 := hc k hlt
      have d1 := HX.out k hlt
      have HC := Lib.hid hc
      clear hc hA
      go_wp2_with fail
      go_roundw
      case rel => exact ⟨k + 1, by omega, by go_num, rfl, by first | rfl | trivial⟩
      case measure => simp [intOf]; omega
    · have hkz : ¬ (k : Int) < (xs.length : Int) := by omega
      clear hc hA
      go_wp2_with fail
      go_ret
      exact ⟨rfl, rfl⟩



set_option maxHeartbeats 1000000 in
theorem spec_order (v : Value) (xs : List Int) (n : Nat) (w : World) (h : Ints w v xs) (h3 : n ≤ 3) :
    Calls Try.prog 71 #[v, .int .i64 (n : Int)] w fun e w' => e = .returned (.bool (orderB n xs)) ∧ w = w' := by
  have HY := Lib.hid (fun (x : Int) (hx : x ∈ xs) => has_yes v xs x w h hx)
  have HNO := Lib.hid (fun (x : Int) (hx : ¬ x ∈ xs) => has_no v xs x w h hx)
  obtain ⟨A, c, rfl⟩ : ∃ A c, v = .slice A xs.length c := by obtain ⟨A, c, hv, _⟩ := h; exact ⟨A, c, by rw [hv, len_i64s]⟩
  clear h
  go_enter Try.func71, Try.ntmps71
  go_wp2_with fail
  go_loopw [4, 5] (fun q i wr => ∃ k : Nat, k ≤ n ∧ i = .int .i64 k ∧ q = .bool false ∧ Hid (∀ i : Int, 0 ≤ i → i < k → i ∈ xs) ∧ w = wr) (fun _ i _ => n - (intOf i).toNat)
  case atStart => exact ⟨0, Nat.zero_le _, rfl, rfl, fun i _ hi => by omega, rfl⟩
  case round =>
    obtain ⟨k, hk, rfl, rfl, hH, rfl⟩ := hrel
    by_cases hlt : k < n
    · have hkz : (k : Int) < (n : Int) := by omega
      by_cases hin : (k : Int) ∈ xs
      · have HIN := Lib.hid hin
        have HF := Lib.hid (HY.out _ hin)
        clear hin
        go_wp2_with fail
        refine HF.out.mono ?_
        rintro e w' ⟨rfl, rfl⟩
        go_wp2_with fail
        go_roundw
        case rel =>
          refine ⟨k + 1, by omega, by go_num, rfl, fun i i0 i1 => ?_, by first | rfl | trivial⟩
          by_cases e : i = k
          · rw [e]; exact HIN.out
          · exact hH.out i i0 (by omega)
        case measure => simp [intOf]; omega
      · have HN : Hid (¬ order n xs) := Lib.hid (fun h => hin (h.2 k (by omega) (by omega)))
        have HF := Lib.hid (HNO.out _ hin)
        clear hin
        go_wp2_with fail
        refine HF.out.mono ?_
        rintro e w' ⟨rfl, rfl⟩
        go_wp2_with fail
        go_ret
        exact ⟨ret_b (orderB_no HN.out).symm, rfl⟩
    · have hkz : ¬ (k : Int) < (n : Int) := by omega
      by_cases hl : (xs.length : Int) = (n : Int)
      · have dl : ((xs.length : Int) == (n : Int)) = true := by simp [hl]
        have HN : Hid (order n xs) := Lib.hid ⟨hl, fun i i0 i1 => hH.out i i0 (by omega)⟩
        clear hl
        go_wp2_with fail
        go_ret
        exact ⟨ret_b (orderB_yes HN.out).symm, rfl⟩
      · have dl : ((xs.length : Int) == (n : Int)) = false := beq_eq_false_iff_ne.2 hl
        have HN : Hid (¬ order n xs) := Lib.hid (fun h => hl h.1)
        clear hl
        go_wp2_with fail
        go_ret
        exact ⟨ret_b (orderB_no HN.out).symm, rfl⟩


end Go.Proofs.Ytfkdhdiacelcjaa.ord
