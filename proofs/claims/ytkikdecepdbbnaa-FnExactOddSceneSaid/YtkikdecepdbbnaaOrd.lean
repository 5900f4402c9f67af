/- Orders of questions: l4Order of the model, isOrder of the program. -/
import Derived.Test.YtkikdecepdbbnaaPlay
namespace Go.Proofs.Ytkikdecepdbbnaa.ord
open Go.RowKit Go.Deep Go.Proofs.Ytkikdecepdbbnaa.base
open Go.Proofs.Ytkikdecepdbbnaa.val (ret_b)
open Go.Proofs.Ytkikdecepdbbnaa.play (within withinB withinB_yes withinB_no)

/-- a list of all of 0..n-1, each once -/
def order (n : Int) (xs : List Int) : Prop := (xs.length : Int) = n ∧ ∀ i : Int, 0 ≤ i → i < n → i ∈ xs
open Classical in
noncomputable def orderB (n : Int) (xs : List Int) : Bool := if order n xs then true else false
theorem orderB_yes {n : Int} {xs : List Int} (h : order n xs) : orderB n xs = true := if_pos h
theorem orderB_no {n : Int} {xs : List Int} (h : ¬ order n xs) : orderB n xs = false := if_neg h
/-- no number comes twice -/
def once (xs : List Int) : Prop := ∀ k (h : k < xs.length), (xs.take k).contains xs[k] = false

theorem three {xs : List Int} {n : Nat} (h : xs.length = n) (h1 : 1 ≤ n) (h3 : n ≤ 3) : (∃ a, xs = [a]) ∨ (∃ a b, xs = [a, b]) ∨ ∃ a b c, xs = [a, b, c] := by
  match xs, h with
  | [a], _ => exact .inl ⟨a, rfl⟩
  | [a, b], _ => exact .inr (.inl ⟨a, b, rfl⟩)
  | [a, b, c], _ => exact .inr (.inr ⟨a, b, c, rfl⟩)
  | [], h => simp at h; omega
  | a :: b :: c :: d :: e, h => simp at h; omega
theorem once1 (a : Int) : once [a] := by intro k hk; simp at hk; subst hk; rfl
theorem once2 (a b : Int) : once [a, b] ↔ b ≠ a := by
  constructor
  · intro h e; have := h 1 (by simp); simp [e] at this
  · intro h k hk
    obtain rfl | rfl : k = 0 ∨ k = 1 := by simp at hk; omega
    · rfl
    · simp [h]
theorem once3 (a b c : Int) : once [a, b, c] ↔ b ≠ a ∧ c ≠ a ∧ c ≠ b := by
  constructor
  · intro h
    have h1 := h 1 (by simp)
    have h2 := h 2 (by simp)
    simp at h1 h2
    exact ⟨h1, h2⟩
  · intro h k hk
    obtain rfl | rfl | rfl : k = 0 ∨ k = 1 ∨ k = 2 := by simp at hk; omega
    · rfl
    · simp [h.1]
    · simp [h.2.1, h.2.2]
/-- the two ways to say it -/
theorem order_iff {n : Int} {xs : List Int} (h1 : 1 ≤ n) (h3 : n ≤ 3) : order n xs ↔ within n 0 (n - 1) xs ∧ once xs := by
  by_cases hl : (xs.length : Int) = n
  · rcases three (n := xs.length) rfl (by omega) (by omega) with ⟨a, rfl⟩ | ⟨a, b, rfl⟩ | ⟨a, b, c, rfl⟩
    · have hn : n = 1 := by simpa using hl.symm
      subst hn
      constructor
      · intro h
        have := h.2 0 (by omega) (by omega)
        simp at this
        refine ⟨⟨hl, fun k hk => ?_⟩, once1 _⟩
        have : k = 0 := by simp at hk; omega
        subst this; simp; omega
      · intro h
        have := h.1.2 0 (by simp)
        simp at this
        exact ⟨hl, fun i i0 i1 => by simp; omega⟩
    · have hn : n = 2 := by simpa using hl.symm
      subst hn
      constructor
      · intro h
        have e0 := h.2 0 (by omega) (by omega)
        have e1 := h.2 1 (by omega) (by omega)
        simp at e0 e1
        refine ⟨⟨hl, fun k hk => ?_⟩, (once2 a b).2 (by omega)⟩
        obtain rfl | rfl : k = 0 ∨ k = 1 := by simp at hk; omega
        · simp; omega
        · simp; omega
      · intro h
        have e0 := h.1.2 0 (by simp)
        have e1 := h.1.2 1 (by simp)
        simp at e0 e1
        have e2 := (once2 a b).1 h.2
        exact ⟨hl, fun i i0 i1 => by simp; omega⟩
    · have hn : n = 3 := by simpa using hl.symm
      subst hn
      constructor
      · intro h
        have e0 := h.2 0 (by omega) (by omega)
        have e1 := h.2 1 (by omega) (by omega)
        have e2 := h.2 2 (by omega) (by omega)
        simp at e0 e1 e2
        refine ⟨⟨hl, fun k hk => ?_⟩, (once3 a b c).2 (by omega)⟩
        obtain rfl | rfl | rfl : k = 0 ∨ k = 1 ∨ k = 2 := by simp at hk; omega
        · simp; omega
        · simp; omega
        · simp; omega
      · intro h
        have e0 := h.1.2 0 (by simp)
        have e1 := h.1.2 1 (by simp)
        have e2 := h.1.2 2 (by simp)
        simp at e0 e1 e2
        have e3 := (once3 a b c).1 h.2
        exact ⟨hl, fun i i0 i1 => by simp; omega⟩
  · exact ⟨fun h => absurd h.1 hl, fun h => absurd h.1.1 hl⟩


set_option maxHeartbeats 1000000 in
theorem has_yes (v : Value) (xs : List Int) (x : Int) (w : World) (h : Ints w v xs) (hx : x ∈ xs) :
    Calls Try.prog 75 #[v, .int .i64 x] w fun e w' => e = .returned (.bool true) ∧ w = w' := by
  obtain ⟨A, b, o, cap, rfl, hcap, hmax, hA, hc⟩ := h.form
  have hm : (xs.length : Int) ≤ 9223372036854775807 := by unfold maxLen at hmax; omega
  have HX := Lib.hid hx
  clear h hmax hx
  go_enter Try.func75, Try.ntmps75
  go_wp2_with fail
  go_loopw [4, 5] (fun q i wr => ∃ k : Nat, k ≤ xs.length ∧ i = .int .i64 k ∧ q = .bool false ∧ Hid (∀ j (h : j < xs.length), j < k → xs[j] ≠ x) ∧ w = wr) (fun _ i _ => xs.length - (intOf i).toNat)
  case atStart => exact ⟨0, Nat.zero_le _, rfl, rfl, fun j _ hj => by omega, rfl⟩
  case round =>
    obtain ⟨k, hk, rfl, rfl, hH, rfl⟩ := hrel
    by_cases hlt : k < xs.length
    · have hkz : (k : Int) < (xs.length : Int) := by omega
      obtain rfl := hA (by omega)
      have g0 := hc k hlt
      have HC := Lib.hid hc
      clear hc hA
      by_cases hz : xs[k] = x
      · rw [hz] at g0
        clear hz
        go_wp2_with fail
        go_ret
        exact ⟨rfl, rfl⟩
      · have d1 : (xs[k] == x) = false := beq_eq_false_iff_ne.2 hz
        have HZ := Lib.hid hz
        clear hz
        go_wp2_with fail
        go_roundw
        case rel =>
          refine ⟨k + 1, by omega, by go_num, rfl, fun j hj hj' => ?_, by first | rfl | trivial⟩
          by_cases e : j = k
          · subst e; exact HZ.out
          · exact hH.out j hj (by omega)
        case measure => simp [intOf]; omega
    · obtain ⟨j, hj, e⟩ := List.mem_iff_getElem.1 HX.out
      exact absurd e (hH.out j hj (by omega))
set_option maxHeartbeats 1000000 in
theorem has_no (v : Value) (xs : List Int) (x : Int) (w : World) (h : Ints w v xs) (hx : ¬ x ∈ xs) :
    Calls Try.prog 75 #[v, .int .i64 x] w fun e w' => e = .returned (.bool false) ∧ w = w' := by
  obtain ⟨A, b, o, cap, rfl, hcap, hmax, hA, hc⟩ := h.form
  have hm : (xs.length : Int) ≤ 9223372036854775807 := by unfold maxLen at hmax; omega
  have HX := Lib.hid (fun (j : Nat) (hj : j < xs.length) => show (xs[j] == x) = false from beq_eq_false_iff_ne.2 (fun e => hx (e ▸ List.getElem_mem hj)))
  clear h hmax hx
  go_enter Try.func75, Try.ntmps75
  go_wp2_with fail
  go_loopw [4, 5] (fun q i wr => ∃ k : Nat, k ≤ xs.length ∧ i = .int .i64 k ∧ q = .bool false ∧ w = wr) (fun _ i _ => xs.length - (intOf i).toNat)
  case atStart => exact ⟨0, Nat.zero_le _, rfl, rfl, rfl⟩
  case round =>
    obtain ⟨k, hk, rfl, rfl, rfl⟩ := hrel
    by_cases hlt : k < xs.length
    · have hkz : (k : Int) < (xs.length : Int) := by omega
      obtain rfl := hA (by omega)
      have g0 := hc k hlt
      have d1 := HX.out k hlt
      have HC := Lib.hid hc
      clear hc hA
      go_wp2_with fail
      go_roundw
      case rel => exact ⟨k + 1, by omega, by go_num, rfl, by first | rfl | trivial⟩
      case measure => simp [intOf]; omega
    · have hkz : ¬ (k : Int) < (xs.length : Int) := by omega
      clear hc hA
      go_wp2_with fail
      go_ret
      exact ⟨rfl, rfl⟩




end Go.Proofs.Ytkikdecepdbbnaa.ord
