/- Contracts of the laws' own helpers over slices of integers: toIntS, eqIntS, markIntS, heldIntS, szIntS. -/
import Derived.Test.YtiigfhigmdjooaaBase
import Derived.Test.YtiigfhigmdjooaaChecked
namespace Go.Proofs.Ytiigfhigmdjooaa.ints
open Go.RowKit Go.Deep Go.Proofs.Ytiigfhigmdjooaa.base

theorem infoInt : (Try.prog.info? 3).map (fun i => (i.zero, i.size, i.bytes)) = some (some (.int .i64 0), 1, 8) := by kernel_rfl
theorem infoInts : (Try.prog.info? 39).map (fun i => (i.zero, i.size, i.bytes)) = some (some (.slice none 0 0), 1, 24) := by kernel_rfl
theorem ret_int {k : IntKind} {a b : Int} (h : a = b) : Ending.returned (.int k a) = .returned (.int k b) := by rw [h]

theorem ret_no {p : Prop} [Decidable p] (h : ¬ p) : Ending.returned (.bool false) = .returned (.bool (decide p)) := by rw [decide_eq_false h]
theorem ret_yes {p : Prop} [Decidable p] (h : p) : Ending.returned (.bool true) = .returned (.bool (decide p)) := by rw [decide_eq_true h]

theorem drewN_drewN (w : World) (p q : Nat) : (w.drewN p).drewN q = w.drewN (p + q) := by simp [World.drewN, Nat.add_assoc]

theorem quiet_at {P : Program} {f : FuncId} {args : Array Value} {w : World} {q x : Nat} {v : Value} (h : Calls P f args (w.drewN (q + x)) fun e w' => e = .returned v ∧ ∃ m, w' = (w.drewN (q + x)).drewN m) :
    Calls P f args (w.drewN (q + x)) fun e w'' => e = .returned v ∧ ∃ n, w'' = w.drewN (q + n) :=
  h.mono fun _ _ ⟨he, m, hm⟩ => ⟨he, x + m, by rw [hm, drewN_drewN, Nat.add_assoc]⟩

theorem quiet_at_same {P : Program} {f : FuncId} {args : Array Value} {w : World} {q x : Nat} {v : Value} (h : Calls P f args (w.drewN (q + x)) fun e w' => e = .returned v ∧ w.drewN (q + x) = w') :
    Calls P f args (w.drewN (q + x)) fun e w'' => e = .returned v ∧ ∃ n, w'' = w.drewN (q + n) :=
  h.mono fun _ _ ⟨he, hm⟩ => ⟨he, x, hm.symm⟩

theorem own_of_row {w : World} {B T g : Nat} {t : TypeId} {xs : List Int} (h : w.rowIs g t xs.length (fun j => .int .i64 (xs.getD j 0))) (hB : B ≤ g) (hT : g < T) (hm : xs.length ≤ maxLen) : OwnInts w B T (.slice (some ⟨g, 0, none⟩) xs.length xs.length) xs := by
  refine ⟨⟨_, _, by rw [len_i64s], by rw [len_i64s]; exact Nat.le_refl _, hm, fun k u hu => ⟨g, 0, rfl, ?_⟩⟩, ?_, ?_, ?_⟩
  · have hk : k < xs.length := by
      rcases Nat.lt_or_ge k xs.length with h | h
      · exact h
      · rw [List.getElem?_eq_none (by rw [len_i64s]; exact h)] at hu; cases hu
    rw [get_i64s hk] at hu
    injection hu with hu
    subst hu
    have := h.cell hk
    rw [Nat.zero_add, this]
    simp [List.getD, hk]
  · rintro p ⟨b, o, len, cap, hv, hb, _⟩
    injection hv with e1 e2 e3
    injection e1 with e1
    injection e1 with e1
    omega
  · rintro p ⟨b, o, len, cap, hv, hb, _⟩
    injection hv with e1 e2 e3
    injection e1 with e1
    injection e1 with e1
    omega
  · rintro ⟨pb, po, ps⟩ ⟨b, o, len, cap, hv, hb, hs, _⟩
    injection hv with e1 e2 e3
    injection e1 with e1
    injection e1 with e1
    simp at hb hs
    subst hb; subst hs; subst e1
    exact h.frozen po

set_option maxHeartbeats 400000 in
theorem to_any (v : Value) (xs : List Int) (w : World) (h : Ints w v xs) (hn : xs.length ≤ 1048576) :
    Calls Try.prog 80 #[v] w fun e w' => ∃ u, e = .returned u ∧ OwnInts w' w.heap.size w'.heap.size u xs ∧ Below w.heap.size w w' := by
  obtain ⟨A, b, o, cap, rfl, hcap, hmax, hA, hc⟩ := h.form
  clear h
  have hmk := run_make_row' (P := Try.prog) 39 3 (.int .i64 0) 8 Try.underlying39 infoInt rfl .i64 .i64 xs.length (by omega) (by omega)
  have HM := Lib.hid hmax
  clear hmax
  go_enter Try.func80, Try.ntmps80
  go_wp2
  clear hmk
  go_loopw [4] (fun i wr => ∃ k, k ≤ xs.length ∧ i = .int .i64 k ∧ Below w.heap.size w wr ∧ wr.rowIs w.heap.size 3 xs.length (fun j => if j < k then .int .i64 (xs.getD j 0) else .int .i64 0)) (fun i _ => xs.length - (intOf i).toNat)
  case atStart => exact ⟨0, Nat.zero_le _, rfl, (Below.refl _ _).alloc (Nat.le_refl _) _, (World.rowIs_made w _ _ _).congr (fun j _ => by simp)⟩
  case round =>
    obtain ⟨k, hk, rfl, hb, hrow⟩ := hrel
    by_cases hlt : k < xs.length
    · have hkz : (k : Int) < (xs.length : Int) := by omega
      obtain rfl := hA (by omega)
      have g0 := hc k hlt
      have hlb := World.block_lt_of_cell? _ _ g0
      have g1 : wr.cell? ⟨b, o + k, none⟩ = some (.int .i64 xs[k]) := by rw [hb.cell hlb]; exact g0
      have g2 := hrow.cell hlt
      have g3 := hrow.frozen k
      simp only [Nat.lt_irrefl, if_false] at g2
      have HR := Lib.hid hrow
      have HB := Lib.hid hb
      have HC := Lib.hid hc
      clear hrow hb hc g0 hA
      go_wp2
      go_roundw
      case rel =>
        refine ⟨k + 1, by omega, by go_num, HB.out.setCell (Nat.le_refl _) _, (HR.out.set k _).congr (fun j hj => ?_)⟩
        by_cases e : j = k
        · subst e; simp [List.getD, hlt]
        · rw [if_neg e]
          by_cases h2 : j < k
          · rw [if_pos h2, if_pos (by omega)]
          · rw [if_neg h2, if_neg (by omega)]
      case measure => simp [intOf]; omega
    · have hkz : ¬ (k : Int) < (xs.length : Int) := by omega
      have HR := Lib.hid hrow
      have HB := Lib.hid hb
      clear hrow hb hc hA
      go_wp2
      go_ret
      exact ⟨_, rfl, own_of_row (HR.out.congr (fun j hj => by rw [if_pos (by omega)])) (Nat.le_refl _) HR.out.lt (Nat.le_trans hcap HM.out), HB.out⟩

theorem sz_any (A : Option Addr) (n cap : Nat) (left : Int) (w : World) (hn : n ≤ maxLen) (h0 : -1 ≤ left) (h1 : left ≤ 1048576) :
    Calls Try.prog 76 #[.slice A n cap, .int .i64 left] w fun e w' => e = .returned (.int .i64 (if left < n then -1 else left - n)) ∧ w = w' := by
  unfold maxLen at hn
  by_cases hlt : left < n
  · have g1 : left - n < 0 := by omega
    rw [if_pos hlt]
    go_enter Try.func76, Try.ntmps76
    go_wp2
    go_ret
    exact ⟨rfl, rfl⟩
  · have g1 : ¬ left - n < 0 := by omega
    rw [if_neg hlt]
    go_enter Try.func76, Try.ntmps76
    go_wp2
    go_ret
    exact ⟨rfl, rfl⟩

set_option maxHeartbeats 400000 in
theorem eq_any (v u : Value) (xs ys : List Int) (w : World) (h : Ints w v xs) (h' : Ints w u ys) (hn : xs.length ≤ 1048576) :
    Calls Try.prog 45 #[v, u] w fun e w' => e = .returned (.bool (decide (xs = ys))) ∧ ∃ q, w' = w.drewN q := by
  obtain ⟨A, b, o, cap, rfl, hcap, hmax, hA, hc⟩ := h.form
  obtain ⟨A', b', o', cap', rfl, hcap', hmax', hA', hc'⟩ := h'.form
  clear h h'
  unfold maxLen at hmax hmax'
  by_cases hl : xs.length = ys.length
  · have hb0 : ((xs.length : Int) != (ys.length : Int)) = false := by simp [hl]
    have HL := Lib.hid hl
    clear hl
    go_enter Try.func45, Try.ntmps45
    go_wp2
    go_loopw [5] (fun i wr => ∃ k, k ≤ xs.length ∧ i = .int .i64 k ∧ Hid (xs.take k = ys.take k) ∧ ∃ q, wr = w.drewN q) (fun i _ => xs.length - (intOf i).toNat)
    case atStart => exact ⟨0, Nat.zero_le _, rfl, rfl, 0, rfl⟩
    case round =>
      obtain ⟨k, hk, rfl, ht, q, rfl⟩ := hrel
      by_cases hlt : k < xs.length
      · have hkz : (k : Int) < (xs.length : Int) := by omega
        have hlt' : k < ys.length := by have := HL.out; omega
        have hkz' : (k : Int) < (ys.length : Int) := by omega
        obtain rfl := hA (by omega)
        obtain rfl := hA' (by omega)
        have g0 := hc k hlt
        have g0' := hc' k hlt'
        have HC := Lib.hid hc
        have HC' := Lib.hid hc'
        clear hc hc' hA hA'
        by_cases he : xs[k] = ys[k]
        · have hn0 : (xs[k] != ys[k]) = false := by simp [he]
          have HE := Lib.hid he
          clear he
          go_wp2
          go_quiet (fail)
          go_wp2
          go_roundw
          case rel =>
            refine ⟨k + 1, by omega, by go_num, ?_, _, rfl⟩
            show xs.take (k + 1) = ys.take (k + 1)
            rw [List.take_succ_eq_append_getElem hlt, List.take_succ_eq_append_getElem hlt', ht, HE.out]
          case measure => simp [intOf]; omega
        · have hn0 : (xs[k] != ys[k]) = true := by simp [he]
          have HE := Lib.hid he
          clear he
          go_wp2
          go_quiet (fail)
          go_wp2
          go_ret
          exact ⟨ret_no (fun e => HE.out (by simp [e])), q + _, drewN_drewN _ _ _⟩
      · have hkz : ¬ (k : Int) < (xs.length : Int) := by omega
        clear hc hc' hA hA'
        go_wp2
        go_ret
        have h1 := ht.out
        rw [List.take_of_length_le (by omega), List.take_of_length_le (by have := HL.out; omega)] at h1
        exact ⟨ret_yes h1, _, rfl⟩
  · have hb0 : ((xs.length : Int) != (ys.length : Int)) = true := by simp; omega
    have HL := Lib.hid hl
    clear hl
    go_enter Try.func45, Try.ntmps45
    go_wp2
    go_ret
    exact ⟨ret_no (fun e => HL.out (by rw [e])), 0, rfl⟩

/-! ### marks -/
theorem marks_succ (k : Int) (n : Nat) : marks k (n + 1) = marks k n ++ [k + n] := rfl

/-- the row as it stands when i of its cells have been marked -/
theorem in_one {b o i len cap : Nat} (h : i < len) : In (.slice (some ⟨b, o, none⟩) len cap) ⟨b, o + i, none⟩ := ⟨b, o, len, cap, rfl, rfl, rfl, by simp, by simp; omega⟩

set_option maxHeartbeats 400000 in
theorem mark_any (v : Value) (xs : List Int) (k0 : Int) (w : World) (h : Ints w v xs) (hf : ∀ p, In v p → w.frozen? p = false) (hn : xs.length ≤ 1048576) (h0 : 0 ≤ k0) (h1 : k0 ≤ 16777216) :
    Calls Try.prog 47 #[v, .int .i64 k0] w fun e w' => e = .returned (.int .i64 (k0 + xs.length)) ∧ Ints w' v (marks k0 xs.length) ∧ Wrote (In v) w w' := by
  obtain ⟨A, b, o, cap, rfl, hcap, hmax, hA, hc⟩ := h.form
  clear h
  have HM := Lib.hid hmax
  have HF := Lib.hid hf
  clear hmax hf
  go_enter Try.func47, Try.ntmps47
  go_wp2
  go_loopw [1, 5] (fun c i wr => ∃ k, k ≤ xs.length ∧ i = .int .i64 k ∧ c = .int .i64 (k0 + k) ∧ Hid (Wrote (In (.slice A xs.length cap)) w wr ∧ ∀ j, j < k → wr.cell? ⟨b, o + j, none⟩ = some (.int .i64 (k0 + j)))) (fun _ i _ => xs.length - (intOf i).toNat)
  case atStart => exact ⟨0, Nat.zero_le _, rfl, by simp, Wrote.refl _ _, fun j hj => by omega⟩
  case round =>
    obtain ⟨k, hk, rfl, rfl, hrel⟩ := hrel
    by_cases hlt : k < xs.length
    · have hkz : (k : Int) < (xs.length : Int) := by omega
      obtain rfl := hA (by omega)
      have hin : In (.slice (some ⟨b, o, none⟩) xs.length cap) ⟨b, o + k, none⟩ := in_one hlt
      have g1 : ∃ u, wr.cell? ⟨b, o + k, none⟩ = some u := by
        have hl := World.block_lt_of_cell? _ _ (hc k hlt)
        by_cases hj : ∃ j, j < k ∧ o + j = o + k
        · obtain ⟨j, hj, e⟩ := hj; omega
        · -- the cell is not written yet or it is: in any case it is there
          have hw := hrel.out.1
          have hlt2 : b < wr.heap.size := by rw [hw.size]; exact hl
          exact hw.there _ _ (hc k hlt)
      obtain ⟨u, g1⟩ := g1
      have g2 : wr.frozen? ⟨b, o + k, none⟩ = false := (hrel.out.1.frozen _).trans (HF.out _ hin)
      have HI := Lib.hid hin
      have HC := Lib.hid hc
      clear hin hc hA
      go_wp2
      go_roundw
      case rel =>
        refine ⟨k + 1, by omega, by go_num, by go_num, hrel.out.1.setCell HI.out _, fun j hj => ?_⟩
        by_cases e : j = k
        · subst e
          exact World.cell?_setCell_same _ _ _ g1
        · rw [World.cell?_setCell_other _ _ _ _ (by intro e2; injection e2; omega)]
          exact hrel.out.2 j (by omega)
      case measure => simp [intOf]; omega
    · have hkz : ¬ (k : Int) < (xs.length : Int) := by omega
      have hkn : k = xs.length := by omega
      clear hc
      go_wp2
      go_ret
      refine ⟨ret_int (by omega), ⟨A, cap, by rw [len_i64s, len_marks], by rw [len_i64s, len_marks]; omega, HM.out, fun j u hu => ?_⟩, hrel.out.1⟩
      have hj : j < xs.length := by
        rcases Nat.lt_or_ge j xs.length with g | g
        · exact g
        · rw [List.getElem?_eq_none (by rw [len_i64s, len_marks]; exact g)] at hu; cases hu
      rw [get_i64s (by rw [len_marks]; exact hj), get_marks] at hu
      injection hu with hu
      subst hu
      exact ⟨b, o, hA (by omega), hrel.out.2 j (by omega)⟩

set_option maxHeartbeats 400000 in
theorem held_any (v : Value) (n : Nat) (k0 : Int) (w : World) (h : Ints w v (marks k0 n)) (hn : n ≤ 1048576) (h0 : 0 ≤ k0) (h1 : k0 ≤ 16777216) :
    Calls Try.prog 48 #[v, .int .i64 k0] w fun e w' => e = .returned (.int .i64 (k0 + n)) ∧ w = w' := by
  obtain ⟨A, b, o, cap, rfl, hcap, hmax, hA, hc⟩ := h.form
  clear h hmax
  have hc : ∀ k, k < n → w.cell? ⟨b, o + k, none⟩ = some (.int .i64 (k0 + k)) := fun k hk => by
    have := hc k (by rw [len_marks]; exact hk)
    rw [get_marks] at this
    exact this
  rw [len_marks] at hcap hA ⊢
  go_enter Try.func48, Try.ntmps48
  go_wp2
  go_loop [1, 5] (fun c i => ∃ k, k ≤ n ∧ i = .int .i64 k ∧ c = .int .i64 (k0 + k)) (fun _ i => n - (intOf i).toNat)
  case atStart => exact ⟨0, Nat.zero_le _, rfl, by simp⟩
  case round =>
    obtain ⟨k, hk, rfl, rfl⟩ := hrel
    by_cases hlt : k < n
    · have hkz : (k : Int) < (n : Int) := by omega
      obtain rfl := hA (by omega)
      have g0 := hc k hlt
      clear hc hA
      go_wp2
      go_round
      case rel => exact ⟨k + 1, by omega, by go_num, by go_num⟩
      case measure => simp [intOf]; omega
    · have hkz : ¬ (k : Int) < (n : Int) := by omega
      have hkn : k = n := by omega
      clear hc hA
      subst hkn
      go_wp2
      go_ret
      exact ⟨rfl, rfl⟩

theorem eq_same (v u : Value) (xs : List Int) (w : World) (h : Ints w v xs) (h' : Ints w u xs) (hn : xs.length ≤ 1048576) :
    Calls Try.prog 45 #[v, u] w fun e w' => e = .returned (.bool true) ∧ Below w.heap.size w w' := by
  have := eq_any v u xs xs w h h' hn
  rw [decide_eq_true rfl] at this
  exact calls_below_drew this
theorem mark_own (v : Value) (xs : List Int) (k0 : Int) (B T : Nat) (w : World) (h : OwnInts w B T v xs) (hn : xs.length ≤ 1048576) (h0 : 0 ≤ k0) (h1 : k0 ≤ 16777216) :
    Calls Try.prog 47 #[v, .int .i64 k0] w fun e w' => e = .returned (.int .i64 (k0 + xs.length)) ∧ Ints w' v (marks k0 xs.length) ∧ ∃ S, Wrote S w w' ∧ Inside S B T :=
  (mark_any v xs k0 w h.ints h.free hn h0 h1).mono fun _ _ ⟨he, hi, hw⟩ => ⟨he, hi, _, hw, fun p hp => ⟨h.ge p hp, h.lt p hp⟩⟩
theorem held_below (v : Value) (n : Nat) (k0 : Int) (w : World) (h : Ints w v (marks k0 n)) (hn : n ≤ 1048576) (h0 : 0 ≤ k0) (h1 : k0 ≤ 16777216) :
    Calls Try.prog 48 #[v, .int .i64 k0] w fun e w' => e = .returned (.int .i64 (k0 + n)) ∧ Below w.heap.size w w' := calls_below (held_any v n k0 w h hn h0 h1)

end Go.Proofs.Ytiigfhigmdjooaa.ints
