/- CountRows: both sides. -/
import Derived.Test.YtggodllfaggjiaaGrid
import Derived.Test.YtggodllfaggjiaaPln
import Derived.Test.YtggodllfaggjiaaOpen
import Derived.Maps.OwnSet
import Derived.Maps.Views
import Derived.WideKeyArr2
import Derived.Laws.CopyOwn
import Derived.Deep.WholeRow
namespace Go.Proofs.Ytggodllfaggjiaa.cro
open Go.RowKit Go.Deep Go.Proofs.Ytggodllfaggjiaa.base
open Go.Proofs.Ytggodllfaggjiaa.ints (ret_int ret_no ret_yes drewN_drewN)
open Go.Proofs.Ytggodllfaggjiaa.pln (ret_ib)
open Go.Proofs.Ytggodllfaggjiaa.task (okTask wide taskB taskB_yes taskB_no row_len)
open Go.Proofs.Ytggodllfaggjiaa.grid (nn nn_eq)

/-! ### the count -/
def same (xss : List (List Int)) (k i : Nat) : Prop := xss.getD k [] = xss.getD i []
def fresh (xss : List (List Int)) (i : Nat) : Prop := ∀ k, k < i → ¬ same xss k i
open Classical in
noncomputable def cnt (xss : List (List Int)) : Nat → Nat
  | 0 => 0
  | i + 1 => if fresh xss i then cnt xss i + 1 else cnt xss i
theorem cnt_le (xss : List (List Int)) : ∀ i, cnt xss i ≤ i := by
  intro i
  induction i with
  | zero => exact Nat.le_refl _
  | succ i ih => unfold cnt; split <;> omega
open Classical in
theorem cnt_yes {xss : List (List Int)} {i : Nat} (h : fresh xss i) : cnt xss (i + 1) = cnt xss i + 1 := by show (if _ then _ else _) = _; rw [if_pos h]
open Classical in
theorem cnt_no {xss : List (List Int)} {i : Nat} (h : ¬ fresh xss i) : cnt xss (i + 1) = cnt xss i := by show (if _ then _ else _) = _; rw [if_neg h]
/-- the flag tells whether none of the first k rows is as row i -/
def Flag (xss : List (List Int)) (b : Bool) (k i : Nat) : Prop := b = true ↔ ∀ j, j < k → ¬ same xss j i
open Classical in
/-- what CountRows answers -/
noncomputable def res (xss : List (List Int)) : Int × Bool := if okTask xss then (((cnt xss xss.length : Nat) : Int), true) else (0, false)
theorem res_yes {xss : List (List Int)} (h : okTask xss) : res xss = (((cnt xss xss.length : Nat) : Int), true) := if_pos h
theorem res_no {xss : List (List Int)} (h : ¬ okTask xss) : res xss = (0, false) := if_neg h


set_option maxHeartbeats 400000 in
theorem l1same (v u : Value) (xs ys : List Int) (w : World) (h : Ints w v xs) (h' : Ints w u ys) :
    Calls Try.prog 74 #[v, u] w fun e w' => e = .returned (.bool (decide (xs = ys))) ∧ ∃ q, w' = w.drewN q := by
  obtain ⟨A, b, o, cap, rfl, hcap, hmax, hA, hc⟩ := h.form
  obtain ⟨A', b', o', cap', rfl, hcap', hmax', hA', hc'⟩ := h'.form
  clear h h'
  unfold maxLen at hmax hmax'
  by_cases hl : xs.length = ys.length
  · have hb0 : ((xs.length : Int) != (ys.length : Int)) = false := by simp [hl]
    have HL := Lib.hid hl
    clear hl
    go_enter Try.func74, Try.ntmps74
    go_wp2
    go_loopw [5] (fun i wr => ∃ k, k ≤ xs.length ∧ i = .int .i64 k ∧ Hid (xs.take k = ys.take k) ∧ ∃ q, wr = w.drewN q) (fun i _ => xs.length - (intOf i).toNat)
    case atStart => exact ⟨0, Nat.zero_le _, rfl, rfl, 0, rfl⟩
    case round =>
      obtain ⟨k, hk, rfl, ht, q, rfl⟩ := hrel
      by_cases hlt : k < xs.length
      · have hkz : (k : Int) < (xs.length : Int) := by omega
        have hlt' : k < ys.length := by have := HL.out; omega
        have hkz' : (k : Int) < (ys.length : Int) := by omega
        obtain rfl := hA (by omega)
        obtain rfl := hA' (by omega)
        have g0 := hc k hlt
        have g0' := hc' k hlt'
        have HC := Lib.hid hc
        have HC' := Lib.hid hc'
        clear hc hc' hA hA'
        by_cases he : xs[k] = ys[k]
        · have hn0 : (xs[k] != ys[k]) = false := by simp [he]
          have HE := Lib.hid he
          clear he
          go_wp2
          go_quiet (fail)
          go_wp2
          go_roundw
          case rel =>
            refine ⟨k + 1, by omega, by go_num, ?_, _, rfl⟩
            show xs.take (k + 1) = ys.take (k + 1)
            rw [List.take_succ_eq_append_getElem hlt, List.take_succ_eq_append_getElem hlt', ht, HE.out]
          case measure => simp [intOf]; omega
        · have hn0 : (xs[k] != ys[k]) = true := by simp [he]
          have HE := Lib.hid he
          clear he
          go_wp2
          go_quiet (fail)
          go_wp2
          go_ret
          exact ⟨ret_no (fun e => HE.out (by simp [e])), q + _, drewN_drewN _ _ _⟩
      · have hkz : ¬ (k : Int) < (xs.length : Int) := by omega
        clear hc hc' hA hA'
        go_wp2
        go_ret
        have h1 := ht.out
        rw [List.take_of_length_le (by omega), List.take_of_length_le (by have := HL.out; omega)] at h1
        exact ⟨ret_yes h1, _, rfl⟩
  · have hb0 : ((xs.length : Int) != (ys.length : Int)) = true := by simp; omega
    have HL := Lib.hid hl
    clear hl
    go_enter Try.func74, Try.ntmps74
    go_wp2
    go_ret
    exact ⟨ret_no (fun e => HL.out (by rw [e])), 0, rfl⟩



set_option maxRecDepth 100000 in
set_option maxHeartbeats 4000000 in
theorem spec_any (v : Value) (xss : List (List Int)) (w : World) (h : IRows w v xss) :
    Calls Try.prog 37 #[v] w fun e w' => e = .returned (.tuple #[.int .i64 (res xss).1, .bool (res xss).2]) ∧ Below w.heap.size w w' := by
  have HT := Lib.hid (task.spec_task v xss w h)
  obtain ⟨A, B, d, cap, R, rfl, hcap, hmax, hA, hr⟩ := h.form
  by_cases hok : okTask xss
  · rw [taskB_yes hok] at HT
    rw [res_yes hok]
    have hX := hok.1.2
    have hX1 := hok.1.1
    obtain rfl := hA (by omega)
    have hR : ∀ r, r < xss.length → w.cell? ⟨B, d + r, none⟩ = some (R r) ∧ Ints w (R r) (xss.getD r []) := fun r hlt => by
      have e : xss.getD r [] = xss[r] := by simp [List.getD, hlt]
      rw [e]; exact hr r hlt
    have HR := Lib.hid hR
    have HCL := Lib.hid (cnt_le xss)
    obtain ⟨X, hXe⟩ : ∃ X, xss.length = X := ⟨_, rfl⟩
    rw [hXe] at hX hX1 HR HT ⊢
    clear hXe hr hR hA hcap hmax h hok
    have l4 : (X : Int) ≤ 4 := by omega
    go_enter Try.func37, Try.ntmps37
    go_wp2_with fail
    refine HT.out.mono ?_
    rintro e w' ⟨rfl, n0, rfl⟩
    go_wp2_with fail
    go_loopw [4, 5, 6, 7] (fun c s z6 z7 wr => ∃ i : Nat, i ≤ X ∧ s = .int .i64 i ∧ (∃ m : Nat, c = .int .i64 m ∧ Hid (m = cnt xss i)) ∧ (∃ z, z6 = z) ∧ (∃ z, z7 = z) ∧ ∃ n, wr = w.drewN n) (fun _ s _ _ _ => X - (intOf s).toNat)
    case atStart => exact ⟨0, Nat.zero_le _, rfl, ⟨0, rfl, rfl⟩, ⟨_, rfl⟩, ⟨_, rfl⟩, _, rfl⟩
    case round =>
      obtain ⟨i, hi, rfl, ⟨m, rfl, hM⟩, ⟨z6, rfl⟩, ⟨z7, rfl⟩, n, rfl⟩ := hrel
      by_cases hlt : i < X
      · have hkz : (i : Int) < (X : Int) := by omega
        have mle : (m : Int) ≤ 4 := by have := hM.out; have := HCL.out i; omega
        go_wp2_with fail
        go_loopw [6, 7] (fun f s wr => ∃ k : Nat, k ≤ i ∧ s = .int .i64 k ∧ (∃ b : Bool, f = .bool b ∧ Hid (Flag xss b k i)) ∧ ∃ n, wr = w.drewN n) (fun _ s _ => i - (intOf s).toNat)
        case atStart => exact ⟨0, Nat.zero_le _, rfl, ⟨true, rfl, ⟨fun _ j hj => absurd hj (by omega), fun _ => rfl⟩⟩, _, rfl⟩
        case round =>
          obtain ⟨k, hk, rfl, ⟨b, rfl, hB⟩, n, rfl⟩ := hrel
          by_cases hlt2 : k < i
          · have hkz2 : (k : Int) < (i : Int) := by omega
            have hkz3 : (k : Int) < (X : Int) := by omega
            obtain ⟨x0, x1⟩ := HR.out i hlt
            obtain ⟨y0, y1⟩ := HR.out k (by omega)
            cases b
            · have HN : Hid (Flag xss false (k + 1) i) := Lib.hid ⟨fun h => (by cases h), fun h => hB.out.2 (fun j hj => h j (by omega))⟩
              clear x0 x1 y0 y1
              go_wp2_with fail
              go_quiet (fail)
              go_wp2_with fail
              go_roundw
              case rel => exact ⟨k + 1, by omega, by go_num, ⟨false, rfl, HN.out⟩, by first | exact ⟨_, rfl⟩ | exact ⟨_, World.drewN_drewN _ _ _⟩⟩
              case measure => simp [intOf]; omega
            · have hf : ∀ W : World, (∀ a, W.cell? a = w.cell? a) → Calls Try.prog 74 #[R i, R k] W fun e w' => e = .returned (.bool (decide (xss.getD i [] = xss.getD k []))) ∧ ∃ q, w' = W.drewN q := fun W hW =>
                l1same _ _ _ _ W (x1.keep (fun a u h => (hW a).trans h)) (y1.keep (fun a u h => (hW a).trans h))
              by_cases he : xss.getD i [] = xss.getD k []
              · rw [decide_eq_true he] at hf
                have HF := Lib.hid hf
                have HN : Hid (Flag xss false (k + 1) i) := Lib.hid ⟨fun h => (by cases h), fun h => absurd he.symm (h k (by omega))⟩
                clear x1 y1 he hf
                go_wp2_with fail
                go_quiet ((go_at_call 74; go_must (exact ints.quiet_at (HF.out _ (fun _ => rfl)))))
                go_wp2_with fail
                go_roundw
                case rel => exact ⟨k + 1, by omega, by go_num, ⟨false, rfl, HN.out⟩, by first | exact ⟨_, rfl⟩ | exact ⟨_, World.drewN_drewN _ _ _⟩⟩
                case measure => simp [intOf]; omega
              · rw [decide_eq_false he] at hf
                have HF := Lib.hid hf
                have HN : Hid (Flag xss true (k + 1) i) := Lib.hid ⟨fun _ j hj => by
                  by_cases e : j = k
                  · subst e; exact fun h => he h.symm
                  · exact hB.out.1 rfl j (by omega), fun _ => rfl⟩
                clear x1 y1 he hf
                go_wp2_with fail
                go_quiet ((go_at_call 74; go_must (exact ints.quiet_at (HF.out _ (fun _ => rfl)))))
                go_wp2_with fail
                go_roundw
                case rel => exact ⟨k + 1, by omega, by go_num, ⟨true, rfl, HN.out⟩, by first | exact ⟨_, rfl⟩ | exact ⟨_, World.drewN_drewN _ _ _⟩⟩
                case measure => simp [intOf]; omega
          · have hkz2 : ¬ (k : Int) < (i : Int) := by omega
            obtain rfl : k = i := by omega
            cases b
            · have HN : Hid (m = cnt xss (k + 1)) := Lib.hid (by rw [cnt_no (fun h => by have := hB.out.2 h; cases this)]; exact hM.out)
              go_wp2_with fail
              go_roundw
              case rel => exact ⟨k + 1, by omega, by go_num, ⟨m, rfl, HN.out⟩, ⟨_, rfl⟩, ⟨_, rfl⟩, _, rfl⟩
              case measure => simp [intOf]; omega
            · have HN : Hid (m + 1 = cnt xss (k + 1)) := Lib.hid (by rw [cnt_yes (hB.out.1 rfl), ← hM.out])
              go_wp2_with fail
              go_roundw
              case rel => exact ⟨k + 1, by omega, by go_num, ⟨m + 1, by go_num, HN.out⟩, ⟨_, rfl⟩, ⟨_, rfl⟩, _, rfl⟩
              case measure => simp [intOf]; omega
      · have hkz : ¬ (i : Int) < (X : Int) := by omega
        obtain rfl : i = X := by omega
        go_wp2_with fail
        go_ret2
        exact ⟨ret_ib (by rw [hM.out]), below_drewN (Below.refl _ _) _⟩
  · rw [taskB_no hok] at HT
    rw [res_no hok]
    clear hok h hr hA hcap hmax
    go_enter Try.func37, Try.ntmps37
    go_wp2_with fail
    refine HT.out.mono ?_
    rintro e w' ⟨rfl, n, rfl⟩
    go_wp2_with fail
    go_ret2
    exact ⟨rfl, below_drewN (Below.refl _ _) _⟩



/-! ### the rows as keys of a map -/
open Go.Maps (setOf Tidy Keyed)
theorem arrKey : WideMaps.ArrKey Try.prog 79 3 4 := ⟨Try.underlying79, by kernel_rfl, by kernel_rfl, by kernel_rfl⟩
theorem keyed : Keyed Try.prog 79 := Keyed.of_law arrKey.law
def kv (a b c d : Int) : Value := .agg #[.int .i64 a, .int .i64 b, .int .i64 c, .int .i64 d]
theorem kv_some : ∀ a b c d : Int, (a = 0 ∨ a = 1) → (b = 0 ∨ b = 1) → (c = 0 ∨ c = 1) → (d = 0 ∨ d = 1) → (keyOf Try.prog 79 (kv a b c d)).isSome = true := by
  rintro a b c d (rfl | rfl) (rfl | rfl) (rfl | rfl) (rfl | rfl) <;> kernel_rfl
def rowV (xss : List (List Int)) (r : Nat) : Value := kv (nn xss r 0) (nn xss r 1) (nn xss r 2) (nn xss r 3)
theorem nn_any {xss : List (List Int)} (h : okTask xss) (r c : Nat) : nn xss r c = 0 ∨ nn xss r c = 1 := by
  by_cases hr : r < xss.length
  · by_cases hc : c < wide xss
    · exact grid.nn_bd h hr hc
    · left
      have hl := row_len h r hr
      unfold nn
      have e : xss.getD r [] = xss[r] := by simp [List.getD, hr]
      rw [e, List.getD, List.getElem?_eq_none (by omega)]
      rfl
  · left
    unfold nn
    have e : xss.getD r [] = [] := by rw [List.getD, List.getElem?_eq_none (by omega)]; rfl
    rw [e]; rfl
noncomputable def klit (xss : List (List Int)) (r : Nat) : Lit := (keyOf Try.prog 79 (rowV xss r)).getD (.bool true)
theorem klit_eq {xss : List (List Int)} (h : okTask xss) (r : Nat) : keyOf Try.prog 79 (rowV xss r) = some (klit xss r) := by
  have h1 := kv_some _ _ _ _ (nn_any h r 0) (nn_any h r 1) (nn_any h r 2) (nn_any h r 3)
  unfold klit rowV
  cases e : keyOf Try.prog 79 (kv (nn xss r 0) (nn xss r 1) (nn xss r 2) (nn xss r 3)) with
  | none => rw [e] at h1; cases h1
  | some l => rfl
theorem klit_inj {xss : List (List Int)} (h : okTask xss) {k i : Nat} (hk : k < xss.length) (hi : i < xss.length) : klit xss k = klit xss i ↔ same xss k i := by
  constructor
  · intro e
    have h1 := klit_eq h k
    rw [e] at h1
    have h2 := keyed.inj h1 (klit_eq h i)
    unfold rowV kv at h2
    simp at h2
    obtain ⟨e0, e1, e2, e3⟩ := h2
    have lk := row_len h k hk
    have li := row_len h i hi
    have hw := h.2.1.2
    have gk : xss.getD k [] = xss[k] := by simp [List.getD, hk]
    have gi : xss.getD i [] = xss[i] := by simp [List.getD, hi]
    unfold same
    rw [gk, gi]
    refine List.ext_getElem (by omega) (fun j h1 h2 => ?_)
    have a1 := nn_eq hk h1
    have a2 := nn_eq hi h2
    rw [← a1, ← a2]
    have : j = 0 ∨ j = 1 ∨ j = 2 ∨ j = 3 := by omega
    rcases this with rfl | rfl | rfl | rfl <;> assumption
  · intro e
    have : rowV xss k = rowV xss i := by unfold rowV nn; rw [show xss.getD k [] = xss.getD i [] from e]
    unfold klit; rw [this]
noncomputable def keys (xss : List (List Int)) (r : Nat) : List Lit := (List.range r).map (klit xss)
theorem keys_succ (xss : List (List Int)) (r : Nat) : keys xss (r + 1) = keys xss r ++ [klit xss r] := by simp [keys, List.range_succ]
set_option maxRecDepth 100000 in
theorem keys_key {xss : List (List Int)} (h : okTask xss) (r : Nat) : ∀ x ∈ keys xss r, WideAt.IsKeyLit x := by
  intro x hx
  obtain ⟨k, _, rfl⟩ := List.mem_map.1 hx
  exact keyed.key (klit_eq h k)
def tt : DataW Unit := .lit (.bool true)
set_option maxRecDepth 100000 in
theorem size_keys {xss : List (List Int)} (h : okTask xss) : ∀ r, r ≤ xss.length → Maps.size (setOf tt (keys xss r)) = cnt xss r := by
  intro r
  induction r with
  | zero => intro _; rfl
  | succ r ih =>
    intro hr
    have h1 := ih (by omega)
    rw [keys_succ, Maps.setOf_snoc, Maps.size_put (Maps.tidy_setOf tt _ (keys_key h r)), Maps.has_setOf tt _ _ (keys_key h r), h1]
    by_cases hf : fresh xss r
    · rw [cnt_yes hf, if_neg]
      simp only [List.any_eq_true, not_exists, not_and]
      intro x hx e
      obtain ⟨k, hk, rfl⟩ := List.mem_map.1 hx
      have hk := List.mem_range.1 hk
      exact hf k hk ((klit_inj h (by omega) (by omega)).1 (WideAt.sameKey_eq e))
    · rw [cnt_no hf, if_pos]
      have : ∃ k, k < r ∧ same xss k r := Classical.byContradiction (fun hn => hf (fun k hk hs => hn ⟨k, hk, hs⟩))
      obtain ⟨k, hk, hs⟩ := this
      simp only [List.any_eq_true]
      refine ⟨klit xss k, List.mem_map.2 ⟨k, List.mem_range.2 hk, rfl⟩, ?_⟩
      rw [(klit_inj h (by omega) (by omega)).2 hs]
      exact WideAt.sameKey_self (keyed.key (klit_eq h r))
/-- the cells of row r, and what stands behind them -/
def cells4 (xss : List (List Int)) (r : Nat) : Array Value := #[.int .i64 (nn xss r 0), .int .i64 (nn xss r 1), .int .i64 (nn xss r 2), .int .i64 (nn xss r 3)]
def rowCs (xss : List (List Int)) (r Y : Nat) : List Value := (List.range Y).map fun c => .int .i64 (nn xss r c)
theorem nn_zero {xss : List (List Int)} (h : okTask xss) {r c : Nat} (hr : r < xss.length) (hc : wide xss ≤ c) : nn xss r c = 0 := by
  have hl := row_len h r hr
  unfold nn
  have e : xss.getD r [] = xss[r] := by simp [List.getD, hr]
  rw [e, List.getD, List.getElem?_eq_none (by omega)]
  rfl
set_option maxRecDepth 100000 in
theorem cells_done {xss : List (List Int)} (h : okTask xss) {r : Nat} (hr : r < xss.length) :
    ((#[Value.int .i64 0, .int .i64 0, .int .i64 0, .int .i64 0] : Array Value).toList.take 0 ++ (rowCs xss r (wide xss) ++ (#[Value.int .i64 0, .int .i64 0, .int .i64 0, .int .i64 0] : Array Value).toList.drop (0 + (rowCs xss r (wide xss)).length))).toArray = cells4 xss r := by
  have h1 := h.2.1
  have z := fun c hc => nn_zero h hr (c := c) hc
  unfold cells4 rowCs
  rcases (by omega : wide xss = 1 ∨ wide xss = 2 ∨ wide xss = 3 ∨ wide xss = 4) with e | e | e | e <;> rw [e] at z ⊢
  · rw [z 1 (by omega), z 2 (by omega), z 3 (by omega)]; rfl
  · rw [z 2 (by omega), z 3 (by omega)]; rfl
  · rw [z 3 (by omega)]; rfl
  · rfl

set_option maxRecDepth 100000 in
set_option maxHeartbeats 4000000 in
theorem impl_any (v : Value) (xss : List (List Int)) (w : World) (h : IRows w v xss) :
    Calls Try.prog 38 #[v] w fun e w' => e = .returned (.tuple #[.int .i64 (res xss).1, .bool (res xss).2]) ∧ Below w.heap.size w w' := by
  have HT := Lib.hid (task.impl_is v xss w h)
  by_cases hok : okTask xss
  · rw [taskB_yes hok] at HT
    rw [res_yes hok]
    obtain ⟨B, d, cap, rb, ro, rcc, rfl, hcells⟩ := grid.cells h hok
    have HC := Lib.hid hcells
    have HKE := Lib.hid (fun r => klit_eq hok r)
    have HSZ := Lib.hid (size_keys hok xss.length (Nat.le_refl _))
    have HKS := Lib.hid (keys_succ xss)
    have HCD := Lib.hid (fun r (hr : r < xss.length) => cells_done hok hr)
    have hX := hok.1.2
    have hY := hok.2.1.2
    have HLN : Hid (∀ r, (rowCs xss r (wide xss)).length = wide xss) := Lib.hid (fun r => by simp [rowCs])
    have HVAL := Lib.hid (Go.plainElem_bool (H := Unit) (P := Try.prog) Try.underlying4 true)
    have HM0 : Hid (Below w.heap.size w (w.alloc (.map #[] 0)) ∧ (w.alloc (.map #[] 0)).ownsMap Try.prog 79 (Go.plainElem (H := Unit) Try.prog 4) w.heap.size 0 (setOf tt (keys xss 0))) := Lib.hid ⟨below_al (Below.refl _ _) _, World.ownsMap_made _ _ _ _⟩
    have l4 : (xss.length : Int) ≤ 4 := by omega
    have hmm := fun (W : World) => run_makeMap (P := Try.prog) 78 W
    clear hcells h hok
    go_enter Try.func38, Try.ntmps38
    go_wp2_with fail
    refine HT.out.mono ?_
    rintro e w' ⟨rfl, rfl⟩
    go_wp2_with fail
    go_loopw [6, 7, 14] (fun z6 z7 s wr => ∃ r : Nat, r ≤ xss.length ∧ s = .int .i64 r ∧ (∃ z, z6 = z) ∧ (∃ z, z7 = z) ∧ Hid (Below w.heap.size w wr ∧ wr.ownsMap Try.prog 79 (Go.plainElem (H := Unit) Try.prog 4) w.heap.size r (setOf tt (keys xss r)))) (fun _ _ s _ => xss.length - (intOf s).toNat)
    case atStart => exact ⟨0, Nat.zero_le _, rfl, ⟨_, rfl⟩, ⟨_, rfl⟩, HM0.out⟩
    case round =>
      clear HM0 HT hmm
      obtain ⟨r, hr, rfl, ⟨z6, rfl⟩, ⟨z7, rfl⟩, hH⟩ := hrel
      obtain ⟨wo, rfl⟩ : ∃ wo : World, wo = wr := ⟨_, rfl⟩
      by_cases hlt : r < xss.length
      · have hkz : (r : Int) < (xss.length : Int) := by omega
        have x0 := below_cell hH.out.1 _ _ (HC.out r hlt).1
        have hsz := hH.out.1.size
        go_wp2_with (with_reducible refine wpList_copy_splice rfl (.tmp 18) (.tmp 19) 27 27 rfl 3 Try.underlying27 (by kernel_rfl) (some ⟨wo.heap.size, 0, none⟩) (some ⟨rb r, ro r, none⟩) 4 4 (wide xss) (rcc r) rfl rfl wo.heap.size 0 [.int .i64 0, .int .i64 0, .int .i64 0, .int .i64 0] 79 ?e1 (rowCs xss r (wide xss)) ?e2 ?e3 ?e4 ?e5 wo.heap.size wo ?e6 (Nat.le_refl _) ?_)
        case e1 => exact heap_alloc_new wo _
        case e2 => rw [HLN.out]; exact (Nat.min_eq_left hY).symm
        case e3 =>
          intro _
          try (refine ⟨rfl, _, rfl, ?_⟩)
          intro j v hj
          have hjl : j < wide xss := by
            have := (List.getElem?_eq_some_iff.1 hj).1
            rw [HLN.out] at this
            exact this
          have hv : v = .int .i64 (nn xss r j) := by simpa [rowCs, hjl] using hj.symm
          subst hv
          try rw [opn.add_none]
          exact below_cell (below_al hH.out.1 _) _ _ ((HC.out r hlt).2 j hjl)
        case e4 => rw [HLN.out]; simp; omega
        case e5 =>
          intro v hv
          obtain ⟨c, _, rfl⟩ := List.mem_map.1 hv
          rfl
        case e6 => exact below_al (Below.refl _ _) _
        intro w3 hk hb3
        have K3 : Hid (Blk w3 wo.heap.size 79 (cells4 xss r)) := Lib.hid (by
          have e := HCD.out r hlt
          have h1 := hk.out
          unfold Blk
          rw [← e]
          simpa [splice] using h1)
        have B3 := Lib.hid (below_tr hH.out.1 hb3)
        have M3 : Hid (w3.ownsMap Try.prog 79 (Go.plainElem (H := Unit) Try.prog 4) w.heap.size r (setOf tt (keys xss r))) := Lib.hid (hH.out.2.kept (row := none) ⟨hb3.os, hb3.tape, hb3.output, hb3.size, fun k hk _ => hb3.block k hk⟩ (by simp))
        obtain ⟨k0, k1, k2, k3, _⟩ := four_cells K3.out
        have HKR := Lib.hid (HKE.out r)
        have HRM : Hid (r < maxLen) := Lib.hid (by unfold maxLen; omega)
        clear hk hb3
        go_wp2_with (at_mapUpdate; go_must (refine wpList_mapUpdate_own _ rfl (.tmp 21) (.tmp 22) (.const (.bool true)) 78 rfl 79 4 keyed Try.underlying78 (Go.plainElem (H := Unit) Try.prog 4) w.heap.size r (setOf tt (keys xss r)) rfl M3.out HRM.out (rowV xss r) (.bool true) (klit xss r) rfl rfl HKR.out (.lit (.bool true)) [] HVAL.out ?_))
        intro w4 hown hgrow
        have B4 : Hid (Below w.heap.size w w4) := Lib.hid (B3.out.grown hgrow B3.out.size (fun j hj => by injection hj with hj; omega))
        have M4 : Hid (w4.ownsMap Try.prog 79 (Go.plainElem (H := Unit) Try.prog 4) w.heap.size (r + 1) (setOf tt (keys xss (r + 1)))) := Lib.hid (by rw [HKS.out, Maps.setOf_snoc]; exact hown)
        clear hown hgrow k0 k1 k2 k3
        go_wp2_with fail
        go_roundw
        case rel => exact ⟨r + 1, by omega, by go_num, ⟨_, rfl⟩, ⟨_, rfl⟩, B4.out, M4.out⟩
        case measure => simp [intOf]; omega
      · have hkz : ¬ (r : Int) < (xss.length : Int) := by omega
        obtain rfl : r = xss.length := by omega
        have hown := hH.out.2
        go_wp2_with (at_len; go_must (refine wpList_len_own _ rfl (.tmp 24) 78 rfl 79 4 Try.underlying78 (Go.plainElem (H := Unit) Try.prog 4) w.heap.size xss.length (setOf tt (keys xss xss.length)) rfl hown ?_))
        rw [HSZ.out]
        go_wp2_with fail
        go_ret2
        exact ⟨rfl, hH.out.1⟩
  · rw [taskB_no hok] at HT
    rw [res_no hok]
    obtain ⟨va, vn, vc, rfl⟩ := h.shape
    clear hok h
    go_enter Try.func38, Try.ntmps38
    go_wp2_with fail
    refine HT.out.mono ?_
    rintro e w' ⟨rfl, rfl⟩
    go_wp2_with fail
    go_ret2
    exact ⟨rfl, Below.refl _ _⟩


end Go.Proofs.Ytggodllfaggjiaa.cro
