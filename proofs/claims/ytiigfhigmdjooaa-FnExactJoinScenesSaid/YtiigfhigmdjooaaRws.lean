/- Contracts of the laws' own helpers over slices of rows of integers: toIntSS, eqIntSS, markIntSS, heldIntSS, szIntSS. -/
import Derived.Test.YtiigfhigmdjooaaInts
namespace Go.Proofs.Ytiigfhigmdjooaa.rws
open Go.RowKit Go.Deep Go.Proofs.Ytiigfhigmdjooaa.base
open Go.Proofs.Ytiigfhigmdjooaa.ints (infoInts ret_int ret_no ret_yes)

/-- how many rows and numbers there are -/
def total (xss : List (List Int)) : Nat := xss.length + (xss.map List.length).sum
theorem len_le_sum : ∀ (xss : List (List Int)) r (h : r < xss.length), xss[r].length ≤ (xss.map List.length).sum
  | x :: l, 0, _ => by simp
  | x :: l, r + 1, h => by
    have := len_le_sum l r (by simpa using h)
    simp only [List.map_cons, List.sum_cons, List.getElem_cons_succ]
    omega
theorem len_le_total (xss : List (List Int)) (r : Nat) (h : r < xss.length) : xss[r].length ≤ total xss := by
  have := len_le_sum xss r h; unfold total; omega
theorem sum_take_succ (xss : List (List Int)) (r : Nat) (h : r < xss.length) : ((xss.take (r + 1)).map List.length).sum = ((xss.take r).map List.length).sum + xss[r].length := by
  rw [List.take_succ_eq_append_getElem h, List.map_append, List.sum_append]; simp
theorem sum_take_le (xss : List (List Int)) (r : Nat) : ((xss.take r).map List.length).sum ≤ (xss.map List.length).sum := by
  conv => rhs; rw [← List.take_append_drop r xss]
  rw [List.map_append, List.sum_append]
  exact Nat.le_add_right _ _

/-- k rows of the call's own are made: the cells that hold them are block g -/
structure Made (w wr : World) (xss : List (List Int)) (k : Nat) (vals : List Value) : Prop where
  below : Below w.heap.size w wr
  lt : w.heap.size < wr.heap.size
  len : vals.length = k
  outer : wr.rowIs w.heap.size 39 xss.length (fun j => vals.getD j (.slice none 0 0))
  row : ∀ r u, vals[r]? = some u → ∃ h : r < xss.length, OwnInts wr (w.heap.size + 1) wr.heap.size u xss[r]
  each : ∀ (r s : Nat) (a b : Value), r ≠ s → vals[r]? = some a → vals[s]? = some b → ∀ p, In a p → ¬ In b p

theorem made_start (w : World) (xss : List (List Int)) : Made w (w.alloc (.cells (madeCells #[.slice none 0 0] xss.length) 39)) xss 0 [] :=
  ⟨(Below.refl _ _).alloc (Nat.le_refl _) _, by simp, rfl, (World.rowIs_made w _ _ _).congr (fun j _ => by simp), fun r u h => by simp at h, fun r s a b _ h => by simp at h⟩

theorem made_step {w wr w1 : World} {xss : List (List Int)} {k : Nat} {vals : List Value} (h : Made w wr xss k vals) (hk : k < xss.length) {u : Value} (hu : OwnInts w1 wr.heap.size w1.heap.size u xss[k]) (hb : Below wr.heap.size wr w1) :
    Made w (w1.setCell ⟨w.heap.size, k, none⟩ u) xss (k + 1) (vals ++ [u]) := by
  have hlt := h.lt
  have hW : Wrote (fun p => p = ⟨w.heap.size, k, none⟩) w1 (w1.setCell ⟨w.heap.size, k, none⟩ u) := (Wrote.refl (fun p : Addr => p = ⟨w.heap.size, k, none⟩) w1).setCell (p := ⟨w.heap.size, k, none⟩) rfl _
  have hS : ∀ (T : Nat) (p : Addr), p = ⟨w.heap.size, k, none⟩ → p.block < w.heap.size + 1 ∨ T ≤ p.block := fun T p e => by subst e; simp
  have hsz := hW.size
  have hbs := hb.size
  refine ⟨(h.below.trans (hb.mono (by omega))).setCell (Nat.le_refl _) _, ?_, by simp [h.len], ?_, ?_, ?_⟩
  · rw [hW.size]; have := hb.size; omega
  · refine ((h.outer.of_block (hb.block _ hlt)).set k u).congr (fun j hj => ?_)
    by_cases e : j = k
    · subst e; simp [List.getD, ← h.len]
    · rw [if_neg e]
      simp only [List.getD]
      by_cases h2 : j < vals.length
      · rw [List.getElem?_append_left h2]
      · rw [List.getElem?_append_right (by omega), List.getElem?_eq_none (by omega), List.getElem?_eq_none (by simp; have := h.len; omega)]
  · intro r v hv
    by_cases e : r < vals.length
    · rw [List.getElem?_append_left e] at hv
      obtain ⟨h1, h2⟩ := h.row r v hv
      exact ⟨h1, ((h2.keep hb).wrote hW (hS _)).mono (Nat.le_refl _) (by omega)⟩
    · rw [List.getElem?_append_right (by omega)] at hv
      have : r - vals.length = 0 := by
        rcases Nat.eq_zero_or_pos (r - vals.length) with g | g
        · exact g
        · rw [List.getElem?_eq_none (by simp; omega)] at hv; cases hv
      rw [this] at hv
      simp at hv
      subst hv
      obtain rfl : r = k := by have := h.len; omega
      exact ⟨hk, ((hu.mono (by omega) (Nat.le_refl _)).wrote hW (hS _)).mono (Nat.le_refl _) (by omega)⟩
  · intro r s a b hne ha hb'
    have old : ∀ r a, (vals ++ [u])[r]? = some a → (r < vals.length ∧ vals[r]? = some a) ∨ (r = vals.length ∧ a = u) := by
      intro r a ha
      by_cases e : r < vals.length
      · rw [List.getElem?_append_left e] at ha; exact .inl ⟨e, ha⟩
      · rw [List.getElem?_append_right (by omega)] at ha
        rcases Nat.eq_zero_or_pos (r - vals.length) with g | g
        · rw [g] at ha; simp at ha; exact .inr ⟨by omega, ha.symm⟩
        · rw [List.getElem?_eq_none (by simp; omega)] at ha; cases ha
    intro p hp hq
    rcases old r a ha with ⟨_, e1⟩ | ⟨e1, rfl⟩ <;> rcases old s b hb' with ⟨_, e2⟩ | ⟨e2, rfl⟩
    · exact h.each r s a b hne e1 e2 p hp hq
    · obtain ⟨_, h2⟩ := h.row r a e1
      have g1 := In.lt h2.ints hp
      have g2 := hu.ge p hq
      omega
    · obtain ⟨_, h2⟩ := h.row s b e2
      have g1 := In.lt h2.ints hq
      have g2 := hu.ge p hp
      omega
    · omega

theorem made_done {w wr : World} {xss : List (List Int)} {vals : List Value} (h : Made w wr xss xss.length vals) (hm : xss.length ≤ maxLen) : OwnRows wr w.heap.size wr.heap.size (.slice (some ⟨w.heap.size, 0, none⟩) xss.length xss.length) xss := by
  have hin : ∀ p, In (.slice (some ⟨w.heap.size, 0, none⟩) xss.length xss.length) p → p.block = w.heap.size := by
    rintro p ⟨b, o, len, cap, hv, hb, _⟩
    injection hv with e1 e2 e3
    injection e1 with e1
    injection e1 with e1
    omega
  have mem : ∀ u ∈ vals, ∃ r, vals[r]? = some u := fun u hu => List.mem_iff_getElem?.1 hu
  refine ⟨vals, ⟨_, xss.length, by rw [h.len], by rw [h.len]; exact Nat.le_refl _, hm, fun k u hu => ⟨w.heap.size, 0, rfl, ?_⟩⟩, h.len, ?_, ?_, ?_, ?_, ?_, ?_, ?_, h.each⟩
  · have hk : k < xss.length := (h.row k u hu).1
    rw [Nat.zero_add, h.outer.cell hk]
    simp [List.getD, hu]
  · intro r hr
    have hr' : r < vals.length := by rw [h.len]; exact hr
    obtain ⟨_, h2⟩ := h.row r vals[r] (List.getElem?_eq_getElem hr')
    exact ⟨_, List.getElem?_eq_getElem hr', h2.ints⟩
  · intro p hp; rw [hin p hp]; exact Nat.le_refl _
  · intro p hp; rw [hin p hp]; exact h.lt
  · intro u hu p hp
    obtain ⟨r, hr⟩ := mem u hu
    obtain ⟨_, h2⟩ := h.row r u hr
    have := h2.ge p hp
    omega
  · intro u hu p hp
    obtain ⟨r, hr⟩ := mem u hu
    obtain ⟨_, h2⟩ := h.row r u hr
    exact h2.lt p hp
  · intro u hu p hp
    obtain ⟨r, hr⟩ := mem u hu
    obtain ⟨_, h2⟩ := h.row r u hr
    exact h2.free p hp
  · intro u hu p hp hq
    obtain ⟨r, hr⟩ := mem u hu
    obtain ⟨_, h2⟩ := h.row r u hr
    have := h2.ge p hp
    have := hin p hq
    omega

set_option maxHeartbeats 400000 in
theorem to_any (v : Value) (xss : List (List Int)) (w : World) (h : IRows w v xss) (hn : total xss ≤ 1048576) :
    Calls Try.prog 40 #[v] w fun e w' => ∃ u, e = .returned u ∧ OwnRows w' w.heap.size w'.heap.size u xss ∧ Below w.heap.size w w' := by
  obtain ⟨A, b, o, cap, R, rfl, hcap, hmax, hA, hc⟩ := h.form
  clear h
  have hlen : xss.length ≤ 1048576 := by unfold total at hn; omega
  have hmk := run_make_row' (P := Try.prog) 22 39 (.slice none 0 0) 24 Try.underlying22 infoInts rfl .i64 .i64 xss.length (by omega) (by omega)
  have HM := Lib.hid (Nat.le_trans hcap hmax)
  clear hmax
  go_enter Try.func40, Try.ntmps40
  go_wp2
  clear hmk
  go_loopw [4] (fun i wr => ∃ k vals, k ≤ xss.length ∧ i = .int .i64 k ∧ Hid (Made w wr xss k vals)) (fun i _ => xss.length - (intOf i).toNat)
  case atStart => exact ⟨0, [], Nat.zero_le _, rfl, made_start w xss⟩
  case round =>
    obtain ⟨k, vals, hk, rfl, hM⟩ := hrel
    by_cases hlt : k < xss.length
    · have hkz : (k : Int) < (xss.length : Int) := by omega
      obtain rfl := hA (by omega)
      have g1 : wr.cell? ⟨b, o + k, none⟩ = some (R k) := below_cell hM.out.below _ _ (hc k hlt).1
      have hr : Hid (Ints wr (R k) xss[k]) := (hc k hlt).2.below hM.out.below
      have HC := Lib.hid hc
      clear hc hA
      go_wp2_with fail
      refine (ints.to_any (R k) xss[k] _ hr.out (Nat.le_trans (len_le_total xss k hlt) hn)).mono ?_
      rintro e w1 ⟨u, rfl, hu, hb1⟩
      obtain ⟨ua, un, uc, rfl⟩ := hu.ints.shape
      have ho := hM.out.outer.of_block (hb1.block _ hM.out.lt)
      have g2 := ho.cell hlt
      have g3 := ho.frozen k
      have HU := Lib.hid hu
      have HB := Lib.hid hb1
      clear ho hu hb1
      go_wp2
      go_roundw
      case rel => exact ⟨k + 1, _, by omega, by go_num, made_step hM.out hlt HU.out HB.out⟩
      case measure => simp [intOf]; omega
    · have hkz : ¬ (k : Int) < (xss.length : Int) := by omega
      obtain rfl : k = xss.length := by omega
      clear hc hA
      go_wp2
      go_ret
      exact ⟨_, rfl, made_done hM.out HM.out, hM.out.below⟩

/-- what szIntSS hands back -/
def sz (xss : List (List Int)) (left : Int) : Int := if left < total xss then -1 else left - total xss

set_option maxHeartbeats 400000 in
theorem sz_any (v : Value) (xss : List (List Int)) (left : Int) (w : World) (h : IRows w v xss) (h0 : 0 ≤ left) (h1 : left ≤ 1048576) :
    Calls Try.prog 38 #[v, .int .i64 left] w fun e w' => e = .returned (.int .i64 (sz xss left)) ∧ w = w' := by
  obtain ⟨A, b, o, cap, R, rfl, hcap, hmax, hA, hc⟩ := h.form
  clear h
  have hm : (xss.length : Int) ≤ 9223372036854775807 := by unfold maxLen at hmax; omega
  clear hmax
  by_cases hlt : left < xss.length
  · have HS : Hid (sz xss left = -1) := by unfold sz total Hid; rw [if_pos (by omega)]
    have g1 : left - (xss.length : Int) < 0 := by omega
    clear hc
    go_enter Try.func38, Try.ntmps38
    go_wp2
    go_ret
    exact ⟨ret_int HS.out.symm, rfl⟩
  · have g1 : ¬ left - (xss.length : Int) < 0 := by omega
    go_enter Try.func38, Try.ntmps38
    go_wp2
    go_loopw [1, 4, 5] (fun l q i wr => ∃ k : Nat, ∃ c : Int, k ≤ xss.length ∧ i = .int .i64 k ∧ l = .int .i64 c ∧ q = .int .i64 0 ∧ 0 ≤ c ∧ c ≤ 1048576 ∧ Hid (c = left - xss.length - ((xss.take k).map List.length).sum) ∧ w = wr) (fun _ _ i _ => xss.length - (intOf i).toNat)
    case atStart => exact ⟨0, _, Nat.zero_le _, rfl, rfl, rfl, by omega, by omega, by simp [Hid], rfl⟩
    case round =>
      obtain ⟨k, c, hk, rfl, rfl, rfl, hc0, hc1, hcc, rfl⟩ := hrel
      by_cases hkl : k < xss.length
      · have hkz : (k : Int) < (xss.length : Int) := by omega
        obtain rfl := hA (by omega)
        have g0 := (hc k hkl).1
        obtain ⟨A2, b2, o2, cap2, hR, hcap2, hmax2, _, _⟩ := (hc k hkl).2.form
        rw [hR] at g0
        have hs := ints.sz_any A2 xss[k].length cap2 c w (Nat.le_trans hcap2 hmax2) (by omega) hc1
        have HX := Lib.hid (sum_take_succ xss k hkl)
        have HY := Lib.hid (sum_take_le xss (k + 1))
        have HC := Lib.hid hc
        have HR := Lib.hid hR
        clear hc hA hcap2 hmax2 hR
        by_cases h2 : c < xss[k].length
        · have HS : Hid (sz xss left = -1) := by
            have e1 := hcc.out; have e2 := HX.out; have e3 := HY.out
            unfold sz total Hid; rw [if_pos (by omega)]
          rw [if_pos h2] at hs
          go_wp2_with fail
          refine hs.mono ?_
          rintro e w' ⟨rfl, rfl⟩
          clear hs
          go_wp2
          go_ret
          exact ⟨ret_int HS.out.symm, rfl⟩
        · rw [if_neg h2] at hs
          have h3 : ¬ c - (xss[k].length : Int) < 0 := by omega
          go_wp2_with fail
          refine hs.mono ?_
          rintro e w' ⟨rfl, rfl⟩
          clear hs
          go_wp2
          go_roundw
          case rel =>
            refine ⟨k + 1, _, by omega, by go_num, rfl, rfl, by omega, by omega, ?_, by first | rfl | trivial⟩
            have e1 := hcc.out; have e2 := HX.out
            unfold Hid; omega
          case measure => simp [intOf]; omega
      · have hkz : ¬ (k : Int) < (xss.length : Int) := by omega
        have HS : Hid (sz xss left = c) := by
          have e1 := hcc.out
          rw [List.take_of_length_le (by omega)] at e1
          unfold sz total Hid; rw [if_neg (by omega)]; omega
        clear hc
        go_wp2
        go_ret
        exact ⟨ret_int HS.out.symm, rfl⟩

set_option maxHeartbeats 400000 in
theorem eq_any (v u : Value) (xss yss : List (List Int)) (w : World) (h : IRows w v xss) (h' : IRows w u yss) (hn : total xss ≤ 1048576) :
    Calls Try.prog 42 #[v, u] w fun e w' => e = .returned (.bool (decide (xss = yss))) ∧ ∃ q, w' = w.drewN q := by
  obtain ⟨A, b, o, cap, R, rfl, hcap, hmax, hA, hc⟩ := h.form
  obtain ⟨A', b', o', cap', R', rfl, hcap', hmax', hA', hc'⟩ := h'.form
  clear h h'
  unfold maxLen at hmax hmax'
  by_cases hl : xss.length = yss.length
  · have hb0 : ((xss.length : Int) != (yss.length : Int)) = false := by simp [hl]
    have HL := Lib.hid hl
    clear hl
    go_enter Try.func42, Try.ntmps42
    go_wp2
    go_loopw [5] (fun i wr => ∃ k, k ≤ xss.length ∧ i = .int .i64 k ∧ Hid (xss.take k = yss.take k) ∧ ∃ q, wr = w.drewN q) (fun i _ => xss.length - (intOf i).toNat)
    case atStart => exact ⟨0, Nat.zero_le _, rfl, rfl, 0, rfl⟩
    case round =>
      obtain ⟨k, hk, rfl, ht, q, rfl⟩ := hrel
      by_cases hlt : k < xss.length
      · have hkz : (k : Int) < (xss.length : Int) := by omega
        have hlt' : k < yss.length := by have := HL.out; omega
        have hkz' : (k : Int) < (yss.length : Int) := by omega
        obtain rfl := hA (by omega)
        obtain rfl := hA' (by omega)
        have g0 := (hc k hlt).1
        have g0' := (hc' k hlt').1
        have HR := Lib.hid (hc k hlt).2
        have HR' := Lib.hid (hc' k hlt').2
        have HT := Lib.hid (Nat.le_trans (len_le_total xss k hlt) hn)
        clear hc hc' hA hA'
        by_cases he : xss[k] = yss[k]
        · have hq : ∀ W : World, (∀ a, W.cell? a = w.cell? a) → Calls Try.prog 45 #[R k, R' k] W fun e w' => e = .returned (.bool true) ∧ ∃ q, w' = W.drewN q := fun W hW => by
            have := ints.eq_any (R k) (R' k) xss[k] yss[k] W (HR.out.keep (fun a u h => (hW a).trans h)) (HR'.out.keep (fun a u h => (hW a).trans h)) HT.out
            rw [decide_eq_true he] at this
            exact this
          have HE := Lib.hid he
          clear he
          go_wp2_with fail
          go_quiet ((go_at_call 45; go_must (exact ints.quiet_at (hq _ (fun _ => rfl)))))
          clear hq
          go_wp2
          go_roundw
          case rel =>
            refine ⟨k + 1, by omega, by go_num, ?_, q + _, rfl⟩
            show xss.take (k + 1) = yss.take (k + 1)
            rw [List.take_succ_eq_append_getElem hlt, List.take_succ_eq_append_getElem hlt', ht, HE.out]
          case measure => simp [intOf]; omega
        · have hq : ∀ W : World, (∀ a, W.cell? a = w.cell? a) → Calls Try.prog 45 #[R k, R' k] W fun e w' => e = .returned (.bool false) ∧ ∃ q, w' = W.drewN q := fun W hW => by
            have := ints.eq_any (R k) (R' k) xss[k] yss[k] W (HR.out.keep (fun a u h => (hW a).trans h)) (HR'.out.keep (fun a u h => (hW a).trans h)) HT.out
            rw [decide_eq_false he] at this
            exact this
          have HE := Lib.hid he
          clear he
          go_wp2_with fail
          go_quiet ((go_at_call 45; go_must (exact ints.quiet_at (hq _ (fun _ => rfl)))))
          clear hq
          go_wp2
          go_ret
          exact ⟨ret_no (fun e => HE.out (by simp [e])), q + _, ints.drewN_drewN _ _ _⟩
      · have hkz : ¬ (k : Int) < (xss.length : Int) := by omega
        clear hc hc' hA hA'
        go_wp2
        go_ret
        have h1 := ht.out
        rw [List.take_of_length_le (by omega), List.take_of_length_le (by have := HL.out; omega)] at h1
        exact ⟨ret_yes h1, _, rfl⟩
  · have hb0 : ((xss.length : Int) != (yss.length : Int)) = true := by simp; omega
    have HL := Lib.hid hl
    clear hl
    go_enter Try.func42, Try.ntmps42
    go_wp2
    go_ret
    exact ⟨ret_no (fun e => HL.out (by rw [e])), 0, rfl⟩

/-! ### marks -/
def before (xss : List (List Int)) (r : Nat) : Nat := ((xss.take r).map List.length).sum
theorem before_succ (xss : List (List Int)) (r : Nat) (h : r < xss.length) : before xss (r + 1) = before xss r + xss[r].length := sum_take_succ xss r h
theorem before_le (xss : List (List Int)) (r : Nat) : before xss r ≤ total xss := by
  have := sum_take_le xss r; unfold before total; omega
theorem before_all (xss : List (List Int)) : before xss xss.length = (xss.map List.length).sum := by unfold before; rw [List.take_length]
def markss (k : Int) (xss : List (List Int)) : List (List Int) := (List.range xss.length).map fun r => marks (k + before xss r) (xss.getD r []).length
theorem len_markss (k : Int) (xss : List (List Int)) : (markss k xss).length = xss.length := by simp [markss]
theorem get_markss (k : Int) (xss : List (List Int)) (r : Nat) (h : r < xss.length) : (markss k xss)[r]'(by rw [len_markss]; exact h) = marks (k + before xss r) xss[r].length := by
  simp [markss, List.getD, h]

theorem Wrote_row {w w' : World} {u v : Value} {xs : List Int} (h : Ints w v xs) (hw : Wrote (In u) w w') (hd : ∀ p, In v p → ¬ In u p) : Ints w' v xs := Sl.wrote h hw hd

/-- the rows as they stand when k of them have been marked -/
structure Marked (w wr : World) (vals : List Value) (xss : List (List Int)) (k0 : Int) (k : Nat) : Prop where
  wrote : Wrote (fun p => ∃ u ∈ vals, In u p) w wr
  row : ∀ r (h : r < xss.length), ∃ u, vals[r]? = some u ∧ Ints wr u (if r < k then marks (k0 + before xss r) xss[r].length else xss[r])

set_option maxHeartbeats 400000 in
theorem mark_vals (v : Value) (vals : List Value) (xss : List (List Int)) (k0 : Int) (B T : Nat) (w : World) (h : OwnVals w B T v vals xss) (hn : total xss ≤ 1048576) (h0 : 0 ≤ k0) (h1 : k0 ≤ 8388608) :
    Calls Try.prog 46 #[v, .int .i64 k0] w fun e w' => e = .returned (.int .i64 (k0 + before xss xss.length)) ∧ Marked w w' vals xss k0 xss.length := by
  obtain ⟨A, b, o, cap, rfl, hcap, hmax, hA, hc⟩ := h.outer.form
  have hlen := h.len
  rw [hlen] at hcap hA ⊢
  have HO := Lib.hid h
  have hx : xss.length ≤ 1048576 := by unfold total at hn; omega
  have HL := Lib.hid hlen
  clear h hmax hlen
  go_enter Try.func46, Try.ntmps46
  go_wp2
  go_loopw [1, 5] (fun c i wr => ∃ k, k ≤ xss.length ∧ i = .int .i64 k ∧ c = .int .i64 (k0 + before xss k) ∧ Hid (Marked w wr vals xss k0 k)) (fun _ i _ => xss.length - (intOf i).toNat)
  case atStart =>
    refine ⟨0, Nat.zero_le _, rfl, by simp [before], Wrote.refl _ _, fun r hr => ?_⟩
    obtain ⟨u, hu, hi⟩ := HO.out.row r hr
    exact ⟨u, hu, by rw [if_neg (by omega)]; exact hi⟩
  case round =>
    obtain ⟨k, hk, rfl, rfl, hM⟩ := hrel
    have hbl := before_le xss k
    by_cases hlt : k < xss.length
    · have hkz : (k : Int) < (xss.length : Int) := by omega
      obtain rfl := hA (by omega)
      obtain ⟨u, hu, hi⟩ := hM.out.row k hlt
      rw [if_neg (by omega)] at hi
      have hmem : u ∈ vals := List.mem_of_getElem? hu
      have g1 : wr.cell? ⟨b, o + k, none⟩ = some u := by
        rw [hM.out.wrote.cell]
        · exact hc k u hu
        · rintro ⟨u2, hu2, hin⟩
          exact HO.out.apart u2 hu2 _ hin ⟨b, o, xss.length, cap, by rw [HL.out], rfl, rfl, by simp, by simp; omega⟩
      have hl2 := Nat.le_trans (len_le_total xss k hlt) hn
      have hcall := ints.mark_any u xss[k] (k0 + before xss k) wr hi (fun p hp => (hM.out.wrote.frozen p).trans (HO.out.free u hmem p hp)) hl2 (by omega) (by omega)
      have HU := Lib.hid hu
      have HC := Lib.hid hc
      have HB := Lib.hid (before_succ xss k hlt)
      clear hc hA hu hi hmem hbl hl2
      go_wp2_with fail
      refine hcall.mono ?_
      rintro e w1 ⟨rfl, hi1, hw1⟩
      have H1 := Lib.hid hi1
      have H2 := Lib.hid hw1
      clear hcall hi1 hw1
      go_wp2
      go_roundw
      case rel =>
        refine ⟨k + 1, by omega, by go_num, by rw [HB.out]; go_num, hM.out.wrote.trans (H2.out.mono (fun p hp => ⟨u, List.mem_of_getElem? HU.out, hp⟩)), fun r hr => ?_⟩
        by_cases e : r = k
        · subst e
          exact ⟨u, HU.out, by rw [if_pos (by omega)]; exact H1.out⟩
        · obtain ⟨u2, hu2, hi2⟩ := hM.out.row r hr
          refine ⟨u2, hu2, ?_⟩
          have := Wrote_row hi2 H2.out (HO.out.each r k u2 u e hu2 HU.out)
          by_cases g : r < k
          · rw [if_pos g] at this; rw [if_pos (by omega)]; exact this
          · rw [if_neg g] at this; rw [if_neg (by omega)]; exact this
      case measure => simp [intOf]; omega
    · have hkz : ¬ (k : Int) < (xss.length : Int) := by omega
      obtain rfl : k = xss.length := by omega
      clear hc
      go_wp2
      go_ret
      exact ⟨rfl, hM.out⟩

theorem mark_any (v : Value) (xss : List (List Int)) (k0 : Int) (B T : Nat) (w : World) (h : OwnRows w B T v xss) (hn : total xss ≤ 1048576) (h0 : 0 ≤ k0) (h1 : k0 ≤ 8388608) :
    Calls Try.prog 46 #[v, .int .i64 k0] w fun e w' => e = .returned (.int .i64 (k0 + before xss xss.length)) ∧ IRows w' v (markss k0 xss) ∧ ∃ S, Wrote S w w' ∧ Inside S B T := by
  obtain ⟨vals, hv⟩ := h
  refine (mark_vals v vals xss k0 B T w hv hn h0 h1).mono ?_
  rintro e w' ⟨rfl, hM⟩
  refine ⟨rfl, ⟨vals, ?_, by rw [len_markss]; exact hv.len, fun r hr => ?_⟩, _, hM.wrote, ?_⟩
  · exact hv.outer.wrote hM.wrote (fun p hp => by rintro ⟨u, hu, hin⟩; exact hv.apart u hu p hin hp)
  · rw [len_markss] at hr
    obtain ⟨u, hu, hi⟩ := hM.row r hr
    rw [if_pos hr] at hi
    exact ⟨u, hu, by rw [get_markss _ _ _ hr]; exact hi⟩
  · rintro p ⟨u, hu, hin⟩
    exact ⟨hv.ge u hu p hin, hv.lt u hu p hin⟩


set_option maxHeartbeats 400000 in
theorem held_any (v : Value) (xss : List (List Int)) (k0 : Int) (w : World) (h : IRows w v (markss k0 xss)) (hn : total xss ≤ 1048576) (h0 : 0 ≤ k0) (h1 : k0 ≤ 8388608) :
    Calls Try.prog 53 #[v, .int .i64 k0] w fun e w' => e = .returned (.int .i64 (k0 + before xss xss.length)) ∧ w = w' := by
  obtain ⟨A, b, o, cap, R, rfl, hcap, hmax, hA, hc⟩ := h.form
  have hc : ∀ k (h : k < xss.length), w.cell? ⟨b, o + k, none⟩ = some (R k) ∧ Ints w (R k) (marks (k0 + before xss k) xss[k].length) := fun k hk => by
    have := hc k (by rw [len_markss]; exact hk)
    rw [get_markss _ _ _ hk] at this
    exact this
  rw [len_markss] at hcap hA ⊢
  have hx : xss.length ≤ 1048576 := by unfold total at hn; omega
  clear h hmax
  go_enter Try.func53, Try.ntmps53
  go_wp2
  go_loopw [1, 4, 5] (fun c q i wr => ∃ k, k ≤ xss.length ∧ i = .int .i64 k ∧ c = .int .i64 (k0 + before xss k) ∧ q = .int .i64 0 ∧ w = wr) (fun _ _ i _ => xss.length - (intOf i).toNat)
  case atStart => exact ⟨0, Nat.zero_le _, rfl, by simp [before], rfl, rfl⟩
  case round =>
    obtain ⟨k, hk, rfl, rfl, rfl, rfl⟩ := hrel
    have hbl := before_le xss k
    by_cases hlt : k < xss.length
    · have hkz : (k : Int) < (xss.length : Int) := by omega
      obtain rfl := hA (by omega)
      have g1 := (hc k hlt).1
      have hl2 := Nat.le_trans (len_le_total xss k hlt) hn
      have hcall := ints.held_any (R k) xss[k].length (k0 + before xss k) w (hc k hlt).2 hl2 (by omega) (by omega)
      have HB := Lib.hid (before_succ xss k hlt)
      have g2 : ¬ k0 + (before xss k : Int) + (xss[k].length : Int) < 0 := by omega
      have HC := Lib.hid hc
      clear hc hA
      go_wp2_with fail
      refine hcall.mono ?_
      rintro e w1 ⟨rfl, rfl⟩
      clear hcall
      go_wp2
      go_roundw
      case rel => exact ⟨k + 1, by omega, by go_num, by rw [HB.out]; go_num, rfl, by first | rfl | trivial⟩
      case measure => simp [intOf]; omega
    · have hkz : ¬ (k : Int) < (xss.length : Int) := by omega
      obtain rfl : k = xss.length := by omega
      clear hc
      go_wp2
      go_ret
      exact ⟨rfl, rfl⟩


theorem sz_bound {xss : List (List Int)} {l : Int} (h : ¬ sz xss l < 0) : (total xss : Int) ≤ l ∧ sz xss l ≤ l := by
  unfold sz at h ⊢; split at h <;> rename_i g
  · omega
  · rw [if_neg g]; omega
theorem sz_below (v : Value) (xss : List (List Int)) (left : Int) (w : World) (h : IRows w v xss) (h0 : 0 ≤ left) (h1 : left ≤ 1048576) :
    Calls Try.prog 38 #[v, .int .i64 left] w fun e w' => e = .returned (.int .i64 (sz xss left)) ∧ Below w.heap.size w w' := calls_below (sz_any v xss left w h h0 h1)
theorem eq_same (v u : Value) (xss : List (List Int)) (w : World) (h : IRows w v xss) (h' : IRows w u xss) (hn : total xss ≤ 1048576) :
    Calls Try.prog 42 #[v, u] w fun e w' => e = .returned (.bool true) ∧ Below w.heap.size w w' := by
  have := eq_any v u xss xss w h h' hn
  rw [decide_eq_true rfl] at this
  exact calls_below_drew this

end Go.Proofs.Ytiigfhigmdjooaa.rws
