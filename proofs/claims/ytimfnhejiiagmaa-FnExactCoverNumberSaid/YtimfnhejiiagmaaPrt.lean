/- Contracts of the laws' helpers over pairs: toIntA2, toIntA2S, szIntA2S, eqIntA2, eqIntA2S, markIntA2S, heldIntA2S. -/
import Derived.Test.YtimfnhejiiagmaaPrs
import Derived.Test.YtimfnhejiiagmaaRws
import Derived.Deep.RegionHeld3
namespace Go.Proofs.Ytimfnhejiiagmaa.prt
open Go.RowKit Go.Deep Go.Proofs.Ytimfnhejiiagmaa.base
open Go.Proofs.Ytimfnhejiiagmaa.ints (infoInt infoInts ret_int ret_no ret_yes)
open Go.Proofs.Ytimfnhejiiagmaa.prs

theorem infoA2 : (Try.prog.info? 26).map (fun i => (i.zero, i.size, i.bytes)) = some (some (.agg #[.int .i64 0, .int .i64 0]), 2, 16) := by kernel_rfl

theorem two_cells {w : World} {b : Nat} {t : TypeId} {c0 c1 : Value} (h : Blk w b t #[c0, c1]) : w.cell? ⟨b, 0, none⟩ = some c0 ∧ w.cell? ⟨b, 1, none⟩ = some c1 ∧ b < w.heap.size := by
  have hl := h.lt
  unfold Blk at h
  refine ⟨?_, ?_, hl⟩ <;> simp only [World.cell?, h] <;> rfl



/-- the cells of a list of pairs -/
def pc (ps : List (Int × Int)) (j : Nat) : Value := .int .i64 (if j % 2 = 0 then (ps.getD (j / 2) (0, 0)).1 else (ps.getD (j / 2) (0, 0)).2)
theorem pc_even {ps : List (Int × Int)} {k : Nat} (h : k < ps.length) : pc ps (k * 2) = .int .i64 ps[k].1 := by
  unfold pc
  rw [if_pos (by omega), show k * 2 / 2 = k by omega]
  simp [List.getD, h]
theorem pc_odd {ps : List (Int × Int)} {k : Nat} (h : k < ps.length) : pc ps (k * 2 + 1) = .int .i64 ps[k].2 := by
  unfold pc
  rw [if_neg (by omega), show (k * 2 + 1) / 2 = k by omega]
  simp [List.getD, h]
theorem mkPairs (n : Nat) (h : n ≤ 1048576) (w : World) : (Instr.makeSlice 71 (.int .i64 (n : Int)) (.int .i64 (n : Int))).run Try.prog w = .ok (.slice (some ⟨w.heap.size, 0, none⟩) n n) (w.alloc (.cells (madeCells #[.int .i64 0, .int .i64 0] (n * 2)) 26)) := by
  obtain ⟨i0, hi, hz0, hz1, hz2⟩ := info_parts infoA2
  have := run_make (P := Try.prog) w 71 26 i0 (.agg #[.int .i64 0, .int .i64 0]) Try.underlying71 hi hz0 .i64 .i64 n n (by omega) (Int.le_refl _) (by rw [hz2]; omega) (by omega)
  simp only [Int.toNat_natCast, hz1] at this
  exact this
theorem rowIs_made2 (w : World) (n : Nat) : (w.alloc (.cells (madeCells #[.int .i64 0, .int .i64 0] (n * 2)) 26)).rowIs w.heap.size 26 (n * 2) (fun _ => .int .i64 0) :=
  ⟨_, blk_alloc_new _ _, size_madeCells _ _, fun i hi => by
    have h2 : i % 2 = 0 ∨ i % 2 = 1 := by omega
    rcases h2 with e | e <;> simp [madeCells, hi, e]⟩

/-- an own block of pairs -/
theorem own_of_row {w : World} {B T g : Nat} {ps : List (Int × Int)} (h : w.rowIs g 26 (ps.length * 2) (pc ps)) (hB : B ≤ g) (hT : g < T) (hm : ps.length ≤ maxLen) : OwnPairs w B T (.slice (some ⟨g, 0, none⟩) ps.length ps.length) ps := by
  have hin : ∀ p, PIn (.slice (some ⟨g, 0, none⟩) ps.length ps.length) p → p.block = g ∧ p.spot = none := by
    rintro p ⟨b, o, len, cap, hv, hb, hs, _⟩
    injection hv with e1 e2 e3
    injection e1 with e1
    injection e1 with e1
    exact ⟨by omega, hs⟩
  refine ⟨⟨some ⟨g, 0, none⟩, _, rfl, Nat.le_refl _, hm, fun k hk => ⟨g, 0, rfl, ?_, ?_⟩⟩, fun p hp => by rw [(hin p hp).1]; exact hB, fun p hp => by rw [(hin p hp).1]; exact hT, fun p hp => ?_⟩
  · rw [Nat.zero_add, h.cell (by omega), pc_even hk]
  · rw [Nat.zero_add, h.cell (by omega), pc_odd hk]
  · obtain ⟨pb, po, sp⟩ := p
    obtain ⟨e1, e2⟩ := hin _ hp
    simp at e1 e2
    subst e1; subst e2
    exact h.frozen po






set_option maxHeartbeats 1000000 in
theorem eq_one (x y x' y' : Int) (w : World) :
    Calls Try.prog 19 #[.agg #[.int .i64 x, .int .i64 y], .agg #[.int .i64 x', .int .i64 y']] w fun e w' => e = .returned (.bool (decide (x = x' ∧ y = y'))) ∧ Below w.heap.size w w' := by
  have HS0 : Hid (Blk ((w.alloc (.cells #[.int .i64 x, .int .i64 y] 26)).alloc (.cells #[.int .i64 x', .int .i64 y'] 26)) w.heap.size 26 #[.int .i64 x, .int .i64 y]
      ∧ Blk ((w.alloc (.cells #[.int .i64 x, .int .i64 y] 26)).alloc (.cells #[.int .i64 x', .int .i64 y'] 26)) (w.heap.size + 1) 26 #[.int .i64 x', .int .i64 y']
      ∧ Below w.heap.size w ((w.alloc (.cells #[.int .i64 x, .int .i64 y] 26)).alloc (.cells #[.int .i64 x', .int .i64 y'] 26))) := Lib.hid ⟨(Blk.new _ _ _).alloc _, by
      have := Blk.new (w.alloc (.cells #[.int .i64 x, .int .i64 y] 26)) 26 #[.int .i64 x', .int .i64 y']
      simpa using this, below_al (below_al (Below.refl _ _) _) _⟩
  go_enter Try.func19, Try.ntmps19
  go_wp2_with fail
  go_loopw [4, 5] (fun r i wr => ∃ k : Nat, k ≤ 2 ∧ i = .int .i64 k ∧ r = .bool false ∧ Hid (0 < k → x = x') ∧ Hid (1 < k → y = y') ∧ Hid (Blk wr w.heap.size 26 #[.int .i64 x, .int .i64 y] ∧ Blk wr (w.heap.size + 1) 26 #[.int .i64 x', .int .i64 y'] ∧ Below w.heap.size w wr)) (fun _ i _ => 2 - (intOf i).toNat)
  case atStart => exact ⟨0, by omega, rfl, rfl, fun h => absurd h (by omega), fun h => absurd h (by omega), HS0⟩
  case round =>
    clear HS0
    obtain ⟨k, hk, rfl, rfl, h1, h2, hH⟩ := hrel
    obtain ⟨wo, rfl⟩ : ∃ wo : World, wo = wr := ⟨_, rfl⟩
    obtain ⟨a0, a1, a2⟩ := two_cells hH.out.1
    obtain ⟨c0, c1, c2⟩ := two_cells hH.out.2.1
    have K := Lib.hid (fun n => (show Blk (wo.drewN n) w.heap.size 26 #[.int .i64 x, .int .i64 y] ∧ Blk (wo.drewN n) (w.heap.size + 1) 26 #[.int .i64 x', .int .i64 y'] ∧ Below w.heap.size w (wo.drewN n) from ⟨hH.out.1, hH.out.2.1, below_drewN hH.out.2.2 n⟩))
    rcases (by omega : k = 0 ∨ k = 1 ∨ k = 2) with rfl | rfl | rfl
    · by_cases he : x = x'
      · have d : (x != x') = false := by simp [he]
        have HE := Lib.hid he
        clear he
        go_wp2_with fail
        go_quiet (fail)
        go_wp2_with fail
        go_roundw
        case rel => exact ⟨1, by omega, by go_num, rfl, fun _ => HE.out, fun h => absurd h (by omega), K.out _⟩
        case measure => simp [intOf]
      · have d : (x != x') = true := by simp [he]
        have HE : Hid (¬ (x = x' ∧ y = y')) := Lib.hid (fun h => by simp [he] at h)
        clear he
        go_wp2_with fail
        go_quiet (fail)
        go_wp2_with fail
        go_ret
        exact ⟨ret_no HE.out, (K.out _).2.2⟩
    · by_cases he : y = y'
      · have d : (y != y') = false := by simp [he]
        have HE := Lib.hid he
        clear he
        go_wp2_with fail
        go_quiet (fail)
        go_wp2_with fail
        go_roundw
        case rel => exact ⟨2, by omega, by go_num, rfl, fun _ => h1.out (by omega), fun _ => HE.out, K.out _⟩
        case measure => simp [intOf]
      · have d : (y != y') = true := by simp [he]
        have HE : Hid (¬ (x = x' ∧ y = y')) := Lib.hid (fun h => by simp [he] at h)
        clear he
        go_wp2_with fail
        go_quiet (fail)
        go_wp2_with fail
        go_ret
        exact ⟨ret_no HE.out, (K.out _).2.2⟩
    · have HE : Hid (x = x' ∧ y = y') := Lib.hid ⟨h1.out (by omega), h2.out (by omega)⟩
      go_wp2_with fail
      go_ret
      exact ⟨ret_yes HE.out, hH.out.2.2⟩



set_option maxHeartbeats 1000000 in
theorem eq_same (v u : Value) (ps : List (Int × Int)) (w : World) (h : Pairs w v ps) (h' : Pairs w u ps) :
    Calls Try.prog 120 #[v, u] w fun e w' => e = .returned (.bool true) ∧ Below w.heap.size w w' := by
  obtain ⟨A, b, o, cap, rfl, hcap, hmax, hA, hc⟩ := h.form
  obtain ⟨A', b', o', cap', rfl, hcap', hmax', hA', hc'⟩ := h'.form
  have hm64 : (ps.length : Int) ≤ 9223372036854775807 := by unfold maxLen at hmax; omega
  clear h h' hmax hmax'
  have hb0 : ((ps.length : Int) != (ps.length : Int)) = false := by simp
  go_enter Try.func120, Try.ntmps120
  go_wp2_with fail
  go_loopw [5] (fun i wr => ∃ k, k ≤ ps.length ∧ i = .int .i64 k ∧ Hid (Below w.heap.size w wr)) (fun i _ => ps.length - (intOf i).toNat)
  case atStart => exact ⟨0, Nat.zero_le _, rfl, Below.refl _ _⟩
  case round =>
    obtain ⟨k, hk, rfl, hH⟩ := hrel
    obtain ⟨wo, rfl⟩ : ∃ wo : World, wo = wr := ⟨_, rfl⟩
    by_cases hlt : k < ps.length
    · have hkz : (k : Int) < (ps.length : Int) := by omega
      obtain rfl := hA (by omega)
      obtain rfl := hA' (by omega)
      have c0 := below_cell hH.out _ _ (hc k hlt).1
      have c1 := below_cell hH.out _ _ (hc k hlt).2
      have c2 := below_cell hH.out _ _ (hc' k hlt).1
      have c3 := below_cell hH.out _ _ (hc' k hlt).2
      have HC := Lib.hid hc
      have HC' := Lib.hid hc'
      clear hc hc' hA hA'
      go_wp2_with fail
      go_region_held3 (fun w' => w'.cell? ⟨b, o + k * 2, none⟩ = some (.int .i64 ps[k].1) ∧ w'.cell? ⟨b, o + k * 2 + 1, none⟩ = some (.int .i64 ps[k].2) ∧ w'.cell? ⟨b', o' + k * 2, none⟩ = some (.int .i64 ps[k].1) ∧ w'.cell? ⟨b', o' + k * 2 + 1, none⟩ = some (.int .i64 ps[k].2) ∧ Below wo.heap.size wo w')
        ((refine held4 c0 c1 c2 c3 ?_; repeat (first | (with_reducible exact Below.refl _ _) | (with_reducible assumption) | (with_reducible refine below_dr ?_) | (with_reducible refine below_tr ?_ (by assumption)))))
        (first | (go_at_call 19; (with_reducible refine (eq_one _ _ _ _ _).mono ?_); rintro e w2 ⟨rfl, hb⟩))
      have HB := Lib.hid (below_tr hH.out (below_tr (below_dr (Below.refl _ _)) hb))
      clear hb c0 c1 c2 c3
      go_wp2_with fail
      go_roundw
      case rel => exact ⟨k + 1, by omega, by go_num, HB.out⟩
      case measure => simp [intOf]; omega
    · have hkz : ¬ (k : Int) < (ps.length : Int) := by omega
      clear hc hc' hA hA'
      go_wp2_with fail
      go_ret
      exact ⟨rfl, hH.out⟩



/-- the marks, two for each pair -/
def marks2 (k : Int) (n : Nat) : List (Int × Int) := (List.range n).map fun (i : Nat) => (k + 2 * (i : Int), k + 2 * (i : Int) + 1)
theorem len_marks2 (k : Int) (n : Nat) : (marks2 k n).length = n := by simp [marks2]
theorem get_marks2 (k : Int) (n i : Nat) (h : i < (marks2 k n).length) : (marks2 k n)[i] = (k + 2 * (i : Int), k + 2 * (i : Int) + 1) := by simp [marks2]

/-- the pairs as they stand when j numbers have been marked -/
structure Marked (w wr : World) (v : Value) (ps : List (Int × Int)) (b o : Nat) (k0 : Int) (j : Nat) : Prop where
  wrote : Wrote (PIn v) w wr
  one : ∀ i (h : i < ps.length), wr.cell? ⟨b, o + i * 2, none⟩ = some (.int .i64 (if 2 * i < j then k0 + 2 * i else ps[i].1))
  two : ∀ i (h : i < ps.length), wr.cell? ⟨b, o + i * 2 + 1, none⟩ = some (.int .i64 (if 2 * i + 1 < j then k0 + 2 * i + 1 else ps[i].2))
theorem Marked.even {w wr : World} {v : Value} {ps : List (Int × Int)} {b o cap : Nat} {k0 : Int} {i : Nat} (h : Marked w wr v ps b o k0 (2 * i)) (hv : v = .slice (some ⟨b, o, none⟩) ps.length cap) (hi : i < ps.length) :
    Marked w (wr.setCell ⟨b, o + i * 2, none⟩ (.int .i64 (k0 + 2 * i))) v ps b o k0 (2 * i + 1) := by
  refine ⟨h.wrote.setCell ⟨b, o, _, cap, hv, rfl, rfl, by simp, by simp; omega⟩ _, fun q hq => ?_, fun q hq => ?_⟩
  · by_cases e : q = i
    · subst e
      rw [if_pos (by omega), World.cell?_setCell_same _ _ _ (h.one q hq)]
    · rw [World.cell?_setCell_other _ _ _ _ (fun e2 => e (by injection e2 with _ e3; omega)), h.one q hq]
      by_cases g : 2 * q < 2 * i
      · rw [if_pos g, if_pos (by omega)]
      · rw [if_neg g, if_neg (by omega)]
  · rw [World.cell?_setCell_other _ _ _ _ (fun e2 => by injection e2 with _ e3; omega), h.two q hq]
    by_cases g : 2 * q + 1 < 2 * i
    · rw [if_pos g, if_pos (by omega)]
    · rw [if_neg g, if_neg (by omega)]
theorem Marked.odd {w wr : World} {v : Value} {ps : List (Int × Int)} {b o cap : Nat} {k0 : Int} {i : Nat} (h : Marked w wr v ps b o k0 (2 * i + 1)) (hv : v = .slice (some ⟨b, o, none⟩) ps.length cap) (hi : i < ps.length) :
    Marked w (wr.setCell ⟨b, o + i * 2 + 1, none⟩ (.int .i64 (k0 + 2 * i + 1))) v ps b o k0 (2 * (i + 1)) := by
  refine ⟨h.wrote.setCell ⟨b, o, _, cap, hv, rfl, rfl, by simp; omega, by simp; omega⟩ _, fun q hq => ?_, fun q hq => ?_⟩
  · rw [World.cell?_setCell_other _ _ _ _ (fun e2 => by injection e2 with _ e3; omega), h.one q hq]
    by_cases g : 2 * q < 2 * i + 1
    · rw [if_pos g, if_pos (by omega)]
    · rw [if_neg g, if_neg (by omega)]
  · by_cases e : q = i
    · subst e
      rw [if_pos (by omega), World.cell?_setCell_same _ _ _ (h.two q hq)]
    · rw [World.cell?_setCell_other _ _ _ _ (fun e2 => e (by injection e2 with _ e3; omega)), h.two q hq]
      by_cases g : 2 * q + 1 < 2 * i + 1
      · rw [if_pos g, if_pos (by omega)]
      · rw [if_neg g, if_neg (by omega)]

set_option maxRecDepth 100000 in
set_option maxHeartbeats 1000000 in
theorem mark_any (v : Value) (ps : List (Int × Int)) (k0 : Int) (w : World) (h : Pairs w v ps) (hf : ∀ p, PIn v p → w.frozen? p = false) (hn : ps.length ≤ 1048576) (h0 : 0 ≤ k0) (h1 : k0 ≤ 16777216) :
    Calls Try.prog 121 #[v, .int .i64 k0] w fun e w' => e = .returned (.int .i64 (k0 + 2 * ps.length)) ∧ Pairs w' v (marks2 k0 ps.length) ∧ Wrote (PIn v) w w' := by
  obtain ⟨A, b, o, cap, hv, hcap, hmax, hA, hc⟩ := h.form
  have HF := Lib.hid hf
  have HM := Lib.hid hmax
  have hm64 : (ps.length : Int) ≤ 1048576 := by omega
  have HV := Lib.hid hv
  subst hv
  have H0 : Hid (∀ (b o : Nat), (0 < ps.length → A = some ⟨b, o, none⟩) → (∀ k (hk : k < ps.length), w.cell? ⟨b, o + k * 2, none⟩ = some (.int .i64 ps[k].1) ∧ w.cell? ⟨b, o + k * 2 + 1, none⟩ = some (.int .i64 ps[k].2)) → Marked w w (.slice A ps.length cap) ps b o k0 (2 * 0)) := Lib.hid (fun b o _ hc => ⟨Wrote.refl _ _, fun i hi => by rw [if_neg (by omega)]; exact (hc i hi).1, fun i hi => by rw [if_neg (by omega)]; exact (hc i hi).2⟩)
  have HS := Lib.hid (H0.out b o hA hc)
  have HA := Lib.hid hA
  clear h hf hmax hn H0 hc
  go_enter Try.func121, Try.ntmps121
  go_wp2_with fail
  go_loopw [1, 5, 6] (fun c i z wr => ∃ k, k ≤ ps.length ∧ i = .int .i64 k ∧ (∃ z', z = z') ∧ (∃ a : Int, c = .int .i64 a ∧ Hid (a = k0 + 2 * k)) ∧ Hid (Marked w wr (.slice A ps.length cap) ps b o k0 (2 * k))) (fun _ i _ _ => ps.length - (intOf i).toNat)
  case atStart => exact ⟨0, Nat.zero_le _, rfl, ⟨_, rfl⟩, ⟨_, rfl, by show k0 = k0 + 2 * ((0 : Nat) : Int); omega⟩, HS⟩
  case round =>
    clear HS
    obtain ⟨k, hk, rfl, ⟨z, rfl⟩, ⟨a, rfl, ha⟩, hH⟩ := hrel
    obtain ⟨wo, rfl⟩ : ∃ wo : World, wo = wr := ⟨_, rfl⟩
    by_cases hlt : k < ps.length
    · have hkz : (k : Int) < (ps.length : Int) := by omega
      obtain rfl := hA (by omega)
      go_wp2_with fail
      go_loopw [1, 6] (fun c i wi => ∃ j, j ≤ 2 ∧ i = .int .i64 (j : Nat) ∧ (∃ a : Int, c = .int .i64 a ∧ Hid (a = k0 + 2 * k + j)) ∧ Hid (Marked w wi (.slice (some ⟨b, o, none⟩) ps.length cap) ps b o k0 (2 * k + j))) (fun _ i _ => 2 - (intOf i).toNat)
      case atStart => exact ⟨0, Nat.zero_le _, rfl, ⟨_, rfl, by show a = k0 + 2 * k + ((0 : Nat) : Int); have := ha.out; omega⟩, hH⟩
      case round =>
        clear hH ha
        obtain ⟨j, hj, rfl, ⟨a, rfl, ha⟩, hH⟩ := hrel
        obtain ⟨wi, rfl⟩ : ∃ wi : World, wi = wr := ⟨_, rfl⟩
        have rf : ∀ p, PIn (.slice (some ⟨b, o, none⟩) ps.length cap) p → wi.frozen? p = false := fun p hp => (hH.out.wrote.frozen p).trans (HF.out p hp)
        rcases (by omega : j = 0 ∨ j = 1 ∨ j = 2) with rfl | rfl | rfl
        · have g0 := hH.out.one k hlt
          have f0 := rf ⟨b, o + k * 2, none⟩ ⟨b, o, _, cap, rfl, rfl, rfl, by simp, by simp; omega⟩
          have M := Lib.hid (hH.out.even rfl hlt)
          have HAA := Lib.hid ha.out
          have ea : a = k0 + 2 * (k : Int) := by have := ha.out; omega
          rw [← ea] at M
          have wa : wrap64 (a + 1) = a + 1 := IntWalk.wrap64_in _ (by omega)
          have HE := Lib.hid ea
          clear rf hH ha ea
          go_wp2_with fail
          go_roundw
          case rel => exact ⟨1, by omega, by go_num, ⟨_, rfl, by show wrap64 (a + 1) = k0 + 2 * (k : Int) + ((1 : Nat) : Int); rw [wa]; have := HE.out; omega⟩, M.out⟩
          case measure => simp [intOf]
        · have g0 := hH.out.two k hlt
          have f0 := rf ⟨b, o + k * 2 + 1, none⟩ ⟨b, o, _, cap, rfl, rfl, rfl, by simp; omega, by simp; omega⟩
          have M := Lib.hid (hH.out.odd rfl hlt)
          have ea : a = k0 + 2 * (k : Int) + 1 := by have := ha.out; omega
          rw [← ea] at M
          have wa : wrap64 (a + 1) = a + 1 := IntWalk.wrap64_in _ (by omega)
          have HE := Lib.hid ea
          clear rf hH ha ea
          go_wp2_with fail
          go_roundw
          case rel => exact ⟨2, by omega, by go_num, ⟨_, rfl, by show wrap64 (a + 1) = k0 + 2 * (k : Int) + ((2 : Nat) : Int); rw [wa]; have := HE.out; omega⟩, M.out⟩
          case measure => simp [intOf]
        · clear rf
          go_wp2_with fail
          go_roundw
          case rel => exact ⟨k + 1, by omega, by go_num, ⟨_, rfl⟩, ⟨_, rfl, by show a = k0 + 2 * ((k + 1 : Nat) : Int); have := ha.out; omega⟩, hH.out⟩
          case measure => simp [intOf]; omega
    · have hkz : ¬ (k : Int) < (ps.length : Int) := by omega
      obtain rfl : k = ps.length := by omega
      go_wp2_with fail
      go_ret
      refine ⟨ret_int (by have := ha.out; omega), ⟨A, cap, by rw [len_marks2], by rw [len_marks2]; exact hcap, HM.out, fun i hi => ?_⟩, hH.out.wrote⟩
      have hi' : i < ps.length := by rw [len_marks2] at hi; exact hi
      refine ⟨b, o, HA.out (by omega), ?_, ?_⟩
      · rw [get_marks2, hH.out.one i hi', if_pos (by omega)]
      · rw [get_marks2, hH.out.two i hi', if_pos (by omega)]



theorem mark_own (v : Value) (ps : List (Int × Int)) (k0 : Int) (B T : Nat) (w : World) (h : OwnPairs w B T v ps) (hn : ps.length ≤ 1048576) (h0 : 0 ≤ k0) (h1 : k0 ≤ 16777216) :
    Calls Try.prog 121 #[v, .int .i64 k0] w fun e w' => e = .returned (.int .i64 (k0 + 2 * ps.length)) ∧ Pairs w' v (marks2 k0 ps.length) ∧ ∃ S, Wrote S w w' ∧ Inside S B T := by
  refine (mark_any v ps k0 w h.pairs h.free hn h0 h1).mono ?_
  rintro e w' ⟨rfl, hp, hw⟩
  exact ⟨rfl, hp, _, hw, fun p hp => ⟨h.ge p hp, h.lt p hp⟩⟩



set_option maxRecDepth 100000 in
set_option maxHeartbeats 1000000 in
theorem held_any (v : Value) (n : Nat) (k0 : Int) (w : World) (h : Pairs w v (marks2 k0 n)) (hn : n ≤ 1048576) (h0 : 0 ≤ k0) (h1 : k0 ≤ 16777216) :
    Calls Try.prog 122 #[v, .int .i64 k0] w fun e w' => e = .returned (.int .i64 (k0 + 2 * n)) ∧ w = w' := by
  obtain ⟨A, b, o, cap, rfl, hcap, hmax, hA, hc⟩ := h.form
  have hc : ∀ k, k < n → w.cell? ⟨b, o + k * 2, none⟩ = some (.int .i64 (k0 + 2 * k)) ∧ w.cell? ⟨b, o + k * 2 + 1, none⟩ = some (.int .i64 (k0 + 2 * k + 1)) := fun k hk => by
    have := hc k (by rw [len_marks2]; exact hk)
    rw [get_marks2] at this
    exact this
  rw [len_marks2] at hA hcap ⊢
  have HC := Lib.hid hc
  have hm64 : (n : Int) ≤ 1048576 := by omega
  clear h hmax hc hn hcap
  go_enter Try.func122, Try.ntmps122
  go_wp2_with fail
  go_loopw [1, 4, 5, 6] (fun c r i z wr => ∃ k, k ≤ n ∧ i = .int .i64 (k : Nat) ∧ r = .int .i64 0 ∧ (∃ z', z = z') ∧ (∃ a : Int, c = .int .i64 a ∧ Hid (a = k0 + 2 * k)) ∧ w = wr) (fun _ _ i _ _ => n - (intOf i).toNat)
  case atStart => exact ⟨0, Nat.zero_le _, rfl, rfl, ⟨_, rfl⟩, ⟨_, rfl, by show k0 = k0 + 2 * ((0 : Nat) : Int); omega⟩, rfl⟩
  case round =>
    obtain ⟨k, hk, rfl, rfl, ⟨z, rfl⟩, ⟨a, rfl, ha⟩, rfl⟩ := hrel
    by_cases hlt : k < n
    · have hkz : (k : Int) < (n : Int) := by omega
      obtain rfl := hA (by omega)
      go_wp2_with fail
      go_loopw [1, 4, 6] (fun c r i wi => ∃ j, j ≤ 2 ∧ i = .int .i64 (j : Nat) ∧ r = .int .i64 0 ∧ (∃ a : Int, c = .int .i64 a ∧ Hid (a = k0 + 2 * k + j)) ∧ w = wi) (fun _ _ i _ => 2 - (intOf i).toNat)
      case atStart => exact ⟨0, Nat.zero_le _, rfl, rfl, ⟨_, rfl, by show a = k0 + 2 * k + ((0 : Nat) : Int); have := ha.out; omega⟩, rfl⟩
      case round =>
        clear ha
        obtain ⟨j, hj, rfl, rfl, ⟨a, rfl, ha⟩, rfl⟩ := hrel
        rcases (by omega : j = 0 ∨ j = 1 ∨ j = 2) with rfl | rfl | rfl
        · have g0 := (HC.out k hlt).1
          have ea : k0 + 2 * (k : Int) = a := by have := ha.out; omega
          rw [ea] at g0
          have wa : wrap64 (a + 1) = a + 1 := IntWalk.wrap64_in _ (by omega)
          have d : (a != a) = false := by simp
          have HE := Lib.hid ea
          clear ha ea
          go_wp2_with fail
          go_roundw
          case rel => exact ⟨1, by omega, by go_num, rfl, ⟨_, rfl, by show wrap64 (a + 1) = k0 + 2 * (k : Int) + ((1 : Nat) : Int); rw [wa]; have := HE.out; omega⟩, by first | rfl | trivial⟩
          case measure => simp [intOf]
        · have g0 := (HC.out k hlt).2
          have ea : k0 + 2 * (k : Int) + 1 = a := by have := ha.out; omega
          rw [ea] at g0
          have wa : wrap64 (a + 1) = a + 1 := IntWalk.wrap64_in _ (by omega)
          have d : (a != a) = false := by simp
          have HE := Lib.hid ea
          clear ha ea
          go_wp2_with fail
          go_roundw
          case rel => exact ⟨2, by omega, by go_num, rfl, ⟨_, rfl, by show wrap64 (a + 1) = k0 + 2 * (k : Int) + ((2 : Nat) : Int); rw [wa]; have := HE.out; omega⟩, by first | rfl | trivial⟩
          case measure => simp [intOf]
        · go_wp2_with fail
          go_roundw
          case rel => exact ⟨k + 1, by omega, by go_num, rfl, ⟨_, rfl⟩, ⟨_, rfl, by show a = k0 + 2 * ((k + 1 : Nat) : Int); have := ha.out; omega⟩, by first | rfl | trivial⟩
          case measure => simp [intOf]; omega
    · have hkz : ¬ (k : Int) < (n : Int) := by omega
      obtain rfl : k = n := by omega
      go_wp2_with fail
      go_ret
      exact ⟨ret_int (by have := ha.out; omega), rfl⟩


end Go.Proofs.Ytimfnhejiiagmaa.prt
