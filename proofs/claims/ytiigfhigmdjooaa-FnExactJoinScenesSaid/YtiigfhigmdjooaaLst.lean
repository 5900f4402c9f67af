/- Contexts with greater events in memory of their own: l7Lists of the model, slices.Clone and contextsFrom of the program. -/
import Derived.Test.YtiigfhigmdjooaaScm
import Derived.Test.YtiigfhigmdjooaaPile
import Derived.Test.YtiigfhigmdjooaaOwnz
import Derived.Test.YtiigfhigmdjooaaScene
import Derived.Laws.Cover3
namespace Go.Proofs.Ytiigfhigmdjooaa.lst
open Go.RowKit Go.Deep Go.Proofs.Ytiigfhigmdjooaa.base
open Go.Proofs.Ytiigfhigmdjooaa.ints (infoInt infoInts)
open Go.Proofs.Ytiigfhigmdjooaa.rws (total len_le_total)
open Go.Proofs.Ytiigfhigmdjooaa.scm

def shift (by_ : Int) (c : List Int) : List Int := c.map (fun e => e + by_)
def lists (by_ : Int) (xss : List (List Int)) : List (List Int) := xss.map (shift by_)
theorem len_lists (b : Int) (xss : List (List Int)) : (lists b xss).length = xss.length := by simp [lists]
theorem len_shift (b : Int) (c : List Int) : (shift b c).length = c.length := by simp [shift]
theorem lists_at (b : Int) (xss : List (List Int)) {r : Nat} (h : r < xss.length) : (lists b xss)[r]'(by rw [len_lists]; exact h) = shift b xss[r] := by simp [lists]
theorem lists_succ (b : Int) {xss : List (List Int)} {k : Nat} (h : k < xss.length) : lists b (xss.take (k + 1)) = lists b (xss.take k) ++ [shift b xss[k]] := by
  rw [List.take_succ_eq_append_getElem h]; simp only [lists, List.map_append, List.map_cons, List.map_nil]
theorem shift_succ (b : Int) {c : List Int} {k : Nat} (h : k < c.length) : shift b (c.take (k + 1)) = shift b (c.take k) ++ [c[k] + b] := by
  rw [List.take_succ_eq_append_getElem h]; simp only [shift, List.map_append, List.map_cons, List.map_nil]
theorem shift_zero (c : List Int) : shift 0 c = c := by simp [shift]
theorem lists_zero (xss : List (List Int)) : lists 0 xss = xss := by
  unfold lists
  rw [List.map_congr_left (g := id) (fun c _ => shift_zero c)]
  simp
/-- the first k numbers of a row are greater, the others are as they were -/
def part (b : Int) (c : List Int) (k : Nat) : List Int := (List.range c.length).map (fun j => if j < k then c.getD j 0 + b else c.getD j 0)
theorem len_part (b : Int) (c : List Int) (k : Nat) : (part b c k).length = c.length := by simp [part]
theorem part_zero (b : Int) (c : List Int) : part b c 0 = c := by
  apply List.ext_getElem (by simp [part])
  intro i h1 h2
  simp [part, List.getD, h2]
theorem part_all (b : Int) (c : List Int) : part b c c.length = shift b c := by
  apply List.ext_getElem (by simp [part, shift])
  intro i h1 h2
  have h3 : i < c.length := by rw [len_part] at h1; exact h1
  simp [part, shift, List.getD, h3]
theorem part_at (b : Int) (c : List Int) {k : Nat} (h : k < c.length) : (part b c k)[k]'(by rw [len_part]; exact h) = c[k] := by simp [part, List.getD, h]
theorem part_step (b : Int) (c : List Int) {k : Nat} (h : k < c.length) : (i64s (part b c k)).set k (.int .i64 (c[k] + b)) = i64s (part b c (k + 1)) := by
  apply List.ext_getElem (by simp [part, i64s])
  intro i h1 h2
  have h3 : i < c.length := by rw [len_i64s, len_part] at h2; exact h2
  rw [List.getElem_set]
  by_cases e : k = i
  · subst e
    rw [if_pos rfl]; simp [i64s, part, List.getD, h]
  · rw [if_neg e]
    simp only [i64s, part, List.getElem_map, List.getElem_range]
    by_cases g : i < k
    · rw [if_pos g, if_pos (by omega)]
    · rw [if_neg g, if_neg (by omega)]
theorem ownsRow_set {w : World} {B e n g cap k : Nat} {xs : List Value} (h : w.ownsRow B e 1 (.slice (some ⟨g, 0, none⟩) n cap) n xs) (_hk : k < n) (u : Value) : (w.setCell ⟨g, k, none⟩ u).ownsRow B e 1 (.slice (some ⟨g, 0, none⟩) n cap) n (xs.set k u) := by
  obtain ⟨h1, h2⟩ := h
  refine ⟨by simpa using h1, ?_⟩
  rcases h2 with ⟨h2, _⟩ | ⟨g', cap', cur, hv, hB, hg, hc1, hc2, hc3, hc4⟩
  · cases h2
  · injection hv with e1 _ e3
    injection e1 with e1
    injection e1 with e1
    subst e1; subst e3
    refine .inr ⟨g, cap, cur.setIfInBounds k u, rfl, hB, Joins.block_setCell (i := k) hg u, hc1, hc2, by simpa using hc3, ?_⟩
    rw [← hc4]
    simp [List.take_set]
/-- a store into the row under way leaves the pile -/
theorem pile_set {w W : World} {B m n g cap k : Nat} {v : Value} {vals ys : List Value} {xss : List (List Int)} (h : pile.Pile w W B m v vals xss) (hq : W.ownsRow m 3 1 (.slice (some ⟨g, 0, none⟩) n cap) n ys) (u : Value) : pile.Pile w (W.setCell ⟨g, k, none⟩ u) B m v vals xss := by
  have hgm : m ≤ g := (hq.lt g rfl).1
  have hw : Wrote (fun p => p.block = g) W (W.setCell ⟨g, k, none⟩ u) := Wrote.setCell (S := fun p => p.block = g) (p := ⟨g, k, none⟩) (Wrote.refl _ _) rfl u
  refine ⟨h.below.trans (hw.below (fun p hp => by have h1 := h.base; have h2 := h.ge; have : p.block = g := hp; omega)), h.base, ownsRow_setCell_other h.owns (fun e => ?_) u, fun r q hr => ?_, fun q hq p hp => ?_, h.each, h.ge, by simpa [World.setCell] using h.le⟩
  · obtain ⟨c, hc⟩ := make.own_type h.owns e
    obtain ⟨c', hc'⟩ := make.own_type hq (b := g) rfl
    exact absurd (make.blk_type hc hc') (by decide)
  · obtain ⟨h1, h2⟩ := h.row r q hr
    exact ⟨h1, h2.wrote hw (fun p hp => .inr (by have : p.block = g := hp; omega))⟩
  · obtain ⟨xs', h2⟩ := h.mem hq
    obtain ⟨c, f, hc⟩ := h.typ q hq p hp
    exact ⟨c, f, (hw.block _ (fun r hr e => by have := h2.lt p hp; have : r.block = g := hr; omega)).trans hc⟩


set_option maxRecDepth 20000 in
set_option maxHeartbeats 4000000 in
theorem spec_pile (v : Value) (xss : List (List Int)) (d : Int) (w : World) (h : IRows w v xss) (hn : xss.length ≤ 10) (hd : 0 ≤ d ∧ d ≤ 12) (hx : ∀ r (hr : r < xss.length), xss[r].length ≤ 12 ∧ ∀ k (hk : k < xss[r].length), 0 ≤ (xss[r])[k] ∧ (xss[r])[k] ≤ 11) :
    Calls Try.prog 79 #[v, .int .i64 d] w fun e w' => ∃ u vals, e = .returned u ∧ pile.Pile w w' w.heap.size w'.heap.size u vals (lists d xss) := by
  obtain ⟨s0, si, sz0, sz1, sz2⟩ := info_parts infoInts
  obtain ⟨i0, hi, hz0, hz1, hz2⟩ := info_parts infoInt
  obtain ⟨A, b, o, cap, R, rfl, hcap, hmax, hA, hc⟩ := h.form
  have HX := Lib.hid hx
  obtain ⟨d0, d1⟩ := hd
  clear h hmax hcap hx
  have P0 : Hid (pile.Pile w (w.alloc (.cells #[] 39)) w.heap.size (w.alloc (.cells #[] 39)).heap.size (.slice (some ⟨w.heap.size, 0, none⟩) 0 0) [] (lists d (xss.take 0))) := Lib.hid (by
    refine pile.start (below_al (Below.refl _ _) _) (Nat.le_refl _) ?_ (by simp)
    have := World.ownsRow_made (base := w.heap.size) (e := 39) (size := 1) w #[] 0 (Nat.le_refl _) (Nat.zero_le _) rfl
    simpa using this)
  go_enter Try.func79, Try.ntmps79
  go_wp2_with fail
  go_loopw [5, 6, 7, 8] (fun v i z7 z8 wr => ∃ k : Nat, k ≤ xss.length ∧ i = .int .i64 k ∧ (∃ z', z7 = z') ∧ (∃ z', z8 = z') ∧ ∃ vals, Hid (pile.Pile w wr w.heap.size wr.heap.size v vals (lists d (xss.take k)))) (fun _ i _ _ _ => xss.length - (intOf i).toNat)
  case atStart => exact ⟨0, Nat.zero_le _, rfl, ⟨_, rfl⟩, ⟨_, rfl⟩, _, P0⟩
  case round =>
    obtain ⟨k, hk, rfl, ⟨z7, rfl⟩, ⟨z8, rfl⟩, vals, hP⟩ := hrel
    clear P0
    obtain ⟨wo, rfl⟩ : ∃ wo : World, wo = wr := ⟨_, rfl⟩
    by_cases hlt : k < xss.length
    · have hkz : (k : Int) < (xss.length : Int) := by omega
      obtain rfl := hA (by omega)
      obtain ⟨g0, gi⟩ := hc k hlt
      obtain ⟨A2, b2, o2, cap2, hv2, hcap2, hmax2, hA2, hc2⟩ := gi.form
      rw [hv2] at g0
      obtain ⟨hcl, hce⟩ := HX.out k hlt
      have HLS := Lib.hid (lists_succ d hlt)
      have HLEN : Hid ((lists d (xss.take k)).length = k) := Lib.hid (by rw [len_lists, List.length_take]; omega)
      have HC := Lib.hid hc
      have HC2 := Lib.hid hc2
      have HE := Lib.hid hce
      have P1 := Lib.hid (hP.out.keep (below_al (Below.refl _ _) (.cells #[] 3)))
      have Q1 : Hid ((wo.alloc (.cells #[] 3)).ownsRow wo.heap.size 3 1 (.slice (some ⟨wo.heap.size, 0, none⟩) 0 0) 0 (i64s (shift d (xss[k].take 0)))) := Lib.hid (by
        have := World.ownsRow_made (base := wo.heap.size) (e := 3) (size := 1) wo #[] 0 (Nat.le_refl _) (Nat.zero_le _) rfl
        simpa [i64s, shift] using this)
      obtain ⟨m, hm⟩ : ∃ m, wo.heap.size = m := ⟨_, rfl⟩
      have P1' : Hid (pile.Pile w (wo.alloc (.cells #[] 3)) w.heap.size m _ vals (lists d (xss.take k))) := Lib.hid (hm ▸ P1.out)
      have Q1' : Hid ((wo.alloc (.cells #[] 3)).ownsRow m 3 1 (.slice (some ⟨m, 0, none⟩) 0 0) 0 (i64s (shift d (xss[k].take 0)))) := Lib.hid (by have := Q1.out; rw [hm] at this; exact this)
      clear hc hc2 hce gi hv2 hmax2 hcap2 hA
      generalize xss[k] = c at *
      have HA2 := Lib.hid hA2
      clear hA2
      go_wp2_with fail
      clear P1 Q1 hm hP
      go_loopw [7, 8] (fun q i wi => ∃ t : Nat, t ≤ c.length ∧ i = .int .i64 t ∧ Hid (wi.ownsRow m 3 1 q t (i64s (shift d (c.take t)))) ∧ Hid (pile.Pile w wi w.heap.size m u5 vals (lists d (xss.take k)))) (fun _ i _ => c.length - (intOf i).toNat)
      case atStart => exact ⟨0, Nat.zero_le _, rfl, Q1', P1'⟩
      case round =>
        clear P1' Q1'
        obtain ⟨t, ht, rfl, hQ, hP⟩ := hrel
        obtain ⟨wi, rfl⟩ : ∃ wi : World, wi = wr := ⟨_, rfl⟩
        have g0 := below_cell hP.out.below _ _ g0
        by_cases htl : t < c.length
        · have htz : (t : Int) < (c.length : Int) := by omega
          obtain rfl := HA2.out (by omega)
          have g2 := below_cell hP.out.below _ _ (HC2.out t htl)
          have hmw := hP.out.le
          obtain ⟨e0, e1⟩ := HE.out t htl
          have HR := Lib.hid (shift_succ d htl)
          generalize c[t] = e at *
          go_wp2_with (at_builtin; refine wpList_append_own _ rfl (.tmp 26) (.tmp 36) 39 rfl m 3 i0 (.int .i64 0) 1 8 Try.underlying39 hi hz0 hz1 hz2 rfl (by decide) _ _ _ rfl (hQ.out.alloc _) ⟨wi.heap.size, 0, none⟩ 1 1 [.int .i64 (e + d)] rfl rfl ?c1 ?c2 ?c3 ?c4 ?c5 ?_)
          try (case c1 => exact app.one_at _ _ _)
          case c2 => first | rfl | (intro u hu; simp at hu; subst hu; rfl)
          case c3 => unfold maxLen; omega
          case c4 => omega
          try (case c5 => first | omega | (simp; omega))
          intro v' w3 hown' hgrow _
          have P3 := Lib.hid ((hP.out.keep (below_al (Below.refl _ _) (.cells #[.int .i64 (e + d)] 3))).inner (hQ.out.alloc _) hgrow)
          have Q3 : Hid (w3.ownsRow m 3 1 v' (t + 1) (i64s (shift d (c.take (t + 1))))) := Lib.hid (by rw [HR.out, ← app.i64s_snoc]; exact hown')
          clear hown' hgrow hP hQ
          go_wp2_with fail
          go_roundw
          case rel => exact ⟨t + 1, by omega, by go_num, Q3, P3⟩
          case measure => simp [intOf]; omega
        · have htz : ¬ (t : Int) < (c.length : Int) := by omega
          obtain rfl : t = c.length := by omega
          rw [List.take_length] at hQ
          obtain ⟨qa, ql, qc, rfl⟩ := make.shape hQ.out
          have U0 := Lib.hid ((app.ints_of_owns hQ.out).keep (below_al (Below.refl _ _) (.cells #[.slice qa ql qc] 39)))
          have T0 := Lib.hid (pile.typ_owns (hQ.out.alloc (.cells #[.slice qa ql qc] 39)))
          have P2 := Lib.hid (hP.out.keep (below_al (Below.refl _ _) (.cells #[.slice qa ql qc] 39)))
          have hsz := hP.out.below.size
          go_wp2_with (at_builtin; refine wpList_append_own _ rfl (.tmp 38) (.tmp 40) 22 rfl w.heap.size 39 s0 (.slice none 0 0) 1 24 Try.underlying22 si sz0 sz1 sz2 rfl (by decide) _ _ _ rfl P2.out.owns ⟨wi.heap.size, 0, none⟩ 1 1 [.slice qa ql qc] rfl rfl ?d1 ?d2 ?d3 ?d4 ?d5 ?_)
          try (case d1 => exact app.one_at _ _ _)
          case d2 => first | rfl | (intro u hu; simp at hu; subst hu; rfl)
          case d3 => rw [HLEN.out]; unfold maxLen; omega
          case d4 => rw [HLEN.out]; omega
          try (case d5 => first | omega | (simp; omega))
          intro v' w3 hown' hgrow _
          have P4 : Hid (pile.Pile w w3 w.heap.size w3.heap.size v' (vals ++ [.slice qa ql qc]) (lists d (xss.take (k + 1)))) := Lib.hid (by
            rw [HLS.out]
            exact P2.out.grow U0.out (Nat.le_refl _) (by simp) T0.out hown' hgrow)
          obtain ⟨xa, xl, xc, rfl⟩ := make.shape hown'
          clear hown' hgrow P2 U0 T0 hP hQ
          go_wp2_with fail
          go_roundw
          case rel => exact ⟨k + 1, by omega, by go_num, ⟨_, rfl⟩, ⟨_, rfl⟩, _, P4⟩
          case measure => simp [intOf]; omega
    · have hkz : ¬ (k : Int) < (xss.length : Int) := by omega
      obtain rfl : k = xss.length := by omega
      rw [List.take_length] at hP
      clear hc hA
      go_wp2_with fail
      go_ret
      first | exact ⟨_, rfl, _, hP.out⟩ | exact ⟨_, _, rfl, hP.out⟩
theorem spec_lists (v : Value) (xss : List (List Int)) (d : Int) (w : World) (h : IRows w v xss) (hn : xss.length ≤ 10) (hd : 0 ≤ d ∧ d ≤ 12) (hx : ∀ r (hr : r < xss.length), xss[r].length ≤ 12 ∧ ∀ k (hk : k < xss[r].length), 0 ≤ (xss[r])[k] ∧ (xss[r])[k] ≤ 11) :
    Calls Try.prog 79 #[v, .int .i64 d] w fun e w' => ∃ u, e = .returned u ∧ OwnRows w' w.heap.size w'.heap.size u (lists d xss) ∧ Below w.heap.size w w' := by
  refine (spec_pile v xss d w h hn hd hx).mono ?_
  rintro e w' ⟨u, vals, rfl, hP⟩
  exact ⟨_, rfl, hP.rows, hP.below⟩


theorem eql_nil {P : Program} (w : World) (t e : TypeId) (a : Option Addr) (l c : Nat) (h : P.underlying t = some (.slice e)) : (binOp .eql t (.slice a l c) (.slice none 0 0)).run P w = .ok (.bool a.isNone) w := by
  simp only [binOp]
  simp [run_equal_slice_nil w t e a l c h]


set_option maxHeartbeats 1000000 in
theorem clone_pos (v : Value) (xs : List Int) (w : World) (h : Ints w v xs) (hn : xs.length ≤ 1048576) (z : 0 < xs.length) :
    Calls Try.prog 154 #[v] w fun e w' => ∃ r, e = .returned r ∧ w'.ownsRow w.heap.size 3 1 r xs.length (i64s xs) ∧ Below w.heap.size w w' := by
  obtain ⟨i0, hi, hz0, hz1, hz2⟩ := info_parts infoInt
  have O0 : Hid ((w.alloc (.cells #[] 3)).ownsRow w.heap.size 3 1 (.slice (some ⟨w.heap.size, 0, none⟩) 0 0) 0 (i64s [])) := Lib.hid (by
      have := World.ownsRow_made (base := w.heap.size) (e := 3) (size := 1) w #[] 0 (by simp) (Nat.zero_le _) rfl
      simpa [i64s] using this)
  have B0 := Lib.hid (below_al (Below.refl w.heap.size w) (.cells #[] 3))
  obtain ⟨A, b, o, cap, rfl, hcap, hmax, hA, hc⟩ := h.form
  obtain rfl := hA z
  have G : Hid (∀ (j : Nat) (u : Value), (i64s xs)[j]? = some u → (w.alloc (.cells #[] 3)).cell? (Addr.add ⟨b, o, none⟩ j) = some u) := Lib.hid (fun j u hj => by
    have hl : j < xs.length := by
      rcases Nat.lt_or_ge j xs.length with h' | h'
      · exact h'
      · rw [List.getElem?_eq_none (by rw [len_i64s]; exact h')] at hj; cases hj
    rw [get_i64s hl] at hj
    obtain rfl := Option.some.inj hj
    have e := below_cell B0.out _ _ (hc j hl)
    have ea : Addr.add ⟨b, o, none⟩ j = ⟨b, o + j, none⟩ := by cases j <;> simp [Addr.add]
    rw [ea]; exact e)
  have HN := Lib.hid hn
  clear h hc hA hcap hmax
  have hnil : ∀ (W : World) (a : Option Addr) (l c : Nat), (binOp .eql 39 (.slice a l c) (.slice none 0 0)).run Try.prog W = .ok (.bool a.isNone) W := fun W a l c => eql_nil W _ _ a l c Try.underlying39
  go_enter Try.func154, Try.ntmps154
  go_wp2_with (at_builtin; go_must (refine wpList_append_own _ rfl (.tmp 5) (.tmp 6) 39 rfl w.heap.size 3 i0 (.int .i64 0) 1 8 Try.underlying39 hi hz0 hz1 hz2 rfl (by decide) _ _ _ rfl O0.out ⟨b, o, none⟩ xs.length cap (i64s xs) rfl (by rw [len_i64s, Nat.mul_one]) ?c1 ?c2 ?c3 ?c4 ?c5 ?_))
  case c1 => exact G.out
  case c2 => intro u hu; simp [i64s] at hu; obtain ⟨x, _, rfl⟩ := hu; rfl
  case c3 => have := HN.out; unfold maxLen; omega
  case c4 => have := HN.out; omega
  case c5 => first | omega | (simp; omega) | simp
  intro v' w3 hown' hgrow _
  have hb : Below w.heap.size w w3 := B0.out.grown hgrow B0.out.size (fun j hj => (O0.out.lt j hj).1)
  have Q3 : Hid (w3.ownsRow w.heap.size 3 1 v' xs.length (i64s xs)) := Lib.hid (by simpa [i64s] using hown')
  have HB := Lib.hid hb
  clear hown' hgrow hb O0 B0 G
  go_wp2_with fail
  go_ret
  exact ⟨_, rfl, Q3.out, HB.out⟩
theorem clone_any (v : Value) (xs : List Int) (w : World) (h : Ints w v xs) (hn : xs.length ≤ 1048576) :
    Calls Try.prog 154 #[v] w fun e w' => ∃ r, e = .returned r ∧ OwnInts w' w.heap.size w'.heap.size r xs ∧ Below w.heap.size w w' := by
  by_cases z : 0 < xs.length
  · exact (clone_pos v xs w h hn z).mono fun _ _ ⟨r, he, ho, hb⟩ => ⟨r, he, app.ints_of_owns ho, hb⟩
  · obtain rfl : xs = [] := List.eq_nil_of_length_eq_zero (by omega)
    obtain ⟨i0, hi, hz0, hz1, hz2⟩ := info_parts infoInt
    obtain ⟨A, cap, rfl, _, _, _⟩ := h
    cases A with
    | none =>
      have hnil : ∀ (W : World) (a : Option Addr) (l c : Nat), (binOp .eql 39 (.slice a l c) (.slice none 0 0)).run Try.prog W = .ok (.bool a.isNone) W := fun W a l c => eql_nil W _ _ a l c Try.underlying39
      go_enter Try.func154, Try.ntmps154
      go_wp2_with fail
      go_ret
      exact ⟨_, rfl, OwnInts.nil _ _ _, Below.refl _ _⟩
    | some a =>
      have hs : Src Try.prog i0.size 39 (.slice (some a) 0 cap) 0 [] (w.alloc (.cells #[] 3)) := Src.ofSlice _ Try.underlying39 a 0 cap [] (by simp) (fun j u hu => by simp at hu) (fun u hu => by simp at hu)
      have hrun : ∀ ty, (Builtin.append_ #[39, 39] ty #[.slice (some ⟨w.heap.size, 0, none⟩) 0 0, .slice (some a) 0 cap]).run Try.prog (w.alloc (.cells #[] 3)) = .ok (.slice (some ⟨w.heap.size, 0, none⟩) 0 0) (w.alloc (.cells #[] 3)) := fun ty =>
        run_append_nothing (P := Try.prog) (w.alloc (.cells #[] 3)) 39 39 ty 3 i0 Try.underlying39 hi (some ⟨w.heap.size, 0, none⟩) 0 0 (Nat.le_refl _) _ hs
      have O0 : Hid ((w.alloc (.cells #[] 3)).ownsRow w.heap.size 3 1 (.slice (some ⟨w.heap.size, 0, none⟩) 0 0) 0 (i64s [])) := Lib.hid (by
        have := World.ownsRow_made (base := w.heap.size) (e := 3) (size := 1) w #[] 0 (by simp) (Nat.zero_le _) rfl
        simpa [i64s] using this)
      clear hs
      have hnil : ∀ (W : World) (a : Option Addr) (l c : Nat), (binOp .eql 39 (.slice a l c) (.slice none 0 0)).run Try.prog W = .ok (.bool a.isNone) W := fun W a l c => eql_nil W _ _ a l c Try.underlying39
      go_enter Try.func154, Try.ntmps154
      go_wp2_with (at_builtin; refine Lib.wpList_append_run _ rfl _ _ _ _ rfl _ _ rfl rfl _ _ (hrun _) ?_)
      all_goals
        go_ret
        exact ⟨_, rfl, app.ints_of_owns O0.out, below_al (Below.refl _ _) _⟩



set_option maxRecDepth 20000 in
set_option maxHeartbeats 4000000 in
theorem impl_from (x : Int) (u : Value) (xss : List (List Int)) (v : Value) (ws : List Int) (d : Int) (w : World) (h : scene.GV w v ws u xss) (hn : xss.length ≤ 10) (hd : 0 ≤ d ∧ d ≤ 12) (hx : ∀ r (hr : r < xss.length), 0 < xss[r].length ∧ xss[r].length ≤ 12 ∧ ∀ k (hk : k < xss[r].length), 0 ≤ (xss[r])[k] ∧ (xss[r])[k] ≤ 11) :
    Calls Try.prog 84 #[.agg #[.int .i64 x, u, v], .int .i64 d] w fun e w' => ∃ u', e = .returned u' ∧ OwnRows w' w.heap.size w'.heap.size u' (lists d xss) ∧ Below w.heap.size w w' := by
  obtain ⟨s0, si, sz0, sz1, sz2⟩ := info_parts infoInts
  obtain ⟨i0, hi, hz0, hz1, hz2⟩ := info_parts infoInt
  obtain ⟨C, cap', rfl⟩ : ∃ A c, v = .slice A ws.length c := by obtain ⟨A, c, hv, _⟩ := h.ints; exact ⟨A, c, by rw [hv, len_i64s]⟩
  obtain ⟨A, b, o, cap, R, rfl, hcap, hmax, hA, hc⟩ := h.rows.form
  have HX := Lib.hid hx
  obtain ⟨d0, d1⟩ := hd
  clear h hmax hcap hx
  obtain ⟨w2, hw2⟩ : ∃ w2, w.alloc (.cells #[.int .i64 x, .slice A xss.length cap, .slice C ws.length cap'] 43) = w2 := ⟨_, rfl⟩
  have hsz : w2.heap.size = w.heap.size + 1 := by rw [← hw2]; simp
  have KB : Hid (Blk w2 w.heap.size 43 #[.int .i64 x, .slice A xss.length cap, .slice C ws.length cap']) := Lib.hid (by rw [← hw2]; exact Blk.new w _ _)
  have BW : Hid (Below w.heap.size w w2) := Lib.hid (by rw [← hw2]; exact below_al (Below.refl _ _) _)
  have HSZ := Lib.hid hsz
  have P0 : Hid (pile.Pile w (w2.alloc (.cells (madeCells #[.slice none 0 0] xss.length) 39)) (w.heap.size + 1) (w2.alloc (.cells (madeCells #[.slice none 0 0] xss.length) 39)).heap.size (.slice (some ⟨w2.heap.size, 0, none⟩) 0 xss.length) [] (lists d (xss.take 0))) := Lib.hid (by
    refine pile.start (below_al BW.out _) (by omega) ?_ (by simp; omega)
    have := World.ownsRow_made (base := w.heap.size + 1) (e := 39) (size := 1) w2 (madeCells #[.slice none 0 0] xss.length) xss.length (by omega) (by unfold maxLen; omega) (by simp [madeCells])
    simpa using this)
  have hmk := app.mk0s xss.length (by omega) w2
  obtain ⟨c0, c1, c2, c3⟩ := scene.three_cells KB.out
  have KB1 := Lib.hid (KB.out.alloc (.cells (madeCells #[.slice none 0 0] xss.length) 39))
  clear hsz
  go_enter Try.func84, Try.ntmps84
  go_wp2_with fail
  go_loopw [5, 7, 8, 9, 17] (fun out z7 z8 z9 i wr => ∃ k : Nat, k ≤ xss.length ∧ i = .int .i64 k ∧ (∃ z', z7 = z') ∧ (∃ z', z8 = z') ∧ (∃ z', z9 = z') ∧ Hid (Blk wr w.heap.size 43 #[.int .i64 x, .slice A xss.length cap, .slice C ws.length cap']) ∧ ∃ vals, Hid (pile.Pile w wr (w.heap.size + 1) wr.heap.size out vals (lists d (xss.take k)))) (fun _ _ _ _ i _ => xss.length - (intOf i).toNat)
  case atStart => exact ⟨0, Nat.zero_le _, rfl, ⟨_, rfl⟩, ⟨_, rfl⟩, ⟨_, rfl⟩, KB1, _, P0⟩
  case round =>
    obtain ⟨k, hk, rfl, ⟨z7, rfl⟩, ⟨z8, rfl⟩, ⟨z9, rfl⟩, hK, vals, hP⟩ := hrel
    clear P0 KB1 KB BW HSZ hmk c0 c1 c2 c3 hw2
    obtain ⟨wo, rfl⟩ : ∃ wo : World, wo = wr := ⟨_, rfl⟩
    by_cases hlt : k < xss.length
    · have hkz : (k : Int) < (xss.length : Int) := by omega
      obtain rfl := hA (by omega)
      obtain ⟨g0, gi⟩ := hc k hlt
      have g0 := below_cell hP.out.below _ _ g0
      obtain ⟨hc0, hcl, hce⟩ := HX.out k hlt
      have HCL := Lib.hid (clone_pos (R k) xss[k] wo (gi.below hP.out.below) (by omega) hc0)
      have HLS := Lib.hid (lists_succ d hlt)
      have HLEN : Hid ((lists d (xss.take k)).length = k) := Lib.hid (by rw [len_lists, List.length_take]; omega)
      have HC := Lib.hid hc
      have HE := Lib.hid hce
      have HPS := Lib.hid (fun j (hj : j < xss[k].length) => And.intro (part_step d xss[k] hj) (part_at d xss[k] hj))
      have HPZ := Lib.hid (part_zero d xss[k])
      have HPA := Lib.hid (part_all d xss[k])
      have HPL := Lib.hid (fun j => len_part d xss[k] j)
      obtain ⟨A2, cap2, hv2⟩ : ∃ C c, R k = .slice C xss[k].length c := by obtain ⟨C, c, hv, _⟩ := gi; exact ⟨C, c, by rw [hv, len_i64s]⟩
      rw [hv2] at g0 HCL
      clear hc hce gi hv2 hA
      generalize xss[k] = c at *
      go_wp2_with fail
      refine HCL.out.mono ?_
      rintro e w1 ⟨r, rfl, hr, hb⟩
      obtain ⟨g, cp, rfl⟩ : ∃ g cp, r = .slice (some ⟨g, 0, none⟩) c.length cp := by
        rcases hr.2 with ⟨_, h2⟩ | ⟨g, cp, cur, hv, _⟩
        · omega
        · exact ⟨g, cp, hv⟩
      obtain ⟨m, hm⟩ : ∃ m, wo.heap.size = m := ⟨_, rfl⟩
      have P1 : Hid (pile.Pile w w1 (w.heap.size + 1) m u5 vals (lists d (xss.take k))) := Lib.hid (hm ▸ hP.out.keep hb)
      have Q1 : Hid (w1.ownsRow m 3 1 (.slice (some ⟨g, 0, none⟩) c.length cp) c.length (i64s (part d c 0))) := Lib.hid (by rw [HPZ.out, ← hm]; exact hr)
      have K1 := Lib.hid (hK.out.below hb)
      have HMW : Hid (w.heap.size + 1 ≤ m) := Lib.hid (by rw [← hm]; exact hP.out.ge)
      clear hr hb hm hP hK HCL
      go_wp2_with fail
      go_loopw [9, 25] (fun _ i wi => ∃ t : Nat, t ≤ c.length ∧ i = .int .i64 t ∧ Hid (wi.ownsRow m 3 1 (.slice (some ⟨g, 0, none⟩) c.length cp) c.length (i64s (part d c t))) ∧ Hid (pile.Pile w wi (w.heap.size + 1) m u5 vals (lists d (xss.take k))) ∧ Hid (Blk wi w.heap.size 43 #[.int .i64 x, .slice (some ⟨b, o, none⟩) xss.length cap, .slice C ws.length cap'])) (fun _ i _ => c.length - (intOf i).toNat)
      case atStart => exact ⟨0, Nat.zero_le _, rfl, Q1, P1, K1⟩
      case round =>
        clear P1 Q1 K1
        obtain ⟨t, ht, rfl, hQ, hP, hK⟩ := hrel
        obtain ⟨wi, rfl⟩ : ∃ wi : World, wi = wr := ⟨_, rfl⟩
        by_cases htl : t < c.length
        · have htz : (t : Int) < (c.length : Int) := by omega
          obtain ⟨hst, hat⟩ := HPS.out t htl
          have g2 : wi.cell? ⟨g, t, none⟩ = some (.int .i64 c[t]) := by
            have hs : Ints wi _ (part d c t) := app.sl_of_owns hQ.out
            obtain ⟨A3, b3, o3, cap3, hv3, _, _, hA3, hc3⟩ := hs.form
            have := hc3 t (by rw [HPL.out]; exact htl)
            rw [hat] at this
            injection hv3 with e1 e2 e3
            rw [← e1] at hA3
            have h4 := hA3 (by rw [HPL.out]; omega)
            injection h4 with h4
            injection h4 with h5 h6
            rw [← h5, ← h6, Nat.zero_add] at this
            exact this
          have rf : ∀ q, wi.frozen? ⟨g, q, none⟩ = false := fun q => by
            obtain ⟨cc, hcc⟩ := make.own_type hQ.out (b := g) rfl
            exact Joins.unfrozen_of_block hcc q
          obtain ⟨e0, e1⟩ := HE.out t htl
          have Q2 := ownsRow_set hQ.out htl (.int .i64 (c[t] + d))
          rw [hst] at Q2
          have Q2 := Lib.hid Q2
          have P2 := Lib.hid (pile_set (k := t) hP.out hQ.out (.int .i64 (c[t] + d)))
          have K2 : Hid (Blk (wi.setCell ⟨g, t, none⟩ (.int .i64 (c[t] + d))) w.heap.size 43 #[.int .i64 x, .slice (some ⟨b, o, none⟩) xss.length cap, .slice C ws.length cap']) := Lib.hid (hK.out.wrote (Wrote.setCell (S := fun p => p.block = g) (p := ⟨g, t, none⟩) (Wrote.refl _ _) rfl _) (fun p hp e => by have h1 : p.block = g := hp; have h2 := (hQ.out.lt g rfl).1; have := HMW.out; omega))
          have HGL := hQ.out.lt g rfl
          clear hst hat
          generalize c[t] = e at *
          go_wp2_with fail
          go_roundw
          case rel => exact ⟨t + 1, by omega, by go_num, Q2, P2, K2⟩
          case measure => simp [intOf]; omega
        · have htz : ¬ (t : Int) < (c.length : Int) := by omega
          obtain rfl : t = c.length := by omega
          rw [HPA.out] at hQ
          have U0 := Lib.hid ((app.ints_of_owns hQ.out).keep (below_al (Below.refl _ _) (.cells #[.slice (some ⟨g, 0, none⟩) c.length cp] 39)))
          have T0 := Lib.hid (pile.typ_owns (hQ.out.alloc (.cells #[.slice (some ⟨g, 0, none⟩) c.length cp] 39)))
          have P2 := Lib.hid (hP.out.keep (below_al (Below.refl _ _) (.cells #[.slice (some ⟨g, 0, none⟩) c.length cp] 39)))
          have K2 := Lib.hid (hK.out.alloc (.cells #[.slice (some ⟨g, 0, none⟩) c.length cp] 39))
          have hsz := hP.out.below.size
          have hmw := HMW.out
          have hml := hP.out.le
          go_wp2_with (at_builtin; refine wpList_append_own _ rfl (.tmp 36) (.tmp 38) 22 rfl (w.heap.size + 1) 39 s0 (.slice none 0 0) 1 24 Try.underlying22 si sz0 sz1 sz2 rfl (by decide) _ _ _ rfl P2.out.owns ⟨wi.heap.size, 0, none⟩ 1 1 [.slice (some ⟨g, 0, none⟩) c.length cp] rfl rfl ?d1 ?d2 ?d3 ?d4 ?d5 ?_)
          try (case d1 => exact app.one_at _ _ _)
          case d2 => first | rfl | (intro u hu; simp at hu; subst hu; rfl)
          case d3 => rw [HLEN.out]; unfold maxLen; omega
          case d4 => rw [HLEN.out]; omega
          try (case d5 => first | omega | (simp; omega))
          intro v' w3 hown' hgrow _
          have P4 : Hid (pile.Pile w w3 (w.heap.size + 1) w3.heap.size v' (vals ++ [.slice (some ⟨g, 0, none⟩) c.length cp]) (lists d (xss.take (k + 1)))) := Lib.hid (by
            rw [HLS.out]
            exact P2.out.grow U0.out (Nat.le_refl _) (by simp) T0.out hown' hgrow)
          have K4 : Hid (Blk w3 w.heap.size 43 #[.int .i64 x, .slice (some ⟨b, o, none⟩) xss.length cap, .slice C ws.length cap']) := Lib.hid ((hgrow.block _ K2.out.lt (fun e => by have := (P2.out.owns.lt _ e.symm).1; omega)).trans K2.out)
          obtain ⟨xa, xl, xc, rfl⟩ := make.shape hown'
          clear hown' hgrow P2 U0 T0 hP hQ hK K2
          go_wp2_with fail
          go_roundw
          case rel => exact ⟨k + 1, by omega, by go_num, ⟨_, rfl⟩, ⟨_, rfl⟩, ⟨_, rfl⟩, K4, _, P4⟩
          case measure => simp [intOf]; omega
    · have hkz : ¬ (k : Int) < (xss.length : Int) := by omega
      obtain rfl : k = xss.length := by omega
      rw [List.take_length] at hP
      clear hc hA
      go_wp2_with fail
      go_ret
      exact ⟨_, rfl, hP.out.rows.mono (by omega) (Nat.le_refl _), hP.out.below⟩


end Go.Proofs.Ytiigfhigmdjooaa.lst
