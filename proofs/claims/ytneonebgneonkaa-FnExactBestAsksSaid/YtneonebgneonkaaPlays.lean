/- The plays in order: playAt, PlaysOf of both sides. -/
import Derived.Test.YtneonebgneonkaaPile
import Derived.Test.YtneonebgneonkaaPlay
namespace Go.Proofs.Ytneonebgneonkaa.plays
open Go.RowKit Go.Deep Go.Proofs.Ytneonebgneonkaa.base
open Go.Proofs.Ytneonebgneonkaa.ints (infoInt infoInts)
open Go.Proofs.Ytneonebgneonkaa.val (okSizes)

/-- answer i of the play with the place p, for n questions in all -/
def bit (n p i : Nat) : Int := ((p / 2 ^ (n - 1 - i) % 2 : Nat) : Int)
def at_ (n p : Nat) : List Int := (List.range n).map (bit n p)
/-- the first k plays -/
def upto (n k : Nat) : List (List Int) := (List.range k).map (at_ n)
def all (n : Nat) : List (List Int) := upto n (2 ^ n)
theorem len_at (n p : Nat) : (at_ n p).length = n := by simp [at_]
theorem len_upto (n k : Nat) : (upto n k).length = k := by simp [upto]
theorem upto_succ (n k : Nat) : upto n (k + 1) = upto n k ++ [at_ n k] := by simp [upto, List.range_succ]
theorem at_succ (n p k : Nat) : (List.range (k + 1)).map (bit n p) = (List.range k).map (bit n p) ++ [bit n p k] := by simp [List.range_succ]
theorem get_at (n p k : Nat) (h : k < n) : (at_ n p).getD k 0 = bit n p k := by simp [at_, List.getD, h]
theorem and_small : ∀ m : Fin 64, bits .and .i64 ((m.val : Nat) : Int) 1 = ((m.val % 2 : Nat) : Int) := by decide
theorem and_bit (n p k : Nat) (hp : p < 64) : bits .and .i64 ((p : Int) / 2 ^ (n - 1 - k)) 1 = bit n p k := by
  have e : ((p : Int) / 2 ^ (n - 1 - k)) = ((p / 2 ^ (n - 1 - k) : Nat) : Int) := by simp
  have hl : p / 2 ^ (n - 1 - k) < 64 := Nat.lt_of_le_of_lt (Nat.div_le_self _ _) hp
  rw [e, and_small ⟨_, hl⟩]
  rfl
theorem two_pow {n : Nat} (h : n ≤ 6) : 2 ^ n ≤ 64 := Nat.le_trans (Nat.pow_le_pow_right (by omega) h) (by decide)
theorem total_upto (n k : Nat) (h : n ≤ 6) (hk : k ≤ 64) : rws.total (upto n k) ≤ 1048576 := by
  have : (((upto n k).map List.length).sum) = k * n := by
    unfold upto
    rw [List.map_map]
    induction k with
    | zero => simp
    | succ k ih =>
      rw [List.range_succ, List.map_append, List.sum_append, ih (by omega)]
      simp [len_at, Nat.add_mul]
  unfold rws.total
  rw [this, len_upto]
  have : k * n ≤ 64 * 6 := Nat.mul_le_mul hk h
  omega

theorem row_done {n p : Nat} {wr : World} {g : Nat} (h : wr.rowIs g 3 n (fun j => if j < n then .int .i64 (bit n p j) else .int .i64 0)) : wr.rowIs g 3 (at_ n p).length (fun j => .int .i64 ((at_ n p).getD j 0)) := by
  rw [len_at]
  refine h.congr (fun j hj => ?_)
  rw [if_pos hj, get_at _ _ _ hj]


set_option maxHeartbeats 2000000 in
theorem play_at (n p : Nat) (w : World) (hn : n ≤ 6) (hp : p < 64) :
    Calls Try.prog 98 #[.int .i64 (p : Int), .int .i64 (n : Int)] w fun e w' => ∃ u, e = .returned u ∧ OwnInts w' w.heap.size w'.heap.size u (at_ n p) ∧ pile.Typ w' u ∧ Below w.heap.size w w' := by
  have hmk := run_make_row' (P := Try.prog) 22 3 (.int .i64 0) 8 Try.underlying22 infoInt rfl .i64 .i64 n (by omega) (by omega)
  go_enter Try.func98, Try.ntmps98
  go_wp2_with fail
  clear hmk
  go_loopw [6, 11] (fun z i wr => ∃ k : Nat, k ≤ n ∧ i = .int .i64 k ∧ (∃ z', z = z') ∧ Hid (Below w.heap.size w wr) ∧ Hid (wr.rowIs w.heap.size 3 n (fun j => if j < k then .int .i64 (bit n p j) else .int .i64 0))) (fun _ i _ => n - (intOf i).toNat)
  case atStart => exact ⟨0, Nat.zero_le _, rfl, ⟨_, rfl⟩, (Below.refl _ _).alloc (Nat.le_refl _) _, (World.rowIs_made w _ _ _).congr (fun j _ => by simp)⟩
  case round =>
    obtain ⟨k, hk, rfl, ⟨z', rfl⟩, hB, hrow⟩ := hrel
    by_cases hlt : k < n
    · have hkz : (k : Int) < (n : Int) := by omega
      have g2 := hrow.out.cell hlt
      have g3 := hrow.out.frozen k
      simp only [Nat.lt_irrefl, if_false] at g2
      have HX := Lib.hid (and_bit n p k hp)
      go_wp2_with fail
      rw [HX.out]
      refine ⟨⟨k + 1, by omega, by go_num, ⟨_, rfl⟩, hB.out.setCell (Nat.le_refl _) _, Lib.hid ((hrow.out.set k _).congr (fun j hj => ?_))⟩, by simp [intOf]; omega⟩
      by_cases e : j = k
      · subst e; simp
      · rw [if_neg e]
        by_cases h2 : j < k
        · rw [if_pos h2, if_pos (by omega)]
        · rw [if_neg h2, if_neg (by omega)]
    · have hkz : ¬ (k : Int) < (n : Int) := by omega
      obtain rfl : k = n := by omega
      go_wp2_with fail
      go_ret
      refine ⟨_, rfl, ?_, pile.typ_row hrow.out _ _, hB.out⟩
      have := ints.own_of_row (row_done hrow.out) (Nat.le_refl _) hrow.out.lt (by rw [len_at]; unfold maxLen; omega)
      rw [len_at] at this
      exact this


open Classical in
noncomputable def res (x y : Int) : List (List Int) × Bool := if okSizes x y then (all (x + y).toNat, true) else ([], false)
theorem res_yes {x y : Int} (h : okSizes x y) : res x y = (all (x + y).toNat, true) := if_pos h
theorem res_no {x y : Int} (h : ¬ okSizes x y) : res x y = ([], false) := if_neg h
theorem tot (x y : Int) : rws.total (res x y).1 ≤ 1048576 := by
  by_cases h : okSizes x y
  · rw [res_yes h]; obtain ⟨⟨a1, a2⟩, b1, b2⟩ := h; exact total_upto _ _ (by omega) (two_pow (by omega))
  · rw [res_no h]; exact Nat.zero_le _




set_option maxRecDepth 20000 in
set_option maxHeartbeats 4000000 in
theorem l2plays (x y : Int) (w : World) (hs : okSizes x y) :
    Calls Try.prog 105 #[.int .i64 x, .int .i64 y] w fun e w' => ∃ u, e = .returned u ∧ OwnRows w' w.heap.size w'.heap.size u (all (x + y).toNat) ∧ Below w.heap.size w w' := by
  obtain ⟨s0, si, sz0, sz1, sz2⟩ := info_parts infoInts
  obtain ⟨i0, hi, hz0, hz1, hz2⟩ := info_parts infoInt
  obtain ⟨n, hn⟩ : ∃ n : Nat, x + y = n := ⟨(x + y).toNat, by have := hs.1.1; have := hs.2.1; omega⟩
  have hn6 : n ≤ 6 := by have := hs.1.2; have := hs.2.2; omega
  obtain ⟨c, hc⟩ : ∃ c : Nat, 2 ^ n = c := ⟨_, rfl⟩
  have h64 : c ≤ 64 := by rw [← hc]; exact two_pow hn6
  have hw : wrap64 (2 ^ (x + y).toNat) = (c : Int) := by
    have e : (2 : Int) ^ (x + y).toNat = (c : Int) := by rw [hn, Int.toNat_natCast, ← hc]; simp
    rw [e]
    exact IntWalk.wrap64_in _ (by omega)
  have HPS : Hid (all (x + y).toNat = upto n c) := Lib.hid (by rw [hn, Int.toNat_natCast, ← hc]; rfl)
  have HN := Lib.hid hn
  have H64 := Lib.hid h64
  have HN6 := Lib.hid hn6
  obtain ⟨⟨s1, s2⟩, s3, s4⟩ := hs
  rw [HPS.out]
  clear hn h64 hn6 hc
  have P0 : Hid (pile.Pile w (w.alloc (.cells #[] 22)) w.heap.size (w.alloc (.cells #[] 22)).heap.size (.slice (some ⟨w.heap.size, 0, none⟩) 0 0) [] (upto n 0)) := Lib.hid (by
    refine pile.start (below_al (Below.refl _ _) _) (Nat.le_refl _) ?_ (by simp)
    have := World.ownsRow_made (base := w.heap.size) (e := 22) (size := 1) w #[] 0 (Nat.le_refl _) (Nat.zero_le _) rfl
    simpa using this)
  go_enter Try.func105, Try.ntmps105
  go_wp2_with fail
  go_loopw [5, 6, 7, 8] (fun v i z7 z8 wr => ∃ k : Nat, k ≤ c ∧ i = .int .i64 k ∧ (∃ z', z7 = z') ∧ (∃ z', z8 = z') ∧ ∃ vals, Hid (pile.Pile w wr w.heap.size wr.heap.size v vals (upto n k))) (fun _ i _ _ _ => c - (intOf i).toNat)
  case atStart => exact ⟨0, Nat.zero_le _, rfl, ⟨_, rfl⟩, ⟨_, rfl⟩, _, P0⟩
  case round =>
    obtain ⟨k, hk, rfl, ⟨z7, rfl⟩, ⟨z8, rfl⟩, vals, hP⟩ := hrel
    clear P0
    obtain ⟨wo, rfl⟩ : ∃ wo : World, wo = wr := ⟨_, rfl⟩
    by_cases hlt : k < c
    · have hkz : (k : Int) < (c : Int) := by omega
      have P1 := Lib.hid (hP.out.keep (below_al (Below.refl _ _) (.cells #[] 3)))
      have Q1 : Hid ((wo.alloc (.cells #[] 3)).ownsRow wo.heap.size 3 1 (.slice (some ⟨wo.heap.size, 0, none⟩) 0 0) 0 (i64s ((List.range 0).map (bit n k)))) := Lib.hid (by
        have := World.ownsRow_made (base := wo.heap.size) (e := 3) (size := 1) wo #[] 0 (Nat.le_refl _) (Nat.zero_le _) rfl
        simpa [i64s] using this)
      obtain ⟨m, hm⟩ : ∃ m, wo.heap.size = m := ⟨_, rfl⟩
      have P1' : Hid (pile.Pile w (wo.alloc (.cells #[] 3)) w.heap.size m _ vals (upto n k)) := Lib.hid (hm ▸ P1.out)
      have Q1' : Hid ((wo.alloc (.cells #[] 3)).ownsRow m 3 1 (.slice (some ⟨m, 0, none⟩) 0 0) 0 (i64s ((List.range 0).map (bit n k)))) := Lib.hid (by have := Q1.out; rw [hm] at this; exact this)
      go_wp2_with fail
      clear P1 Q1 hm hP hw
      go_loopw [7, 8] (fun q i wi => ∃ d : Nat, d ≤ n ∧ i = .int .i64 d ∧ Hid (wi.ownsRow m 3 1 q d (i64s ((List.range d).map (bit n k)))) ∧ Hid (pile.Pile w wi w.heap.size m u5 vals (upto n k))) (fun _ i _ => n - (intOf i).toNat)
      case atStart => exact ⟨0, Nat.zero_le _, rfl, Q1', P1'⟩
      case round =>
        clear P1' Q1'
        obtain ⟨d, hd, rfl, hQ, hP⟩ := hrel
        obtain ⟨wi, rfl⟩ : ∃ wi : World, wi = wr := ⟨_, rfl⟩
        by_cases hdl : d < n
        · have hdz : (d : Int) < x + y := by have := HN.out; omega
          have hmw := hP.out.le
          have h6 := HN6.out
          obtain ⟨r, hr⟩ : ∃ r, bit n k d = r := ⟨_, rfl⟩
          have hx : bits .and .i64 ((k : Int) / 2 ^ ((x + y).toNat - 1 - d)) 1 = r := by
            rw [HN.out, Int.toNat_natCast, ← hr]
            exact and_bit n k d (by have := H64.out; omega)
          have HR := Lib.hid hr
          clear hr
          go_wp2_with (at_builtin; refine wpList_append_own _ rfl (.tmp 26) (.tmp 36) 22 rfl m 3 i0 (.int .i64 0) 1 8 Try.underlying22 hi hz0 hz1 hz2 rfl (by decide) _ _ _ rfl (hQ.out.alloc _) ⟨wi.heap.size, 0, none⟩ 1 1 [.int .i64 r] rfl rfl ?c1 ?c2 ?c3 ?c4 ?c5 ?_)
          case c1 => exact app.one_at _ _ _
          case c2 => first | rfl | (intro u hu; simp at hu; subst hu; rfl)
          case c3 => unfold maxLen; omega
          case c4 => omega
          case c5 => first | omega | (simp; omega)
          intro v' w3 hown' hgrow _
          have P3 := Lib.hid ((hP.out.keep (below_al (Below.refl _ _) (.cells #[.int .i64 r] 3))).inner (hQ.out.alloc _) hgrow)
          have Q3 : Hid (w3.ownsRow m 3 1 v' (d + 1) (i64s ((List.range (d + 1)).map (bit n k)))) := Lib.hid (by rw [at_succ, ← app.i64s_snoc, HR.out]; exact hown')
          clear hown' hgrow hP hQ hx
          go_wp2_with fail
          go_roundw
          case rel => exact ⟨d + 1, by omega, by go_num, Q3, P3⟩
          case measure => simp [intOf]; omega
        · have hdz : ¬ (d : Int) < x + y := by have := HN.out; omega
          obtain rfl : d = n := by omega
          obtain ⟨qa, ql, qc, rfl⟩ := make.shape hQ.out
          have hla := len_at d k
          have U0 := Lib.hid ((app.ints_of_owns hQ.out).keep (below_al (Below.refl _ _) (.cells #[.slice qa ql qc] 22)))
          have T0 := Lib.hid (pile.typ_owns (hQ.out.alloc (.cells #[.slice qa ql qc] 22)))
          have P2 := Lib.hid (hP.out.keep (below_al (Below.refl _ _) (.cells #[.slice qa ql qc] 22)))
          have hsz := hP.out.below.size
          have hlu := Lib.hid (len_upto d k)
          have h64 := H64.out
          go_wp2_with (at_builtin; refine wpList_append_own _ rfl (.tmp 38) (.tmp 40) 23 rfl w.heap.size 22 s0 (.slice none 0 0) 1 24 Try.underlying23 si sz0 sz1 sz2 rfl (by decide) _ _ _ rfl P2.out.owns ⟨wi.heap.size, 0, none⟩ 1 1 [.slice qa ql qc] rfl rfl ?d1 ?d2 ?d3 ?d4 ?d5 ?_)
          try (case d1 => exact app.one_at _ _ _)
          case d2 => first | rfl | (intro u hu; simp at hu; subst hu; rfl)
          case d3 => rw [hlu.out]; unfold maxLen; omega
          case d4 => rw [hlu.out]; omega
          case d5 => first | omega | (simp; omega)
          intro v' w3 hown' hgrow _
          have P4 : Hid (pile.Pile w w3 w.heap.size w3.heap.size v' (vals ++ [.slice qa ql qc]) (upto d (k + 1))) := Lib.hid (by
            rw [upto_succ]
            exact P2.out.grow U0.out (Nat.le_refl _) (by simp) T0.out hown' hgrow)
          obtain ⟨xa, xl, xc, rfl⟩ := make.shape hown'
          clear hown' hgrow P2 U0 T0 hP hQ
          go_wp2_with fail
          go_roundw
          case rel => exact ⟨k + 1, by omega, by go_num, ⟨_, rfl⟩, ⟨_, rfl⟩, _, P4⟩
          case measure => simp [intOf]; omega
    · have hkz : ¬ (k : Int) < (c : Int) := by omega
      obtain rfl : k = c := by omega
      go_wp2_with fail
      go_ret
      exact ⟨_, rfl, hP.out.rows, hP.out.below⟩




end Go.Proofs.Ytneonebgneonkaa.plays
