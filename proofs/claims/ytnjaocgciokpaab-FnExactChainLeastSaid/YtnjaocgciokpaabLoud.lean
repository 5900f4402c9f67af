/- Which player of a Box is loud: l2Loud, IsQuiet, FirstLoud of the model; isLoud, FirstLoud, IsQuiet of the program. -/
import Derived.Test.YtnjaocgciokpaabRow
import Derived.Deep.RegionHeld3
namespace Go.Proofs.Ytnjaocgciokpaab.loud
open Go.RowKit Go.Deep Go.Proofs.Ytnjaocgciokpaab.base
open Go.Proofs.Ytnjaocgciokpaab.val (okBox okRow okSizes boxB boxB_yes boxB_no)
open Go.Proofs.Ytnjaocgciokpaab.ints (ret_int)
open Go.Proofs.Ytnjaocgciokpaab.rws (total)
open Go.Proofs.Ytnjaocgciokpaab.row (one at_ nn)

theorem at_cast (Y a c : Nat) : at_ (Y : Int) (a : Int) (c : Int) = a * Y + c := by
  unfold at_
  have : ((a : Int) * (Y : Int) + (c : Int)) = ((a * Y + c : Nat) : Int) := by simp
  rw [this, Int.toNat_natCast]
theorem at_zero (Y a : Nat) : at_ (Y : Int) (a : Int) 0 = a * Y := by have := at_cast Y a 0; simpa using this
theorem at_top (Y c : Nat) : at_ (Y : Int) 0 (c : Int) = c := by have := at_cast Y 0 c; simpa using this

def loud0 (xss : List (List Int)) (Y a : Nat) : Prop := ∃ c, c < Y ∧ one xss (a * Y + c) 0 ≠ one xss (a * Y) 0
def loud1 (xss : List (List Int)) (X Y c : Nat) : Prop := ∃ a, a < X ∧ one xss (a * Y + c) 1 ≠ one xss c 1
def First (xss : List (List Int)) (X Y : Nat) (p q : Nat) : Prop :=
  (p = 0 ∧ q < X ∧ loud0 xss Y q ∧ ∀ j, j < q → ¬ loud0 xss Y j) ∨ (p = 1 ∧ (∀ j, j < X → ¬ loud0 xss Y j) ∧ q < Y ∧ loud1 xss X Y q ∧ ∀ j, j < q → ¬ loud1 xss X Y j)
def Quiet (xss : List (List Int)) (X Y : Nat) : Prop := (∀ j, j < X → ¬ loud0 xss Y j) ∧ ∀ j, j < Y → ¬ loud1 xss X Y j
theorem first_one {xss : List (List Int)} {X Y p q p' q' : Nat} (h : First xss X Y p q) (h' : First xss X Y p' q') : p = p' ∧ q = q' := by
  rcases h with ⟨rfl, h1, h2, h3⟩ | ⟨rfl, h0, h1, h2, h3⟩ <;> rcases h' with ⟨rfl, g1, g2, g3⟩ | ⟨rfl, g0, g1, g2, g3⟩
  · refine ⟨rfl, ?_⟩
    rcases Nat.lt_trichotomy q q' with e | e | e
    · exact absurd h2 (g3 q e)
    · exact e
    · exact absurd g2 (h3 q' e)
  · exact absurd h2 (g0 q h1)
  · exact absurd g2 (h0 q' g1)
  · refine ⟨rfl, ?_⟩
    rcases Nat.lt_trichotomy q q' with e | e | e
    · exact absurd h2 (g3 q e)
    · exact e
    · exact absurd g2 (h3 q' e)
theorem first_not_quiet {xss : List (List Int)} {X Y p q : Nat} (h : First xss X Y p q) : ¬ Quiet xss X Y := by
  rintro ⟨h1, h2⟩
  rcases h with ⟨_, g1, g2, _⟩ | ⟨_, _, g1, g2, _⟩
  · exact h1 q g1 g2
  · exact h2 q g1 g2
open Classical in
/-- what FirstLoud answers: player, question, found -/
noncomputable def fl (x y wh : Int) (xss : List (List Int)) : Nat × Nat × Bool :=
  if okBox x y wh xss then (if h : ∃ pq : Nat × Nat, First xss x.toNat y.toNat pq.1 pq.2 then ((Classical.choose h).1, (Classical.choose h).2, true) else (0, 0, false)) else (0, 0, false)
theorem fl_no {x y wh : Int} {xss : List (List Int)} (h : ¬ okBox x y wh xss) : fl x y wh xss = (0, 0, false) := if_neg h
theorem fl_first {X Y p q : Nat} {wh : Int} {xss : List (List Int)} (h : okBox X Y wh xss) (hf : First xss X Y p q) : fl X Y wh xss = (p, q, true) := by
  unfold fl
  rw [if_pos h]
  have hf' : ∃ pq : Nat × Nat, First xss (X : Int).toNat (Y : Int).toNat pq.1 pq.2 := ⟨(p, q), hf⟩
  rw [dif_pos hf']
  have := first_one hf (Classical.choose_spec hf')
  rw [this.1, this.2]
theorem fl_quiet {X Y : Nat} {wh : Int} {xss : List (List Int)} (h : okBox X Y wh xss) (hq : Quiet xss X Y) : fl X Y wh xss = (0, 0, false) := by
  unfold fl
  rw [if_pos h, dif_neg]
  rintro ⟨pq, hf⟩
  exact first_not_quiet hf hq
open Classical in
noncomputable def quietB (x y wh : Int) (xss : List (List Int)) : Bool := if okBox x y wh xss ∧ Quiet xss x.toNat y.toNat then true else false
theorem quietB_yes {X Y : Nat} {wh : Int} {xss : List (List Int)} (h : okBox X Y wh xss) (hq : Quiet xss X Y) : quietB X Y wh xss = true := if_pos ⟨h, hq⟩
theorem quietB_no {x y wh : Int} {xss : List (List Int)} (h : ¬ okBox x y wh xss) : quietB x y wh xss = false := if_neg (fun h' => h h'.1)
theorem quietB_loud {X Y p q : Nat} {wh : Int} {xss : List (List Int)} (hf : First xss X Y p q) : quietB X Y wh xss = false := if_neg (fun h' => first_not_quiet hf h'.2)

/-! ### the program -/
theorem q0 (x y wh : Int) (v : Value) (xss : List (List Int)) (w : World) (h : IRows w v xss) : Calls Try.prog 179 #[.agg #[.int .i64 x, .int .i64 y, .int .i64 wh, v], .int .i64 0] w fun e w' => e = .returned (.int .i64 x) ∧ Below w.heap.size w w' := by
  obtain ⟨va, vn, vc, rfl⟩ := h.shape
  clear h
  go_enter Try.func179, Try.ntmps179
  go_wp2_with fail
  go_ret
  exact ⟨rfl, below_al (Below.refl _ _) _⟩
theorem q1 (x y wh : Int) (v : Value) (xss : List (List Int)) (w : World) (h : IRows w v xss) : Calls Try.prog 179 #[.agg #[.int .i64 x, .int .i64 y, .int .i64 wh, v], .int .i64 1] w fun e w' => e = .returned (.int .i64 y) ∧ Below w.heap.size w w' := by
  obtain ⟨va, vn, vc, rfl⟩ := h.shape
  clear h
  go_enter Try.func179, Try.ntmps179
  go_wp2_with fail
  go_ret
  exact ⟨rfl, below_al (Below.refl _ _) _⟩

set_option maxHeartbeats 1000000 in
theorem ac0 (X Y : Nat) (wh : Int) (q o : Nat) (v : Value) (xss : List (List Int)) (w : World) (h : IRows w v xss) (hok : okBox X Y wh xss) (hq : q < X) (ho : o < Y) :
    Calls Try.prog 181 #[.agg #[.int .i64 (X : Int), .int .i64 (Y : Int), .int .i64 wh, v], .int .i64 0, .int .i64 (q : Int), .int .i64 (o : Int)] w fun e w' => e = .returned (.int .i64 (one xss (q * Y + o) 0)) ∧ Below w.heap.size w w' := by
  obtain ⟨va, vn, vc, rfl⟩ := h.shape
  have hr := row.rowof X Y wh q o _ xss _ (h.below (below_al (Below.refl _ _) (.cells #[.int .i64 (X : Int), .int .i64 (Y : Int), .int .i64 wh, .slice va vn vc] 28))) hok (by omega) (by omega) (by omega) (by omega)
  have hlt := row.at_lt hok (i := (q : Int)) (j := (o : Int)) (by omega) (by omega) (by omega) (by omega)
  rw [at_cast] at hr hlt
  obtain ⟨b11, b12⟩ := row.nn_bd hok hlt (k := 1) (by omega)
  obtain ⟨b21, b22⟩ := row.nn_bd hok hlt (k := 2) (by omega)
  obtain ⟨b31, b32⟩ := row.nn_bd hok hlt (k := 3) (by omega)
  have HR := Lib.hid hr
  have HO : Hid (one xss (q * Y + o) 0 = nn xss (q * Y + o) 2 + nn xss (q * Y + o) 3) := Lib.hid rfl
  clear hr hlt hok h
  generalize nn xss (q * Y + o) 0 = n0 at *
  generalize nn xss (q * Y + o) 1 = n1 at *
  generalize nn xss (q * Y + o) 2 = n2 at *
  generalize nn xss (q * Y + o) 3 = n3 at *
  go_enter Try.func181, Try.ntmps181
  go_wp2_with fail
  refine HR.out.mono ?_
  rintro e w1 ⟨rfl, hb⟩
  have B1 := Lib.hid (below_tr (below_al (Below.refl _ _) _) hb)
  clear hb HR
  go_wp2_with fail
  refine (row.answering n0 n1 n2 n3 0 _ b11 b12 b21 b22 b31 b32).mono ?_
  rintro e w2 ⟨rfl, hb⟩
  have B2 := Lib.hid (below_tr B1.out hb)
  clear hb B1
  go_wp2_with fail
  go_ret
  exact ⟨ret_int (by rw [HO.out]), B2.out⟩

set_option maxHeartbeats 1000000 in
theorem ac1 (X Y : Nat) (wh : Int) (q o : Nat) (v : Value) (xss : List (List Int)) (w : World) (h : IRows w v xss) (hok : okBox X Y wh xss) (hq : q < Y) (ho : o < X) :
    Calls Try.prog 181 #[.agg #[.int .i64 (X : Int), .int .i64 (Y : Int), .int .i64 wh, v], .int .i64 1, .int .i64 (q : Int), .int .i64 (o : Int)] w fun e w' => e = .returned (.int .i64 (one xss (o * Y + q) 1)) ∧ Below w.heap.size w w' := by
  obtain ⟨va, vn, vc, rfl⟩ := h.shape
  have hr := row.rowof X Y wh o q _ xss _ (h.below (below_al (Below.refl _ _) (.cells #[.int .i64 (X : Int), .int .i64 (Y : Int), .int .i64 wh, .slice va vn vc] 28))) hok (by omega) (by omega) (by omega) (by omega)
  have hlt := row.at_lt hok (i := (o : Int)) (j := (q : Int)) (by omega) (by omega) (by omega) (by omega)
  rw [at_cast] at hr hlt
  obtain ⟨b11, b12⟩ := row.nn_bd hok hlt (k := 1) (by omega)
  obtain ⟨b21, b22⟩ := row.nn_bd hok hlt (k := 2) (by omega)
  obtain ⟨b31, b32⟩ := row.nn_bd hok hlt (k := 3) (by omega)
  have HR := Lib.hid hr
  have HO : Hid (one xss (o * Y + q) 1 = nn xss (o * Y + q) 1 + nn xss (o * Y + q) 3) := Lib.hid rfl
  clear hr hlt hok h
  generalize nn xss (o * Y + q) 0 = n0 at *
  generalize nn xss (o * Y + q) 1 = n1 at *
  generalize nn xss (o * Y + q) 2 = n2 at *
  generalize nn xss (o * Y + q) 3 = n3 at *
  go_enter Try.func181, Try.ntmps181
  go_wp2_with fail
  refine HR.out.mono ?_
  rintro e w1 ⟨rfl, hb⟩
  have B1 := Lib.hid (below_tr (below_al (Below.refl _ _) _) hb)
  clear hb HR
  go_wp2_with fail
  refine (row.answering n0 n1 n2 n3 1 _ b11 b12 b21 b22 b31 b32).mono ?_
  rintro e w2 ⟨rfl, hb⟩
  have B2 := Lib.hid (below_tr B1.out hb)
  clear hb B1
  go_wp2_with fail
  go_ret
  exact ⟨ret_int (by rw [HO.out]), B2.out⟩



set_option maxHeartbeats 2000000 in
theorem il0y (X Y : Nat) (wh : Int) (q : Nat) (v : Value) (xss : List (List Int)) (w : World) (h : IRows w v xss) (hok : okBox X Y wh xss) (hq : q < X) (hl : loud0 xss Y q) :
    Calls Try.prog 180 #[.agg #[.int .i64 (X : Int), .int .i64 (Y : Int), .int .i64 wh, v], .int .i64 0, .int .i64 (q : Int)] w fun e w' => e = .returned (.bool true) ∧ Below w.heap.size w w' := by
  obtain ⟨va, vn, vc, rfl⟩ := h.shape
  have hX := hok.1.1
  have hY := hok.1.2
  have H := Lib.hid h
  have HOK := Lib.hid hok
  have HL := Lib.hid hl
  have K0 := Lib.hid (Blk.new w 28 #[.int .i64 (X : Int), .int .i64 (Y : Int), .int .i64 wh, .slice va vn vc])
  have hc := (ac0 X Y wh q 0 _ xss _ (H.out.below (below_al (Below.refl _ _) (.cells #[.int .i64 (X : Int), .int .i64 (Y : Int), .int .i64 wh, .slice va vn vc] 28))) HOK.out hq (by omega))
  rw [Nat.add_zero] at hc
  have HC := Lib.hid hc
  clear h hok hl hc
  go_enter Try.func180, Try.ntmps180
  go_wp2_with fail
  refine HC.out.mono ?_
  rintro e w1 ⟨rfl, hb⟩
  have B1 := Lib.hid (below_tr (below_al (Below.refl _ _) _) hb)
  have K1 := Lib.hid (K0.out.below hb)
  obtain ⟨c0, c1, c2, c3, c4⟩ := four_cells K1.out
  clear hb HC K0
  go_wp2_with fail
  refine (q1 X Y wh _ xss _ (H.out.below B1.out)).mono ?_
  rintro e w2 ⟨rfl, hb⟩
  have B2 := Lib.hid (below_tr B1.out hb)
  have K2 := Lib.hid (K1.out.below hb)
  clear hb c0 c1 c2 c3 c4 B1 K1
  go_wp2_with fail
  go_loopw [17] (fun i wr => ∃ k : Nat, k ≤ Y ∧ i = .int .i64 k ∧ Hid (∀ j, j < k → one xss (q * Y + j) 0 = one xss (q * Y) 0) ∧ Hid (Below w.heap.size w wr) ∧ Hid (Blk wr w.heap.size 28 #[.int .i64 (X : Int), .int .i64 (Y : Int), .int .i64 wh, .slice va vn vc])) (fun i _ => Y - (intOf i).toNat)
  case atStart => exact ⟨0, Nat.zero_le _, rfl, Lib.hid (fun j hj => by omega), B2, K2⟩
  case round =>
    obtain ⟨k, hk, rfl, hS, hB, hK⟩ := hrel
    clear B2 K2
    obtain ⟨c0, c1, c2, c3, c4⟩ := four_cells hK.out
    by_cases hlt : k < Y
    · have hkz : (k : Int) < (Y : Int) := by omega
      have HA := Lib.hid (ac0 X Y wh q k _ xss _ (H.out.below hB.out) HOK.out hq hlt)
      by_cases he : one xss (q * Y + k) 0 = one xss (q * Y) 0
      · have t : (one xss (q * Y + k) 0 != one xss (q * Y) 0) = false := by simp [he]
        have HE := Lib.hid he
        clear he
        go_wp2_with fail
        refine HA.out.mono ?_
        rintro e w3 ⟨rfl, hb⟩
        have B3 := Lib.hid (below_tr hB.out hb)
        have K3 := Lib.hid (hK.out.below hb)
        clear hb hB hK HA c0 c1 c2 c3 c4
        go_wp2_with fail
        go_roundw
        case rel =>
          refine ⟨k + 1, by omega, by go_num, Lib.hid (fun j hj => ?_), B3, K3⟩
          by_cases e : j = k
          · subst e; exact HE.out
          · exact hS.out j (by omega)
        case measure => simp [intOf]; omega
      · have t : (one xss (q * Y + k) 0 != one xss (q * Y) 0) = true := by simp [he]
        have HE := Lib.hid he
        clear he
        go_wp2_with fail
        refine HA.out.mono ?_
        rintro e w3 ⟨rfl, hb⟩
        have B3 := Lib.hid (below_tr hB.out hb)
        clear hb hB hK HA c0 c1 c2 c3 c4
        go_wp2_with fail
        go_ret
        exact ⟨rfl, B3.out⟩
    · have hkz : ¬ (k : Int) < (Y : Int) := by omega
      exfalso
      obtain ⟨j, hj, hne⟩ := HL.out
      exact hne (hS.out j (by omega))



set_option maxHeartbeats 2000000 in
theorem il0n (X Y : Nat) (wh : Int) (q : Nat) (v : Value) (xss : List (List Int)) (w : World) (h : IRows w v xss) (hok : okBox X Y wh xss) (hq : q < X) (hl : ¬ loud0 xss Y q) :
    Calls Try.prog 180 #[.agg #[.int .i64 (X : Int), .int .i64 (Y : Int), .int .i64 wh, v], .int .i64 0, .int .i64 (q : Int)] w fun e w' => e = .returned (.bool false) ∧ Below w.heap.size w w' := by
  obtain ⟨va, vn, vc, rfl⟩ := h.shape
  have hX := hok.1.1
  have hY := hok.1.2
  have H := Lib.hid h
  have HOK := Lib.hid hok
  have HL := Lib.hid hl
  have K0 := Lib.hid (Blk.new w 28 #[.int .i64 (X : Int), .int .i64 (Y : Int), .int .i64 wh, .slice va vn vc])
  have hc := (ac0 X Y wh q 0 _ xss _ (H.out.below (below_al (Below.refl _ _) (.cells #[.int .i64 (X : Int), .int .i64 (Y : Int), .int .i64 wh, .slice va vn vc] 28))) HOK.out hq (by omega))
  rw [Nat.add_zero] at hc
  have HC := Lib.hid hc
  clear h hok hl hc
  go_enter Try.func180, Try.ntmps180
  go_wp2_with fail
  refine HC.out.mono ?_
  rintro e w1 ⟨rfl, hb⟩
  have B1 := Lib.hid (below_tr (below_al (Below.refl _ _) _) hb)
  have K1 := Lib.hid (K0.out.below hb)
  obtain ⟨c0, c1, c2, c3, c4⟩ := four_cells K1.out
  clear hb HC K0
  go_wp2_with fail
  refine (q1 X Y wh _ xss _ (H.out.below B1.out)).mono ?_
  rintro e w2 ⟨rfl, hb⟩
  have B2 := Lib.hid (below_tr B1.out hb)
  have K2 := Lib.hid (K1.out.below hb)
  clear hb c0 c1 c2 c3 c4 B1 K1
  go_wp2_with fail
  go_loopw [17] (fun i wr => ∃ k : Nat, k ≤ Y ∧ i = .int .i64 k ∧ Hid (∀ j, j < k → one xss (q * Y + j) 0 = one xss (q * Y) 0) ∧ Hid (Below w.heap.size w wr) ∧ Hid (Blk wr w.heap.size 28 #[.int .i64 (X : Int), .int .i64 (Y : Int), .int .i64 wh, .slice va vn vc])) (fun i _ => Y - (intOf i).toNat)
  case atStart => exact ⟨0, Nat.zero_le _, rfl, Lib.hid (fun j hj => by omega), B2, K2⟩
  case round =>
    obtain ⟨k, hk, rfl, hS, hB, hK⟩ := hrel
    clear B2 K2
    obtain ⟨c0, c1, c2, c3, c4⟩ := four_cells hK.out
    by_cases hlt : k < Y
    · have hkz : (k : Int) < (Y : Int) := by omega
      have HA := Lib.hid (ac0 X Y wh q k _ xss _ (H.out.below hB.out) HOK.out hq hlt)
      by_cases he : one xss (q * Y + k) 0 = one xss (q * Y) 0
      · have t : (one xss (q * Y + k) 0 != one xss (q * Y) 0) = false := by simp [he]
        have HE := Lib.hid he
        clear he
        go_wp2_with fail
        refine HA.out.mono ?_
        rintro e w3 ⟨rfl, hb⟩
        have B3 := Lib.hid (below_tr hB.out hb)
        have K3 := Lib.hid (hK.out.below hb)
        clear hb hB hK HA c0 c1 c2 c3 c4
        go_wp2_with fail
        go_roundw
        case rel =>
          refine ⟨k + 1, by omega, by go_num, Lib.hid (fun j hj => ?_), B3, K3⟩
          by_cases e : j = k
          · subst e; exact HE.out
          · exact hS.out j (by omega)
        case measure => simp [intOf]; omega
      · have t : (one xss (q * Y + k) 0 != one xss (q * Y) 0) = true := by simp [he]
        have HE := Lib.hid he
        clear he
        exact absurd ⟨k, hlt, HE.out⟩ HL.out
    · have hkz : ¬ (k : Int) < (Y : Int) := by omega
      go_wp2_with fail
      go_ret
      exact ⟨rfl, hB.out⟩



set_option maxHeartbeats 2000000 in
theorem il1y (X Y : Nat) (wh : Int) (q : Nat) (v : Value) (xss : List (List Int)) (w : World) (h : IRows w v xss) (hok : okBox X Y wh xss) (hq : q < Y) (hl : loud1 xss X Y q) :
    Calls Try.prog 180 #[.agg #[.int .i64 (X : Int), .int .i64 (Y : Int), .int .i64 wh, v], .int .i64 1, .int .i64 (q : Int)] w fun e w' => e = .returned (.bool true) ∧ Below w.heap.size w w' := by
  obtain ⟨va, vn, vc, rfl⟩ := h.shape
  have hX := hok.1.1
  have hY := hok.1.2
  have H := Lib.hid h
  have HOK := Lib.hid hok
  have HL := Lib.hid hl
  have K0 := Lib.hid (Blk.new w 28 #[.int .i64 (X : Int), .int .i64 (Y : Int), .int .i64 wh, .slice va vn vc])
  have hc := (ac1 X Y wh q 0 _ xss _ (H.out.below (below_al (Below.refl _ _) (.cells #[.int .i64 (X : Int), .int .i64 (Y : Int), .int .i64 wh, .slice va vn vc] 28))) HOK.out hq (by omega))
  rw [Nat.zero_mul, Nat.zero_add] at hc
  have HC := Lib.hid hc
  clear h hok hl hc
  go_enter Try.func180, Try.ntmps180
  go_wp2_with fail
  refine HC.out.mono ?_
  rintro e w1 ⟨rfl, hb⟩
  have B1 := Lib.hid (below_tr (below_al (Below.refl _ _) _) hb)
  have K1 := Lib.hid (K0.out.below hb)
  obtain ⟨c0, c1, c2, c3, c4⟩ := four_cells K1.out
  clear hb HC K0
  go_wp2_with fail
  refine (q0 X Y wh _ xss _ (H.out.below B1.out)).mono ?_
  rintro e w2 ⟨rfl, hb⟩
  have B2 := Lib.hid (below_tr B1.out hb)
  have K2 := Lib.hid (K1.out.below hb)
  clear hb c0 c1 c2 c3 c4 B1 K1
  go_wp2_with fail
  go_loopw [17] (fun i wr => ∃ k : Nat, k ≤ X ∧ i = .int .i64 k ∧ Hid (∀ j, j < k → one xss (j * Y + q) 1 = one xss q 1) ∧ Hid (Below w.heap.size w wr) ∧ Hid (Blk wr w.heap.size 28 #[.int .i64 (X : Int), .int .i64 (Y : Int), .int .i64 wh, .slice va vn vc])) (fun i _ => X - (intOf i).toNat)
  case atStart => exact ⟨0, Nat.zero_le _, rfl, Lib.hid (fun j hj => by omega), B2, K2⟩
  case round =>
    obtain ⟨k, hk, rfl, hS, hB, hK⟩ := hrel
    clear B2 K2
    obtain ⟨c0, c1, c2, c3, c4⟩ := four_cells hK.out
    by_cases hlt : k < X
    · have hkz : (k : Int) < (X : Int) := by omega
      have HA := Lib.hid (ac1 X Y wh q k _ xss _ (H.out.below hB.out) HOK.out hq hlt)
      by_cases he : one xss (k * Y + q) 1 = one xss q 1
      · have t : (one xss (k * Y + q) 1 != one xss q 1) = false := by simp [he]
        have HE := Lib.hid he
        clear he
        go_wp2_with fail
        refine HA.out.mono ?_
        rintro e w3 ⟨rfl, hb⟩
        have B3 := Lib.hid (below_tr hB.out hb)
        have K3 := Lib.hid (hK.out.below hb)
        clear hb hB hK HA c0 c1 c2 c3 c4
        go_wp2_with fail
        go_roundw
        case rel =>
          refine ⟨k + 1, by omega, by go_num, Lib.hid (fun j hj => ?_), B3, K3⟩
          by_cases e : j = k
          · subst e; exact HE.out
          · exact hS.out j (by omega)
        case measure => simp [intOf]; omega
      · have t : (one xss (k * Y + q) 1 != one xss q 1) = true := by simp [he]
        have HE := Lib.hid he
        clear he
        go_wp2_with fail
        refine HA.out.mono ?_
        rintro e w3 ⟨rfl, hb⟩
        have B3 := Lib.hid (below_tr hB.out hb)
        clear hb hB hK HA c0 c1 c2 c3 c4
        go_wp2_with fail
        go_ret
        exact ⟨rfl, B3.out⟩
    · have hkz : ¬ (k : Int) < (X : Int) := by omega
      exfalso
      obtain ⟨j, hj, hne⟩ := HL.out
      exact hne (hS.out j (by omega))



set_option maxHeartbeats 2000000 in
theorem il1n (X Y : Nat) (wh : Int) (q : Nat) (v : Value) (xss : List (List Int)) (w : World) (h : IRows w v xss) (hok : okBox X Y wh xss) (hq : q < Y) (hl : ¬ loud1 xss X Y q) :
    Calls Try.prog 180 #[.agg #[.int .i64 (X : Int), .int .i64 (Y : Int), .int .i64 wh, v], .int .i64 1, .int .i64 (q : Int)] w fun e w' => e = .returned (.bool false) ∧ Below w.heap.size w w' := by
  obtain ⟨va, vn, vc, rfl⟩ := h.shape
  have hX := hok.1.1
  have hY := hok.1.2
  have H := Lib.hid h
  have HOK := Lib.hid hok
  have HL := Lib.hid hl
  have K0 := Lib.hid (Blk.new w 28 #[.int .i64 (X : Int), .int .i64 (Y : Int), .int .i64 wh, .slice va vn vc])
  have hc := (ac1 X Y wh q 0 _ xss _ (H.out.below (below_al (Below.refl _ _) (.cells #[.int .i64 (X : Int), .int .i64 (Y : Int), .int .i64 wh, .slice va vn vc] 28))) HOK.out hq (by omega))
  rw [Nat.zero_mul, Nat.zero_add] at hc
  have HC := Lib.hid hc
  clear h hok hl hc
  go_enter Try.func180, Try.ntmps180
  go_wp2_with fail
  refine HC.out.mono ?_
  rintro e w1 ⟨rfl, hb⟩
  have B1 := Lib.hid (below_tr (below_al (Below.refl _ _) _) hb)
  have K1 := Lib.hid (K0.out.below hb)
  obtain ⟨c0, c1, c2, c3, c4⟩ := four_cells K1.out
  clear hb HC K0
  go_wp2_with fail
  refine (q0 X Y wh _ xss _ (H.out.below B1.out)).mono ?_
  rintro e w2 ⟨rfl, hb⟩
  have B2 := Lib.hid (below_tr B1.out hb)
  have K2 := Lib.hid (K1.out.below hb)
  clear hb c0 c1 c2 c3 c4 B1 K1
  go_wp2_with fail
  go_loopw [17] (fun i wr => ∃ k : Nat, k ≤ X ∧ i = .int .i64 k ∧ Hid (∀ j, j < k → one xss (j * Y + q) 1 = one xss q 1) ∧ Hid (Below w.heap.size w wr) ∧ Hid (Blk wr w.heap.size 28 #[.int .i64 (X : Int), .int .i64 (Y : Int), .int .i64 wh, .slice va vn vc])) (fun i _ => X - (intOf i).toNat)
  case atStart => exact ⟨0, Nat.zero_le _, rfl, Lib.hid (fun j hj => by omega), B2, K2⟩
  case round =>
    obtain ⟨k, hk, rfl, hS, hB, hK⟩ := hrel
    clear B2 K2
    obtain ⟨c0, c1, c2, c3, c4⟩ := four_cells hK.out
    by_cases hlt : k < X
    · have hkz : (k : Int) < (X : Int) := by omega
      have HA := Lib.hid (ac1 X Y wh q k _ xss _ (H.out.below hB.out) HOK.out hq hlt)
      by_cases he : one xss (k * Y + q) 1 = one xss q 1
      · have t : (one xss (k * Y + q) 1 != one xss q 1) = false := by simp [he]
        have HE := Lib.hid he
        clear he
        go_wp2_with fail
        refine HA.out.mono ?_
        rintro e w3 ⟨rfl, hb⟩
        have B3 := Lib.hid (below_tr hB.out hb)
        have K3 := Lib.hid (hK.out.below hb)
        clear hb hB hK HA c0 c1 c2 c3 c4
        go_wp2_with fail
        go_roundw
        case rel =>
          refine ⟨k + 1, by omega, by go_num, Lib.hid (fun j hj => ?_), B3, K3⟩
          by_cases e : j = k
          · subst e; exact HE.out
          · exact hS.out j (by omega)
        case measure => simp [intOf]; omega
      · have t : (one xss (k * Y + q) 1 != one xss q 1) = true := by simp [he]
        have HE := Lib.hid he
        clear he
        exact absurd ⟨k, hlt, HE.out⟩ HL.out
    · have hkz : ¬ (k : Int) < (X : Int) := by omega
      go_wp2_with fail
      go_ret
      exact ⟨rfl, hB.out⟩



set_option maxHeartbeats 4000000 in
theorem impl_first (x y wh : Int) (v : Value) (xss : List (List Int)) (w : World) (h : IRows w v xss) (hn : total xss ≤ 1048576) :
    Calls Try.prog 177 #[.agg #[.int .i64 x, .int .i64 y, .int .i64 wh, v]] w fun e w' => e = .returned (.tuple #[.int .i64 ((fl x y wh xss).1 : Int), .int .i64 ((fl x y wh xss).2.1 : Int), .bool (fl x y wh xss).2.2]) ∧ Below w.heap.size w w' := by
  obtain ⟨va, vn, vc, rfl⟩ := h.shape
  have H := Lib.hid h
  clear h
  by_cases hok : okBox x y wh xss
  · obtain ⟨X, rfl⟩ : ∃ X : Nat, x = X := ⟨x.toNat, by have := hok.1.1.1; omega⟩
    obtain ⟨Y, rfl⟩ : ∃ Y : Nat, y = Y := ⟨y.toNat, by have := hok.1.2.1; omega⟩
    have K0 := Lib.hid (Blk.new w 28 #[.int .i64 (X : Int), .int .i64 (Y : Int), .int .i64 wh, .slice va vn vc])
    have hr := val.impl_any X Y wh _ xss _ (H.out.below (below_al (Below.refl _ _) (.cells #[.int .i64 (X : Int), .int .i64 (Y : Int), .int .i64 wh, .slice va vn vc] 28))) hn
    rw [boxB_yes hok] at hr
    have hX := hok.1.1
    have hY := hok.1.2
    have HR := Lib.hid hr
    have HOK := Lib.hid hok
    clear hok hr
    go_enter Try.func177, Try.ntmps177
    go_wp2_with fail
    refine HR.out.mono ?_
    rintro e w1 ⟨rfl, hb⟩
    have B1 := Lib.hid (below_tr (below_al (Below.refl _ _) _) hb)
    have K1 := Lib.hid (K0.out.below hb)
    clear hb HR K0
    go_wp2_with fail
    go_loopw [10] (fun i wr => ∃ k : Nat, k ≤ 2 ∧ i = .int .i64 k ∧ Hid ((1 ≤ k → ∀ j, j < X → ¬ loud0 xss Y j) ∧ (2 ≤ k → ∀ j, j < Y → ¬ loud1 xss X Y j)) ∧ Hid (Below w.heap.size w wr) ∧ Hid (Blk wr w.heap.size 28 #[.int .i64 (X : Int), .int .i64 (Y : Int), .int .i64 wh, .slice va vn vc])) (fun i _ => 2 - (intOf i).toNat)
    case atStart => exact ⟨0, by omega, rfl, Lib.hid ⟨fun h => by omega, fun h => by omega⟩, B1, K1⟩
    case round =>
      obtain ⟨k, hk, rfl, hS, hB, hK⟩ := hrel
      clear B1 K1
      obtain ⟨wo, rfl⟩ : ∃ wo : World, wo = wr := ⟨_, rfl⟩
      obtain ⟨c0, c1, c2, c3, c4⟩ := four_cells hK.out
      have hk3 : k = 0 ∨ k = 1 ∨ k = 2 := by omega
      rcases hk3 with rfl | rfl | rfl
      · go_wp2_with fail
        refine (q0 X Y wh _ xss _ (H.out.below hB.out)).mono ?_
        rintro e w2 ⟨rfl, hb⟩
        have B2 := Lib.hid (below_tr hB.out hb)
        have K2 := Lib.hid (hK.out.below hb)
        clear hb hB hK c0 c1 c2 c3 c4
        go_wp2_with fail
        go_loopw [16] (fun j wi => ∃ c : Nat, c ≤ X ∧ j = .int .i64 c ∧ Hid (∀ j, j < c → ¬ loud0 xss Y j) ∧ Hid (Below w.heap.size w wi) ∧ Hid (Blk wi w.heap.size 28 #[.int .i64 (X : Int), .int .i64 (Y : Int), .int .i64 wh, .slice va vn vc])) (fun j _ => X - (intOf j).toNat)
        case atStart => exact ⟨0, Nat.zero_le _, rfl, Lib.hid (fun j hj => by omega), B2, K2⟩
        case round =>
          obtain ⟨c, hc, rfl, hT, hB, hK⟩ := hrel
          clear B2 K2
          obtain ⟨c0, c1, c2, c3, c4⟩ := four_cells hK.out
          by_cases hlt : c < X
          · have hkc : (c : Int) < (X : Int) := by omega
            by_cases he : loud0 xss Y c
            · have HA := Lib.hid (il0y X Y wh c _ xss _ (H.out.below hB.out) HOK.out hlt he)
              have HE := Lib.hid he
              have HF := Lib.hid (fl_first HOK.out (Or.inl ⟨rfl, hlt, HE.out, hT.out⟩))
              clear he
              go_wp2_with fail
              refine HA.out.mono ?_
              rintro e w3 ⟨rfl, hb⟩
              have B3 := Lib.hid (below_tr hB.out hb)
              clear hb hB hK HA c0 c1 c2 c3 c4
              go_wp2_with fail
              go_ret3
              exact ⟨by rw [HF.out]; rfl, B3.out⟩
            · have HA := Lib.hid (il0n X Y wh c _ xss _ (H.out.below hB.out) HOK.out hlt he)
              have HE := Lib.hid he
              clear he
              go_wp2_with fail
              refine HA.out.mono ?_
              rintro e w3 ⟨rfl, hb⟩
              have B3 := Lib.hid (below_tr hB.out hb)
              have K3 := Lib.hid (hK.out.below hb)
              clear hb hB hK HA c0 c1 c2 c3 c4
              go_wp2_with fail
              go_roundw
              case rel =>
                refine ⟨c + 1, by omega, by go_num, Lib.hid (fun j hj => ?_), B3, K3⟩
                by_cases e : j = c
                · subst e; exact HE.out
                · exact hT.out j (by omega)
              case measure => simp [intOf]; omega
          · have hkc : ¬ (c : Int) < (X : Int) := by omega
            have hd : ∀ j, j < X → ¬ loud0 xss Y j := fun j hj => hT.out j (by omega)
            have HD : Hid ((1 ≤ 1 → ∀ j, j < X → ¬ loud0 xss Y j) ∧ (2 ≤ 1 → ∀ j, j < Y → ¬ loud1 xss X Y j)) := Lib.hid ⟨fun _ => hd, fun h => by omega⟩
            clear hd
            go_wp2_with fail
            go_roundw
            case rel => exact ⟨1, by omega, rfl, HD, hB, hK⟩
            case measure => simp [intOf]
      · go_wp2_with fail
        refine (q1 X Y wh _ xss _ (H.out.below hB.out)).mono ?_
        rintro e w2 ⟨rfl, hb⟩
        have B2 := Lib.hid (below_tr hB.out hb)
        have K2 := Lib.hid (hK.out.below hb)
        clear hb hB hK c0 c1 c2 c3 c4
        go_wp2_with fail
        go_loopw [16] (fun j wi => ∃ c : Nat, c ≤ Y ∧ j = .int .i64 c ∧ Hid (∀ j, j < c → ¬ loud1 xss X Y j) ∧ Hid (Below w.heap.size w wi) ∧ Hid (Blk wi w.heap.size 28 #[.int .i64 (X : Int), .int .i64 (Y : Int), .int .i64 wh, .slice va vn vc])) (fun j _ => Y - (intOf j).toNat)
        case atStart => exact ⟨0, Nat.zero_le _, rfl, Lib.hid (fun j hj => by omega), B2, K2⟩
        case round =>
          obtain ⟨c, hc, rfl, hT, hB, hK⟩ := hrel
          clear B2 K2
          obtain ⟨c0, c1, c2, c3, c4⟩ := four_cells hK.out
          by_cases hlt : c < Y
          · have hkc : (c : Int) < (Y : Int) := by omega
            by_cases he : loud1 xss X Y c
            · have HA := Lib.hid (il1y X Y wh c _ xss _ (H.out.below hB.out) HOK.out hlt he)
              have HE := Lib.hid he
              have HF := Lib.hid (fl_first HOK.out (Or.inr ⟨rfl, hS.out.1 (by omega), hlt, HE.out, hT.out⟩))
              clear he
              go_wp2_with fail
              refine HA.out.mono ?_
              rintro e w3 ⟨rfl, hb⟩
              have B3 := Lib.hid (below_tr hB.out hb)
              clear hb hB hK HA c0 c1 c2 c3 c4
              go_wp2_with fail
              go_ret3
              exact ⟨by rw [HF.out]; rfl, B3.out⟩
            · have HA := Lib.hid (il1n X Y wh c _ xss _ (H.out.below hB.out) HOK.out hlt he)
              have HE := Lib.hid he
              clear he
              go_wp2_with fail
              refine HA.out.mono ?_
              rintro e w3 ⟨rfl, hb⟩
              have B3 := Lib.hid (below_tr hB.out hb)
              have K3 := Lib.hid (hK.out.below hb)
              clear hb hB hK HA c0 c1 c2 c3 c4
              go_wp2_with fail
              go_roundw
              case rel =>
                refine ⟨c + 1, by omega, by go_num, Lib.hid (fun j hj => ?_), B3, K3⟩
                by_cases e : j = c
                · subst e; exact HE.out
                · exact hT.out j (by omega)
              case measure => simp [intOf]; omega
          · have hkc : ¬ (c : Int) < (Y : Int) := by omega
            have hd : ∀ j, j < Y → ¬ loud1 xss X Y j := fun j hj => hT.out j (by omega)
            have HD : Hid ((1 ≤ 2 → ∀ j, j < X → ¬ loud0 xss Y j) ∧ (2 ≤ 2 → ∀ j, j < Y → ¬ loud1 xss X Y j)) := Lib.hid ⟨fun _ => hS.out.1 (by omega), fun _ => hd⟩
            clear hd
            go_wp2_with fail
            go_roundw
            case rel => exact ⟨2, by omega, rfl, HD, hB, hK⟩
            case measure => simp [intOf]
      · have HF := Lib.hid (fl_quiet HOK.out (⟨hS.out.1 (by omega), hS.out.2 (by omega)⟩))
        go_wp2_with fail
        go_ret3
        exact ⟨by rw [HF.out]; rfl, hB.out⟩
  · have hr := val.impl_any x y wh _ xss _ (H.out.below (below_al (Below.refl _ _) (.cells #[.int .i64 x, .int .i64 y, .int .i64 wh, .slice va vn vc] 28))) hn
    rw [boxB_no hok] at hr
    rw [fl_no hok]
    have HR := Lib.hid hr
    clear hok hr
    go_enter Try.func177, Try.ntmps177
    go_wp2_with fail
    refine HR.out.mono ?_
    rintro e w1 ⟨rfl, hb⟩
    have B1 := Lib.hid (below_tr (below_al (Below.refl _ _) _) hb)
    clear hb HR
    go_wp2_with fail
    go_ret3
    exact ⟨rfl, B1.out⟩


end Go.Proofs.Ytnjaocgciokpaab.loud
