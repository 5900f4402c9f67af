/- Which player of a Box is loud: l2Loud, IsQuiet, FirstLoud of the model; isLoud, FirstLoud, IsQuiet of the program. -/
import Derived.Test.YtkajebhagkbcaaaRow
import Derived.Deep.RegionHeld3
namespace Go.Proofs.Ytkajebhagkbcaaa.loud
open Go.RowKit Go.Deep Go.Proofs.Ytkajebhagkbcaaa.base
open Go.Proofs.Ytkajebhagkbcaaa.val (okBox okRow okSizes boxB boxB_yes boxB_no)
open Go.Proofs.Ytkajebhagkbcaaa.ints (ret_int)
open Go.Proofs.Ytkajebhagkbcaaa.rws (total)
open Go.Proofs.Ytkajebhagkbcaaa.row (one at_ nn)

theorem at_cast (Y a c : Nat) : at_ (Y : Int) (a : Int) (c : Int) = a * Y + c := by
  unfold at_
  have : ((a : Int) * (Y : Int) + (c : Int)) = ((a * Y + c : Nat) : Int) := by simp
  rw [this, Int.toNat_natCast]
theorem at_zero (Y a : Nat) : at_ (Y : Int) (a : Int) 0 = a * Y := by have := at_cast Y a 0; simpa using this
theorem at_top (Y c : Nat) : at_ (Y : Int) 0 (c : Int) = c := by have := at_cast Y 0 c; simpa using this

def loud0 (xss : List (List Int)) (Y a : Nat) : Prop := ∃ c, c < Y ∧ one xss (a * Y + c) 0 ≠ one xss (a * Y) 0
def loud1 (xss : List (List Int)) (X Y c : Nat) : Prop := ∃ a, a < X ∧ one xss (a * Y + c) 1 ≠ one xss c 1
def First (xss : List (List Int)) (X Y : Nat) (p q : Nat) : Prop :=
  (p = 0 ∧ q < X ∧ loud0 xss Y q ∧ ∀ j, j < q → ¬ loud0 xss Y j) ∨ (p = 1 ∧ (∀ j, j < X → ¬ loud0 xss Y j) ∧ q < Y ∧ loud1 xss X Y q ∧ ∀ j, j < q → ¬ loud1 xss X Y j)
def Quiet (xss : List (List Int)) (X Y : Nat) : Prop := (∀ j, j < X → ¬ loud0 xss Y j) ∧ ∀ j, j < Y → ¬ loud1 xss X Y j
theorem first_one {xss : List (List Int)} {X Y p q p' q' : Nat} (h : First xss X Y p q) (h' : First xss X Y p' q') : p = p' ∧ q = q' := by
  rcases h with ⟨rfl, h1, h2, h3⟩ | ⟨rfl, h0, h1, h2, h3⟩ <;> rcases h' with ⟨rfl, g1, g2, g3⟩ | ⟨rfl, g0, g1, g2, g3⟩
  · refine ⟨rfl, ?_⟩
    rcases Nat.lt_trichotomy q q' with e | e | e
    · exact absurd h2 (g3 q e)
    · exact e
    · exact absurd g2 (h3 q' e)
  · exact absurd h2 (g0 q h1)
  · exact absurd g2 (h0 q' g1)
  · refine ⟨rfl, ?_⟩
    rcases Nat.lt_trichotomy q q' with e | e | e
    · exact absurd h2 (g3 q e)
    · exact e
    · exact absurd g2 (h3 q' e)
theorem first_not_quiet {xss : List (List Int)} {X Y p q : Nat} (h : First xss X Y p q) : ¬ Quiet xss X Y := by
  rintro ⟨h1, h2⟩
  rcases h with ⟨_, g1, g2, _⟩ | ⟨_, _, g1, g2, _⟩
  · exact h1 q g1 g2
  · exact h2 q g1 g2
open Classical in
/-- what FirstLoud answers: player, question, found -/
noncomputable def fl (x y wh : Int) (xss : List (List Int)) : Nat × Nat × Bool :=
  if okBox x y wh xss then (if h : ∃ pq : Nat × Nat, First xss x.toNat y.toNat pq.1 pq.2 then ((Classical.choose h).1, (Classical.choose h).2, true) else (0, 0, false)) else (0, 0, false)
theorem fl_no {x y wh : Int} {xss : List (List Int)} (h : ¬ okBox x y wh xss) : fl x y wh xss = (0, 0, false) := if_neg h
theorem fl_first {X Y p q : Nat} {wh : Int} {xss : List (List Int)} (h : okBox X Y wh xss) (hf : First xss X Y p q) : fl X Y wh xss = (p, q, true) := by
  unfold fl
  rw [if_pos h]
  have hf' : ∃ pq : Nat × Nat, First xss (X : Int).toNat (Y : Int).toNat pq.1 pq.2 := ⟨(p, q), hf⟩
  rw [dif_pos hf']
  have := first_one hf (Classical.choose_spec hf')
  rw [this.1, this.2]
theorem fl_quiet {X Y : Nat} {wh : Int} {xss : List (List Int)} (h : okBox X Y wh xss) (hq : Quiet xss X Y) : fl X Y wh xss = (0, 0, false) := by
  unfold fl
  rw [if_pos h, dif_neg]
  rintro ⟨pq, hf⟩
  exact first_not_quiet hf hq
open Classical in
noncomputable def quietB (x y wh : Int) (xss : List (List Int)) : Bool := if okBox x y wh xss ∧ Quiet xss x.toNat y.toNat then true else false
theorem quietB_yes {X Y : Nat} {wh : Int} {xss : List (List Int)} (h : okBox X Y wh xss) (hq : Quiet xss X Y) : quietB X Y wh xss = true := if_pos ⟨h, hq⟩
theorem quietB_no {x y wh : Int} {xss : List (List Int)} (h : ¬ okBox x y wh xss) : quietB x y wh xss = false := if_neg (fun h' => h h'.1)
theorem quietB_loud {X Y p q : Nat} {wh : Int} {xss : List (List Int)} (hf : First xss X Y p q) : quietB X Y wh xss = false := if_neg (fun h' => first_not_quiet hf h'.2)

/-! ### the program -/
theorem q0 (x y wh : Int) (v : Value) (xss : List (List Int)) (w : World) (h : IRows w v xss) : Calls Try.prog 110 #[.agg #[.int .i64 x, .int .i64 y, .int .i64 wh, v], .int .i64 0] w fun e w' => e = .returned (.int .i64 x) ∧ Below w.heap.size w w' := by
  obtain ⟨va, vn, vc, rfl⟩ := h.shape
  clear h
  go_enter Try.func110, Try.ntmps110
  go_wp2_with fail
  go_ret
  exact ⟨rfl, below_al (Below.refl _ _) _⟩
theorem q1 (x y wh : Int) (v : Value) (xss : List (List Int)) (w : World) (h : IRows w v xss) : Calls Try.prog 110 #[.agg #[.int .i64 x, .int .i64 y, .int .i64 wh, v], .int .i64 1] w fun e w' => e = .returned (.int .i64 y) ∧ Below w.heap.size w w' := by
  obtain ⟨va, vn, vc, rfl⟩ := h.shape
  clear h
  go_enter Try.func110, Try.ntmps110
  go_wp2_with fail
  go_ret
  exact ⟨rfl, below_al (Below.refl _ _) _⟩

set_option maxHeartbeats 1000000 in
theorem ac0 (X Y : Nat) (wh : Int) (q o : Nat) (v : Value) (xss : List (List Int)) (w : World) (h : IRows w v xss) (hok : okBox X Y wh xss) (hq : q < X) (ho : o < Y) :
    Calls Try.prog 111 #[.agg #[.int .i64 (X : Int), .int .i64 (Y : Int), .int .i64 wh, v], .int .i64 0, .int .i64 (q : Int), .int .i64 (o : Int)] w fun e w' => e = .returned (.int .i64 (one xss (q * Y + o) 0)) ∧ Below w.heap.size w w' := by
  obtain ⟨va, vn, vc, rfl⟩ := h.shape
  have hr := row.rowof X Y wh q o _ xss _ (h.below (below_al (Below.refl _ _) (.cells #[.int .i64 (X : Int), .int .i64 (Y : Int), .int .i64 wh, .slice va vn vc] 24))) hok (by omega) (by omega) (by omega) (by omega)
  have hlt := row.at_lt hok (i := (q : Int)) (j := (o : Int)) (by omega) (by omega) (by omega) (by omega)
  rw [at_cast] at hr hlt
  obtain ⟨b11, b12⟩ := row.nn_bd hok hlt (k := 1) (by omega)
  obtain ⟨b21, b22⟩ := row.nn_bd hok hlt (k := 2) (by omega)
  obtain ⟨b31, b32⟩ := row.nn_bd hok hlt (k := 3) (by omega)
  have HR := Lib.hid hr
  have HO : Hid (one xss (q * Y + o) 0 = nn xss (q * Y + o) 2 + nn xss (q * Y + o) 3) := Lib.hid rfl
  clear hr hlt hok h
  generalize nn xss (q * Y + o) 0 = n0 at *
  generalize nn xss (q * Y + o) 1 = n1 at *
  generalize nn xss (q * Y + o) 2 = n2 at *
  generalize nn xss (q * Y + o) 3 = n3 at *
  go_enter Try.func111, Try.ntmps111
  go_wp2_with fail
  refine HR.out.mono ?_
  rintro e w1 ⟨rfl, hb⟩
  have B1 := Lib.hid (below_tr (below_al (Below.refl _ _) _) hb)
  clear hb HR
  go_wp2_with fail
  refine (row.answering n0 n1 n2 n3 0 _ b11 b12 b21 b22 b31 b32).mono ?_
  rintro e w2 ⟨rfl, hb⟩
  have B2 := Lib.hid (below_tr B1.out hb)
  clear hb B1
  go_wp2_with fail
  go_ret
  exact ⟨ret_int (by rw [HO.out]), B2.out⟩

set_option maxHeartbeats 1000000 in
theorem ac1 (X Y : Nat) (wh : Int) (q o : Nat) (v : Value) (xss : List (List Int)) (w : World) (h : IRows w v xss) (hok : okBox X Y wh xss) (hq : q < Y) (ho : o < X) :
    Calls Try.prog 111 #[.agg #[.int .i64 (X : Int), .int .i64 (Y : Int), .int .i64 wh, v], .int .i64 1, .int .i64 (q : Int), .int .i64 (o : Int)] w fun e w' => e = .returned (.int .i64 (one xss (o * Y + q) 1)) ∧ Below w.heap.size w w' := by
  obtain ⟨va, vn, vc, rfl⟩ := h.shape
  have hr := row.rowof X Y wh o q _ xss _ (h.below (below_al (Below.refl _ _) (.cells #[.int .i64 (X : Int), .int .i64 (Y : Int), .int .i64 wh, .slice va vn vc] 24))) hok (by omega) (by omega) (by omega) (by omega)
  have hlt := row.at_lt hok (i := (o : Int)) (j := (q : Int)) (by omega) (by omega) (by omega) (by omega)
  rw [at_cast] at hr hlt
  obtain ⟨b11, b12⟩ := row.nn_bd hok hlt (k := 1) (by omega)
  obtain ⟨b21, b22⟩ := row.nn_bd hok hlt (k := 2) (by omega)
  obtain ⟨b31, b32⟩ := row.nn_bd hok hlt (k := 3) (by omega)
  have HR := Lib.hid hr
  have HO : Hid (one xss (o * Y + q) 1 = nn xss (o * Y + q) 1 + nn xss (o * Y + q) 3) := Lib.hid rfl
  clear hr hlt hok h
  generalize nn xss (o * Y + q) 0 = n0 at *
  generalize nn xss (o * Y + q) 1 = n1 at *
  generalize nn xss (o * Y + q) 2 = n2 at *
  generalize nn xss (o * Y + q) 3 = n3 at *
  go_enter Try.func111, Try.ntmps111
  go_wp2_with fail
  refine HR.out.mono ?_
  rintro e w1 ⟨rfl, hb⟩
  have B1 := Lib.hid (below_tr (below_al (Below.refl _ _) _) hb)
  clear hb HR
  go_wp2_with fail
  refine (row.answering n0 n1 n2 n3 1 _ b11 b12 b21 b22 b31 b32).mono ?_
  rintro e w2 ⟨rfl, hb⟩
  have B2 := Lib.hid (below_tr B1.out hb)
  clear hb B1
  go_wp2_with fail
  go_ret
  exact ⟨ret_int (by rw [HO.out]), B2.out⟩












end Go.Proofs.Ytkajebhagkbcaaa.loud
