/- FirstSum of the program. -/
import Derived.Test.YtimfnhejiiagmaaGsi
import Derived.Deep.RegionHeld3
namespace Go.Proofs.Ytimfnhejiiagmaa.fst
open Go.RowKit Go.Deep Go.Proofs.Ytimfnhejiiagmaa.base
open Go.Proofs.Ytimfnhejiiagmaa.val (okSizes okBox)
open Go.Proofs.Ytimfnhejiiagmaa.prt (two_cells)
open Go.Proofs.Ytimfnhejiiagmaa.gsm
open Go.Proofs.Ytimfnhejiiagmaa.gsp (cs place_cells)
open Go.Proofs.Ytimfnhejiiagmaa.gsi (big mx_bd)

/-- what FirstSum answers: both pairs, the place with the minus, whether there is a sum -/
structure Ans where
  a : Int
  b : Int
  c : Int
  d : Int
  m : Int
  ok : Bool
def all (x y wh : Int) (xss : List (List Int)) : Prop := okBox x y wh xss ∧ 0 < num x.toNat y.toNat
def at_ (x y : Int) (xss : List (List Int)) : Nat := bs (f xss x.toNat y.toNat) (num x.toNat y.toNat)
open Classical in
noncomputable def res (x y wh : Int) (xss : List (List Int)) : Ans :=
  if all x y wh xss then ⟨(pl1 x.toNat y.toNat (at_ x y xss)).1, (pl1 x.toNat y.toNat (at_ x y xss)).2, (pl2 y.toNat (at_ x y xss)).1, (pl2 y.toNat (at_ x y xss)).2, pl3 (at_ x y xss), true⟩ else ⟨0, 0, 0, 0, 0, false⟩
theorem res_yes {x y wh : Int} {xss : List (List Int)} (h : all x y wh xss) : res x y wh xss = ⟨(pl1 x.toNat y.toNat (at_ x y xss)).1, (pl1 x.toNat y.toNat (at_ x y xss)).2, (pl2 y.toNat (at_ x y xss)).1, (pl2 y.toNat (at_ x y xss)).2, pl3 (at_ x y xss), true⟩ := if_pos h
theorem res_no {x y wh : Int} {xss : List (List Int)} (h : ¬ all x y wh xss) : res x y wh xss = ⟨0, 0, 0, 0, 0, false⟩ := if_neg h
/-- the first place with the greatest sum -/
theorem first_is {xss : List (List Int)} {X Y t : Nat} (ht : t < num X Y) (he : f xss X Y t = mx (f xss X Y) (num X Y)) (hb : ∀ s, s < t → f xss X Y s ≠ mx (f xss X Y) (num X Y)) : bs (f xss X Y) (num X Y) = t := by
  obtain ⟨h1, h2, h3⟩ := bs_is (f xss X Y) (fun t => abs'_nn _) (num X Y) (by omega)
  rcases Nat.lt_trichotomy (bs (f xss X Y) (num X Y)) t with g | g | g
  · exact absurd h2 (hb _ g)
  · exact g
  · have := h3 t g
    omega
theorem none_is {xss : List (List Int)} {X Y : Nat} (hb : ∀ s, s < num X Y → f xss X Y s ≠ mx (f xss X Y) (num X Y)) : num X Y = 0 := by
  rcases Nat.eq_zero_or_pos (num X Y) with z | z
  · exact z
  · obtain ⟨h1, h2, _⟩ := bs_is (f xss X Y) (fun t => abs'_nn _) (num X Y) z
    exact absurd h2 (hb _ h1)
def tup (r : Ans) : Value := .tuple #[.agg #[.int .i64 r.a, .int .i64 r.b], .agg #[.int .i64 r.c, .int .i64 r.d], .int .i64 r.m, .bool r.ok]
theorem offs5 {R R' : Nat} {w w' : World} {p0 p1 p2 p3 p4 : Addr} {u0 u1 u2 u3 u4 : Value} (h0 : w.cell? p0 = some u0) (h1 : w.cell? p1 = some u1) (h2 : w.cell? p2 = some u2) (h3 : w.cell? p3 = some u3) (h4 : w.cell? p4 = some u4)
    (n : ∀ p : Addr, p = p0 ∨ p = p1 ∨ p = p2 ∨ p = p3 ∨ p = p4 → p.block ≠ R ∧ p.block ≠ R') (h : Wrote (fun p => p.block = R ∨ p.block = R') w w') : w'.cell? p0 = some u0 ∧ w'.cell? p1 = some u1 ∧ w'.cell? p2 = some u2 ∧ w'.cell? p3 = some u3 ∧ w'.cell? p4 = some u4 :=
  ⟨(h.cell _ (fun e => by have := n p0 (by simp); rcases e with e | e <;> omega)).trans h0, (h.cell _ (fun e => by have := n p1 (by simp); rcases e with e | e <;> omega)).trans h1, (h.cell _ (fun e => by have := n p2 (by simp); rcases e with e | e <;> omega)).trans h2, (h.cell _ (fun e => by have := n p3 (by simp); rcases e with e | e <;> omega)).trans h3, (h.cell _ (fun e => by have := n p4 (by simp); rcases e with e | e <;> omega)).trans h4⟩

/-- the Box and both results in memory of the call's own -/
structure Kp (w wr : World) (x y wh : Int) (v : Value) : Prop where
  below : Below w.heap.size w wr
  box : Blk wr w.heap.size 29 #[.int .i64 x, .int .i64 y, .int .i64 wh, v]
  one : Blk wr (w.heap.size + 1) 26 #[.int .i64 0, .int .i64 0]
  two : Blk wr (w.heap.size + 1 + 1) 26 #[.int .i64 0, .int .i64 0]
theorem Kp.keep {w wr w' : World} {x y wh : Int} {v : Value} (h : Kp w wr x y wh v) (hb : Below wr.heap.size wr w') : Kp w w' x y wh v := ⟨below_tr h.below hb, h.box.below hb, h.one.below hb, h.two.below hb⟩
theorem Kp.start (w : World) (x y wh : Int) (v : Value) : Kp w (((w.alloc (.cells #[.int .i64 x, .int .i64 y, .int .i64 wh, v] 29)).alloc (.cells #[.int .i64 0, .int .i64 0] 26)).alloc (.cells #[.int .i64 0, .int .i64 0] 26)) x y wh v :=
  ⟨below_al (below_al (below_al (Below.refl _ _) _) _) _, ((Blk.new _ _ _).alloc _).alloc _, by
    have := (Blk.new (w.alloc (.cells #[.int .i64 x, .int .i64 y, .int .i64 wh, v] 29)) 26 #[.int .i64 0, .int .i64 0]).alloc (.cells #[.int .i64 0, .int .i64 0] 26)
    simpa using this, by
    have := Blk.new ((w.alloc (.cells #[.int .i64 x, .int .i64 y, .int .i64 wh, v] 29)).alloc (.cells #[.int .i64 0, .int .i64 0] 26)) 26 #[.int .i64 0, .int .i64 0]
    simpa using this⟩

/-- the world behind the stores of both pairs -/
def st4 (w : World) (k : Nat) (a b c d : Int) : World := (((w.setCell ⟨k + 1, 0, none⟩ (.int .i64 a)).setCell ⟨k + 1, 1, none⟩ (.int .i64 b)).setCell ⟨k + 1 + 1, 0, none⟩ (.int .i64 c)).setCell ⟨k + 1 + 1, 1, none⟩ (.int .i64 d)
theorem Kp.fin {w wr : World} {x y wh : Int} {v : Value} (h : Kp w wr x y wh v) (a b c d : Int) :
    (st4 wr w.heap.size a b c d).cell? ⟨w.heap.size + 1, 0, none⟩ = some (.int .i64 a) ∧ (st4 wr w.heap.size a b c d).cell? ⟨w.heap.size + 1, 1, none⟩ = some (.int .i64 b) ∧ (st4 wr w.heap.size a b c d).cell? ⟨w.heap.size + 1 + 1, 0, none⟩ = some (.int .i64 c) ∧ (st4 wr w.heap.size a b c d).cell? ⟨w.heap.size + 1 + 1, 1, none⟩ = some (.int .i64 d) ∧ Below w.heap.size w (st4 wr w.heap.size a b c d) := by
  have h1 := Joins.block_setCell (i := 0) h.one (.int .i64 a)
  have h2 := Joins.block_setCell (i := 1) h1 (.int .i64 b)
  have W1 : Wrote (fun p => p.block = w.heap.size + 1) wr ((wr.setCell ⟨w.heap.size + 1, 0, none⟩ (.int .i64 a)).setCell ⟨w.heap.size + 1, 1, none⟩ (.int .i64 b)) := ((Wrote.refl (fun p : Addr => p.block = w.heap.size + 1) wr).setCell (p := ⟨w.heap.size + 1, 0, none⟩) rfl _).setCell (p := ⟨w.heap.size + 1, 1, none⟩) rfl _
  have T := h.two.wrote W1 (fun p hp => by have : p.block = w.heap.size + 1 := hp; omega)
  have h3 := Joins.block_setCell (i := 0) T (.int .i64 c)
  have h4 := Joins.block_setCell (i := 1) h3 (.int .i64 d)
  have W2 : Wrote (fun p => p.block = w.heap.size + 1 + 1) ((wr.setCell ⟨w.heap.size + 1, 0, none⟩ (.int .i64 a)).setCell ⟨w.heap.size + 1, 1, none⟩ (.int .i64 b)) (st4 wr w.heap.size a b c d) := ((Wrote.refl (fun p : Addr => p.block = w.heap.size + 1 + 1) _).setCell (p := ⟨w.heap.size + 1 + 1, 0, none⟩) rfl _).setCell (p := ⟨w.heap.size + 1 + 1, 1, none⟩) rfl _
  have O1 : Blk ((wr.setCell ⟨w.heap.size + 1, 0, none⟩ (.int .i64 a)).setCell ⟨w.heap.size + 1, 1, none⟩ (.int .i64 b)) (w.heap.size + 1) 26 #[.int .i64 a, .int .i64 b] := by unfold Blk; simpa using h2
  have O2 := O1.wrote W2 (fun p hp => by have : p.block = w.heap.size + 1 + 1 := hp; omega)
  have P2 : Blk (st4 wr w.heap.size a b c d) (w.heap.size + 1 + 1) 26 #[.int .i64 c, .int .i64 d] := by unfold Blk st4; simpa using h4
  obtain ⟨q0, q1, _⟩ := two_cells O2
  obtain ⟨r0, r1, _⟩ := two_cells P2
  exact ⟨q0, q1, r0, r1, (h.below.trans (W1.below (fun p hp => by have : p.block = w.heap.size + 1 := hp; omega))).trans (W2.below (fun p hp => by have : p.block = w.heap.size + 1 + 1 := hp; omega))⟩


set_option maxRecDepth 100000 in
set_option maxHeartbeats 8000000 in
theorem impl_any (x y wh : Int) (v : Value) (xss : List (List Int)) (w : World) (h : IRows w v xss) (hn : rws.total xss ≤ 1048576) :
    Calls Try.prog 18 #[.agg #[.int .i64 x, .int .i64 y, .int .i64 wh, v]] w fun e w' => e = .returned (tup (res x y wh xss)) ∧ Below w.heap.size w w' := by
  obtain ⟨va, vn, vc, rfl⟩ := h.shape
  have HV := Lib.hid h
  have T0 := Lib.hid (Kp.start w x y wh (.slice va vn vc))
  have HG := Lib.hid (fun W (hb : Below w.heap.size w W) => gsi.impl_any x y wh (.slice va vn vc) xss W (h.below hb) hn)
  obtain ⟨b0, b1, b2, b3, _⟩ := four_cells T0.out.box
  obtain ⟨c0, c1, _⟩ := two_cells T0.out.one
  obtain ⟨d0, d1, _⟩ := two_cells T0.out.two
  clear h
  by_cases hok : okBox x y wh xss
  · rw [gsi.res_yes hok] at HG
    have HP0 : Hid (0 < num x.toNat y.toNat → all x y wh xss) := Lib.hid (fun g => ⟨hok, g⟩)
    have HP1 : Hid (num x.toNat y.toNat = 0 → ¬ all x y wh xss) := Lib.hid (fun g k => by have := k.2; omega)
    obtain ⟨X, rfl⟩ : ∃ X : Nat, x = X := ⟨x.toNat, by have := hok.1.1; omega⟩
    obtain ⟨Y, rfl⟩ : ∃ Y : Nat, y = Y := ⟨y.toNat, by have := hok.1.2; omega⟩
    have hX : X ≤ 3 := by have := hok.1.1; omega
    have hY : Y ≤ 3 := by have := hok.1.2; omega
    have HP := Lib.hid (gsp.places X Y hX hY)
    have HNU := Lib.hid (num_le X Y hX hY)
    have HSZ := Lib.hid (fun t (ht : t < num X Y) W (hb : Below w.heap.size w W) => gsz.size_any X Y wh (.slice va vn vc) xss (pl1 X Y t).1 (pl1 X Y t).2 (pl2 Y t).1 (pl2 Y t).2 (pl3 t) W (HV.out.below hb) hn ⟨hok, pl_ok hok.1 ht⟩)
    have HF : Hid (∀ t, abs' (som.sum xss (pl1 X Y t).1 (pl1 X Y t).2 (pl2 Y t).1 (pl2 Y t).2 (pl3 t) Y) = f xss X Y t) := Lib.hid (fun t => rfl)
    have HBIG : Hid (big X Y xss = mx (f xss X Y) (num X Y)) := Lib.hid (by simp [big])
    have HYES : Hid (∀ t, t < num X Y → f xss X Y t = mx (f xss X Y) (num X Y) → (∀ s, s < t → f xss X Y s ≠ mx (f xss X Y) (num X Y)) → res X Y wh xss = ⟨(pl1 X Y t).1, (pl1 X Y t).2, (pl2 Y t).1, (pl2 Y t).2, pl3 t, true⟩) := Lib.hid (fun t ht he hb => by
      have e := first_is ht he hb
      rw [res_yes (HP0.out (by simpa using (by omega : 0 < num X Y)))]
      have e2 : at_ X Y xss = t := by unfold at_; simpa using e
      rw [e2]
      simp)
    have HNO : Hid ((∀ s, s < num X Y → f xss X Y s ≠ mx (f xss X Y) (num X Y)) → res X Y wh xss = ⟨0, 0, 0, 0, 0, false⟩) := Lib.hid (fun hb => res_no (HP1.out (by simpa using none_is hb)))
    rw [HBIG.out] at HG
    obtain ⟨G, hG⟩ : ∃ G, mx (f xss X Y) (num X Y) = G := ⟨_, rfl⟩
    rw [hG] at HG HYES HNO
    clear hok hX hY hG HBIG HP0 HP1
    go_enter Try.func18, Try.ntmps18
    go_wp2_with fail
    refine (HG.out _ T0.out.below).mono ?_
    rintro e w1 ⟨rfl, hb⟩
    have T1 := Lib.hid (T0.out.keep hb)
    clear hb b0 b1 b2 b3 c0 c1 d0 d1 T0 HG
    obtain ⟨b0, b1, b2, b3, _⟩ := four_cells T1.out.box
    go_wp2_with fail
    refine (HP.out _).mono ?_
    rintro e w2 ⟨u, rfl, hu, hb⟩
    have U2 := Lib.hid hu
    have T2 := Lib.hid (T1.out.keep hb)
    obtain ⟨ua, un, uc, rfl⟩ : ∃ a n c, u = .slice a n c := by
      rcases hu.2 with ⟨rfl, _⟩ | ⟨g, cap, cur, rfl, _⟩
      · exact ⟨_, _, _, rfl⟩
      · exact ⟨_, _, _, rfl⟩
    have hun : un = num X Y := by
      rcases hu.2 with ⟨e1, e2⟩ | ⟨g, cap, cur, e1, _⟩
      · injection e1 with _ e3 _; omega
      · injection e1 with _ e3 _
    subst hun
    clear hu hb b0 b1 b2 b3 T1 HP
    have N9 : ((num X Y : Nat) : Int) ≤ 324 := by have := HNU.out; omega
    go_wp2_with fail
    go_loopw [9, 25] (fun z9 s wr => ∃ t : Nat, t ≤ num X Y ∧ s = .int .i64 (t : Nat) ∧ (∃ z, z9 = z) ∧ Hid (∀ s, s < t → f xss X Y s ≠ G) ∧ Hid (Below w2.heap.size w2 wr)) (fun _ s _ => num X Y - (intOf s).toNat)
    case atStart => exact ⟨0, Nat.zero_le _, rfl, ⟨_, rfl⟩, fun s hs => absurd hs (Nat.not_lt_zero _), Below.refl _ _⟩
    case round =>
      obtain ⟨t, ht, rfl, ⟨z9, rfl⟩, hN, hB⟩ := hrel
      obtain ⟨wr, rfl⟩ : ∃ w9 : World, w9 = wr := ⟨_, rfl⟩
      by_cases hlt : t < num X Y
      · have hkz : (t : Int) < ((num X Y : Nat) : Int) := by omega
        obtain ⟨g, cap, hv, _, p0, p1, p2, p3, p4⟩ := place_cells U2.out hlt
        injection hv with e1 e2 e3
        subst e1
        clear e2 e3
        have p0 := below_cell hB.out _ _ p0
        have p1 := below_cell hB.out _ _ p1
        have p2 := below_cell hB.out _ _ p2
        have p3 := below_cell hB.out _ _ p3
        have p4 := below_cell hB.out _ _ p4
        have T3 := Lib.hid (T2.out.keep hB.out)
        obtain ⟨b0, b1, b2, b3, _⟩ := four_cells T3.out.box
        have HZ := Lib.hid (fun W hb => HSZ.out t hlt W hb)
        rw [HF.out] at HZ
        have HLT := Lib.hid hlt
        unfold gsz.pv at HZ
        have HY := Lib.hid (HYES.out t hlt)
        generalize (pl1 X Y t).1 = a at *
        generalize (pl1 X Y t).2 = b at *
        generalize (pl2 Y t).1 = c at *
        generalize (pl2 Y t).2 = d at *
        generalize pl3 t = m at *
        have HN2 : Hid (f xss X Y t ≠ G → ∀ s, s < t + 1 → f xss X Y s ≠ G) := Lib.hid (fun h1 s hs => by
          by_cases e : s = t
          · subst e; exact h1
          · exact hN.out s (by omega))
        obtain ⟨F, hF⟩ : ∃ F, f xss X Y t = F := ⟨_, rfl⟩
        rw [hF] at HZ HY HN2
        clear hF
        have KP := Lib.hid (Blk.new wr 89 #[.int .i64 a, .int .i64 b, .int .i64 c, .int .i64 d, .int .i64 m])
        go_wp2_with fail
        refine (HZ.out _ (below_tr T3.out.below (below_al (Below.refl _ _) _))).mono ?_
        rintro e w3 ⟨rfl, hb⟩
        have hb' : Below wr.heap.size wr w3 := below_tr (below_al (Below.refl _ _) _) hb
        have T4 := Lib.hid (T3.out.keep hb')
        have B4 := Lib.hid (below_tr hB.out hb')
        have KP4 := Lib.hid (KP.out.below hb)
        have lwr : w.heap.size + 1 + 1 < wr.heap.size := T3.out.two.lt
        clear hb hb' b0 b1 b2 b3 p0 p1 p2 p3 p4 HZ T3 KP
        by_cases he : F = G
        · subst he
          have HR := Lib.hid (HY.out rfl hN.out)
          obtain ⟨p0, p1, p2, p3, p4, _⟩ := gsz.five_cells KP4.out
          have HNE : Hid (∀ p : Addr, p = ⟨wr.heap.size, 0, none⟩ ∨ p = ⟨wr.heap.size, 1, none⟩ ∨ p = ⟨wr.heap.size, 2, none⟩ ∨ p = ⟨wr.heap.size, 3, none⟩ ∨ p = ⟨wr.heap.size, 4, none⟩ → p.block ≠ w.heap.size + 1 ∧ p.block ≠ w.heap.size + 1 + 1) := Lib.hid (by
            rintro p (rfl | rfl | rfl | rfl | rfl) <;> exact ⟨by show wr.heap.size ≠ _; omega, by show wr.heap.size ≠ _; omega⟩)
          obtain ⟨c0, c1, _⟩ := two_cells T4.out.one
          obtain ⟨d0, d1, _⟩ := two_cells T4.out.two
          have rf : ∀ j, w3.frozen? ⟨w.heap.size + 1, j, none⟩ = false := fun j => Joins.unfrozen_of_block T4.out.one j
          have rf2 : ∀ j, w3.frozen? ⟨w.heap.size + 1 + 1, j, none⟩ = false := fun j => Joins.unfrozen_of_block T4.out.two j
          go_wp2_with fail
          go_region_held3 (fun w' => w'.cell? ⟨wr.heap.size, 0, none⟩ = some (.int .i64 a) ∧ w'.cell? ⟨wr.heap.size, 1, none⟩ = some (.int .i64 b) ∧ w'.cell? ⟨wr.heap.size, 2, none⟩ = some (.int .i64 c) ∧ w'.cell? ⟨wr.heap.size, 3, none⟩ = some (.int .i64 d) ∧ w'.cell? ⟨wr.heap.size, 4, none⟩ = some (.int .i64 m))
            ((refine offs5 (R := w.heap.size + 1) (R' := w.heap.size + 1 + 1) p0 p1 p2 p3 p4 HNE.out ?_; repeat (first | (with_reducible exact Wrote.refl _ _) | (with_reducible refine Wrote.drew ?_) | (with_reducible refine Wrote.setCell ?_ (by simp) _))))
            (first | fail)
          all_goals
            obtain ⟨f0, f1, f2, f3, hB9⟩ := T4.out.fin a b c d
            unfold st4 at f0 f1 f2 f3 hB9
            clear p0 p1 p2 p3 p4 c0 c1 d0 d1 rf rf2
            go_wp2_with fail
            refine bodyPost_ret (v := tup ⟨a, b, c, d, m, true⟩) ?_ rfl ⟨by rw [HR.out], by first | exact hB9 | exact below_dr hB9⟩
            simp [results, Try.results18, go_sem, tup, f0, f1, f2, f3]
        · have hne : (F == G) = false := by simpa using he
          have HN3 := Lib.hid (HN2.out he)
          clear he
          go_wp2_with fail
          go_roundw
          case rel => exact ⟨t + 1, by have := HLT.out; omega, by go_num, ⟨_, rfl⟩, HN3, B4⟩
          case measure => have := HLT.out; simp [intOf]; omega
      · have hkz : ¬ (t : Int) < ((num X Y : Nat) : Int) := by omega
        have hte : t = num X Y := by omega
        have HR := Lib.hid (HNO.out (by rw [← hte]; exact hN.out))
        have T5 := Lib.hid (T2.out.keep hB.out)
        obtain ⟨c0, c1, _⟩ := two_cells T5.out.one
        obtain ⟨d0, d1, _⟩ := two_cells T5.out.two
        have rf : ∀ j, wr.frozen? ⟨w.heap.size + 1, j, none⟩ = false := fun j => Joins.unfrozen_of_block T5.out.one j
        have rf2 : ∀ j, wr.frozen? ⟨w.heap.size + 1 + 1, j, none⟩ = false := fun j => Joins.unfrozen_of_block T5.out.two j
        clear hte hN hB
        go_wp2_with fail
        obtain ⟨f0, f1, f2, f3, hB⟩ := T5.out.fin 0 0 0 0
        unfold st4 at f0 f1 f2 f3 hB
        refine bodyPost_ret (v := tup ⟨0, 0, 0, 0, 0, false⟩) ?_ rfl ⟨by rw [HR.out], hB⟩
        simp [results, Try.results18, go_sem, tup, f0, f1, f2, f3]
  · rw [gsi.res_no hok] at HG
    rw [res_no (fun g => hok g.1)]
    clear hok
    go_enter Try.func18, Try.ntmps18
    go_wp2_with fail
    refine (HG.out _ T0.out.below).mono ?_
    rintro e w1 ⟨rfl, hb⟩
    have T1 := Lib.hid (T0.out.keep hb)
    clear hb b0 b1 b2 b3 c0 c1 d0 d1 T0 HG
    obtain ⟨c0, c1, _⟩ := two_cells T1.out.one
    obtain ⟨d0, d1, _⟩ := two_cells T1.out.two
    have rf : ∀ j, w1.frozen? ⟨w.heap.size + 1, j, none⟩ = false := fun j => Joins.unfrozen_of_block T1.out.one j
    have rf2 : ∀ j, w1.frozen? ⟨w.heap.size + 1 + 1, j, none⟩ = false := fun j => Joins.unfrozen_of_block T1.out.two j
    go_wp2_with fail
    obtain ⟨f0, f1, f2, f3, hB⟩ := T1.out.fin 0 0 0 0
    unfold st4 at f0 f1 f2 f3 hB
    refine bodyPost_ret (v := tup ⟨0, 0, 0, 0, 0, false⟩) ?_ rfl ⟨rfl, hB⟩
    simp [results, Try.results18, go_sem, tup, f0, f1, f2, f3]

end Go.Proofs.Ytimfnhejiiagmaa.fst
