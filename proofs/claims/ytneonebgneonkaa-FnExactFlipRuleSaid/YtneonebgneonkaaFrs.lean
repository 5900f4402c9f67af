/- FlipRule of the model. -/
import Derived.Test.YtneonebgneonkaaFlr
import Derived.Test.YtneonebgneonkaaBuiltr
import Derived.Test.YtneonebgneonkaaApl
import Derived.Test.YtneonebgneonkaaOwnz
import Derived.Test.YtneonebgneonkaaRcl
namespace Go.Proofs.Ytneonebgneonkaa.flr
open Go.RowKit Go.Deep Go.Proofs.Ytneonebgneonkaa.base
open Go.Proofs.Ytneonebgneonkaa.ints (ret_int infoInt infoInts)
open Go.Proofs.Ytneonebgneonkaa.play (within)
open Go.Proofs.Ytneonebgneonkaa.wrm (rule ruleB ruleB_yes ruleB_no tab tab_get bit get_bit)
open Go.Proofs.Ytneonebgneonkaa.scene (three_cells)
open Go.Proofs.Ytneonebgneonkaa.rule (RV OR)
open Go.Proofs.Ytneonebgneonkaa.upd (rw8 pf)
open Go.Proofs.Ytneonebgneonkaa.rby (RR)

/-- a flipped row -/
def fr (yss : List (List Int)) (r : Nat) : List Int := [1 - pf yss (4 * r), 1 - pf yss (4 * r + 1), 1 - pf yss (4 * r + 2), 1 - pf yss (4 * r + 3)]
theorem fr_rows (yss : List (List Int)) : (List.range 2).map (fr yss) = rw8 (pf yss) 8 := rfl
theorem fr_step (yss : List (List Int)) (r : Nat) {k : Nat} (hk : k < 4) : (fr yss r).take (k + 1) = (fr yss r).take k ++ [1 - pf yss (4 * r + k)] := by
  obtain rfl | rfl | rfl | rfl : k = 0 ∨ k = 1 ∨ k = 2 ∨ k = 3 := by omega
  all_goals rfl
theorem owns_heap {w w' : World} {B e n : Nat} {v : Value} {xs : List Value} (h : w.ownsRow B e 1 v n xs) (hk : ∀ bb, v.ownBlock = some bb → w'.heap[bb]? = w.heap[bb]?) : w'.ownsRow B e 1 v n xs := by
  refine ⟨h.1, ?_⟩
  rcases h.2 with hn | ⟨g, cap, cur, rfl, hb, hg, rest⟩
  · exact .inl hn
  · exact .inr ⟨g, cap, cur, rfl, hb, (hk g rfl).trans hg, rest⟩

/-- what the loops leave alone -/
def KP (lo g : Nat) (Wz W : World) (v : Value) : Prop := (∀ bb, bb < Wz.heap.size → bb ≠ lo → bb ≠ g → W.heap[bb]? = Wz.heap[bb]?) ∧ (∀ bb, v.ownBlock = some bb → bb = lo ∨ Wz.heap.size ≤ bb) ∧ Wz.heap.size ≤ W.heap.size
theorem KP.keep {lo g : Nat} {Wz W W' : World} {v : Value} (h : KP lo g Wz W v) (hb : Below W.heap.size W W') : KP lo g Wz W' v :=
  ⟨fun bb h1 h2 h3 => (hb.block bb (Nat.lt_of_lt_of_le h1 h.2.2)).trans (h.1 bb h1 h2 h3), h.2.1, Nat.le_trans h.2.2 hb.size⟩
theorem KP.grown {lo g : Nat} {Wz W W' : World} {v q : Value} (h : KP lo g Wz W v) (hg : W.grownBy W' q.ownBlock) (hq : ∀ bb, bb < Wz.heap.size → q.ownBlock = some bb → False) : KP lo g Wz W' v :=
  ⟨fun bb h1 h2 h3 => (hg.block bb (Nat.lt_of_lt_of_le h1 h.2.2) (fun e => hq bb h1 e.symm)).trans (h.1 bb h1 h2 h3), h.2.1, Nat.le_trans h.2.2 hg.size⟩
theorem KP.outer {lo g : Nat} {Wz W W' : World} {v v' : Value} (h : KP lo g Wz W v) (hg : W.grownBy W' v.ownBlock) {n : Nat} (hl : v'.ownBlock = v.ownBlock ∨ v'.ownBlock = some n) (hn : Wz.heap.size ≤ n) : KP lo g Wz (W'.setCell ⟨g, 2, none⟩ v') v' := by
  refine ⟨fun bb h1 h2 h3 => ?_, fun bb hb => ?_, ?_⟩
  · rw [Below.heap_setCell _ _ _ _ (by simp; omega)]
    refine (hg.block bb (Nat.lt_of_lt_of_le h1 h.2.2) (fun e => ?_)).trans (h.1 bb h1 h2 h3)
    rcases h.2.1 bb e.symm with e1 | e1 <;> omega
  · rcases hl with e | e
    · exact h.2.1 bb (by rw [← e]; exact hb)
    · rw [e] at hb; injection hb with hb; exact .inr (by omega)
  · simp [World.setCell]; exact Nat.le_trans h.2.2 hg.size

/-- what holds while the operations of the region come up, in whatever order -/
structure JG (b : World) (p : Nat) (ra sa : Option Addr) (rn rc kb ko kc sn sc ub0 uo0 uc0 ub1 uo1 uc1 : Nat) (ss r0 r1 : List Int) (L : Nat → Bool) (g lo2 hi2 lo7 hi7 lo12 hi12 lo13 hi13 lo14 hi14 : Nat) (s12 s13 s14 s15 s16 s17 s18 s19 s20 s21 s22 s23 s24 s25 s26 s27 s4 : Value) (W : World) : Prop where
  fb : Below b.heap.size b W
  fk : L 16 = true → b.heap.size ≤ g ∧ g < W.heap.size ∧ s4 = .pointer (some ⟨g, 0, none⟩) ∧ Blk W g 28 (if L 17 = true then #[s14, s25, s26] else #[.slice none 0 0, .slice none 0 0, .slice none 0 0])
  a2x16 : L 2 = true → L 16 = true → g < lo2 ∨ hi2 ≤ g
  a7x16 : L 7 = true → L 16 = true → g < lo7 ∨ hi7 ≤ g
  a12x16 : L 12 = true → L 16 = true → g < lo12 ∨ hi12 ≤ g
  a13x16 : L 13 = true → L 16 = true → g < lo13 ∨ hi13 ≤ g
  a14x16 : L 14 = true → L 16 = true → g < lo14 ∨ hi14 ≤ g
  f0 : L 0 = true → s12 = .pointer (some ⟨p, 0, none⟩)
  f1 : L 1 = true → s13 = .slice ra rn rc
  d1x0 : L 1 = true → L 0 = true
  f2 : L 2 = true → b.heap.size ≤ lo2 ∧ lo2 ≤ hi2 ∧ hi2 ≤ W.heap.size ∧ OwnInts W lo2 hi2 s14 ss
  d2x1 : L 2 = true → L 1 = true
  f3 : L 3 = true → s15 = .pointer (some ⟨p, 1, none⟩)
  f4 : L 4 = true → s16 = .slice (some ⟨kb, ko, none⟩) 2 kc
  d4x3 : L 4 = true → L 3 = true
  f5 : L 5 = true → s17 = .pointer (some ⟨kb, ko, none⟩)
  d5x4 : L 5 = true → L 4 = true
  f6 : L 6 = true → s18 = .slice (some ⟨ub0, uo0, none⟩) 2 uc0
  d6x5 : L 6 = true → L 5 = true
  f7 : L 7 = true → b.heap.size ≤ lo7 ∧ lo7 ≤ hi7 ∧ hi7 ≤ W.heap.size ∧ OwnInts W lo7 hi7 s19 r0
  d7x6 : L 7 = true → L 6 = true
  f8 : L 8 = true → s20 = .pointer (some ⟨p, 1, none⟩)
  f9 : L 9 = true → s21 = .slice (some ⟨kb, ko, none⟩) 2 kc
  d9x8 : L 9 = true → L 8 = true
  f10 : L 10 = true → s22 = .pointer (some ⟨kb, ko + 1, none⟩)
  d10x9 : L 10 = true → L 9 = true
  f11 : L 11 = true → s23 = .slice (some ⟨ub1, uo1, none⟩) 2 uc1
  d11x10 : L 11 = true → L 10 = true
  f12 : L 12 = true → b.heap.size ≤ lo12 ∧ lo12 ≤ hi12 ∧ hi12 ≤ W.heap.size ∧ OwnInts W lo12 hi12 s24 r1
  d12x11 : L 12 = true → L 11 = true
  f13 : L 13 = true → b.heap.size ≤ lo13 ∧ lo13 ≤ hi13 ∧ hi13 ≤ W.heap.size ∧ (s25 = .slice (some ⟨lo13, 0, none⟩) 2 2 ∧ hi13 = lo13 + 1 ∧ Blk W lo13 22 #[s19, s24])
  d13x7 : L 13 = true → L 7 = true
  d13x12 : L 13 = true → L 12 = true
  f14 : L 14 = true → b.heap.size ≤ lo14 ∧ lo14 ≤ hi14 ∧ hi14 ≤ W.heap.size ∧ (s26 = .slice (some ⟨lo14, 0, none⟩) 0 0 ∧ hi14 = lo14 + 1 ∧ Blk W lo14 22 #[])
  f15 : L 15 = true → s27 = .agg #[s14, s25, s26]
  d15x2 : L 15 = true → L 2 = true
  d15x13 : L 15 = true → L 13 = true
  d15x14 : L 15 = true → L 14 = true
  d17x15 : L 17 = true → L 15 = true
  d17x16 : L 17 = true → L 16 = true
  a2x7 : L 2 = true → L 7 = true → hi2 ≤ lo7 ∨ hi7 ≤ lo2
  a2x12 : L 2 = true → L 12 = true → hi2 ≤ lo12 ∨ hi12 ≤ lo2
  a2x13 : L 2 = true → L 13 = true → hi2 ≤ lo13 ∨ hi13 ≤ lo2
  a2x14 : L 2 = true → L 14 = true → hi2 ≤ lo14 ∨ hi14 ≤ lo2
  a7x12 : L 7 = true → L 12 = true → hi7 ≤ lo12 ∨ hi12 ≤ lo7
  a7x13 : L 7 = true → L 13 = true → hi7 ≤ lo13 ∨ hi13 ≤ lo7
  a7x14 : L 7 = true → L 14 = true → hi7 ≤ lo14 ∨ hi14 ≤ lo7
  a12x13 : L 12 = true → L 13 = true → hi12 ≤ lo13 ∨ hi13 ≤ lo12
  a12x14 : L 12 = true → L 14 = true → hi12 ≤ lo14 ∨ hi14 ≤ lo12
  a13x14 : L 13 = true → L 14 = true → hi13 ≤ lo14 ∨ hi14 ≤ lo13


set_option maxRecDepth 100000 in
set_option maxHeartbeats 8000000 in
theorem spec_any (sv : Value) (ss : List Int) (u : Value) (xss : List (List Int)) (nv : Value) (yss : List (List Int)) (w : World) (h : RV w sv ss u xss nv yss) :
    Calls Try.prog 29 #[.agg #[sv, u, nv]] w fun e w' => ∃ sv u nv, e = .returned (.tuple #[.agg #[sv, u, nv], .bool (res ss xss yss).ok]) ∧ RV w' sv (res ss xss yss).f u (res ss xss yss).k nv (res ss xss yss).s ∧ Below w.heap.size w w' := by
  obtain ⟨i0, hi, hz0, hz1, hz2⟩ := info_parts infoInt
  obtain ⟨s0, si, sz0, sz1, sz2⟩ := info_parts infoInts
  have HV := Lib.hid h
  have I0 := fun (W : World) (hb : Below w.heap.size w W) => rul.spec_is _ ss _ xss _ yss W (h.below hb)
  by_cases g0 : rule ss xss yss
  · simp only [ruleB_yes g0] at I0
    have H0 := Lib.hid I0
    have HE := Lib.hid (res_yes g0)
    have HG := Lib.hid g0
    obtain ⟨kb, ko, kc, rfl, _, _, hkc⟩ := cll.rows h.rows g0.2.1.1 (by omega) (by omega : 0 < 2) (fun r hr => by obtain ⟨_, _, hw⟩ := tab_get (n := 2) g0.2.1 hr; have := hw.1; omega)
    obtain ⟨ub0, uo0, uc0, g0', q0⟩ := hkc 0 (by omega)
    obtain ⟨ub1, uo1, uc1, g1', q1⟩ := hkc 1 (by omega)
    rw [Nat.add_zero] at g0'
    have G0 := Lib.hid g0'
    have G1 := Lib.hid g1'
    obtain ⟨ra0, rn0, rc0, _, _, _, sa, sn, sc, rfl, _, rfl⟩ := h.shape
    obtain ⟨r0, r1, hxe, hr0, hr1⟩ : ∃ r0 r1, xss = [r0, r1] ∧ r0.length = 2 ∧ r1.length = 2 := by
      obtain ⟨h1, h2, h3⟩ := g0.2.1
      match xss, h1 with
      | [a, b], _ => exact ⟨a, b, rfl, by have := h2.1; simp at this; omega, by have := h3.1; simp at this; omega⟩
    have HR0 : Hid (Ints w (.slice (some ⟨ub0, uo0, none⟩) 2 uc0) r0) := Lib.hid (by
      obtain ⟨vals, hs, hl, hrow⟩ := h.rows
      obtain ⟨u, hu, hi⟩ := hrow 0 (by rw [hxe]; simp)
      obtain ⟨A, cap, hv, _, _, hc⟩ := hs
      obtain ⟨b2, o2, hA, g2⟩ := hc 0 u hu
      rw [hA] at hv; injection hv with e1 _ _; injection e1 with e1; injection e1 with e1 e2; subst e1; subst e2
      rw [Nat.add_zero, g0'] at g2; injection g2 with g2; subst g2
      simpa [hxe] using hi)
    have HR1 : Hid (Ints w (.slice (some ⟨ub1, uo1, none⟩) 2 uc1) r1) := Lib.hid (by
      obtain ⟨vals, hs, hl, hrow⟩ := h.rows
      obtain ⟨u, hu, hi⟩ := hrow 1 (by rw [hxe]; simp)
      obtain ⟨A, cap, hv, _, _, hc⟩ := hs
      obtain ⟨b2, o2, hA, g2⟩ := hc 1 u hu
      rw [hA] at hv; injection hv with e1 _ _; injection e1 with e1; injection e1 with e1 e2; subst e1; subst e2
      rw [g1'] at g2; injection g2 with g2; subst g2
      simpa [hxe] using hi)
    obtain ⟨yb, yo, yc, hye, hy⟩ : ∃ b o c, (.slice sa sn sc : Value) = .slice (some ⟨b, o, none⟩) 2 c ∧ ∀ r, r < 2 → ∃ b' o' c', w.cell? ⟨b, o + r, none⟩ = some (.slice (some ⟨b', o', none⟩) 4 c') ∧ ∀ k, k < 4 → w.cell? ⟨b', o' + k, none⟩ = some (.int .i64 (pf yss (4 * r + k))) ∧ 0 ≤ pf yss (4 * r + k) ∧ pf yss (4 * r + k) ≤ 1 := by
      obtain ⟨b, o, c, hv, hR⟩ := rcl.rows (n := 4) h.rows2 g0.2.2 (by omega)
      refine ⟨b, o, c, hv, fun r hr => ?_⟩
      obtain ⟨b', o', c', g1, g2⟩ := hR r hr
      refine ⟨b', o', c', g1, fun k hk => ?_⟩
      obtain ⟨g3, g4⟩ := g2 k hk
      have e : pf yss (4 * r + k) = (bit (yss.getD r []) k : Int) := by
        obtain ⟨_, _, hw⟩ := tab_get (n := 4) g0.2.2 hr
        obtain ⟨h1, h2, h3⟩ := get_bit hw hk
        unfold pf
        rw [show (4 * r + k) / 4 = r by omega, show (4 * r + k) % 4 = k by omega, ← h2]
        rw [List.getD_eq_getElem?_getD, List.getElem?_eq_getElem h1, Option.getD_some]
      rw [e]
      exact ⟨g3, by omega, by omega⟩
    injection hye with e1 e2 e3
    subst e1; subst e2; subst e3
    have HY := Lib.hid hy
    obtain ⟨ra, hra⟩ : ∃ ra, ra0 = ra := ⟨_, rfl⟩
    subst hra
    have B0 := Lib.hid (show Below w.heap.size w ((w.alloc (.cells #[.slice ra0 rn0 rc0, .slice (some ⟨kb, ko, none⟩) 2 kc, .slice (some ⟨yb, yo, none⟩) 2 sc] 28)).alloc (.cells #[.slice none 0 0, .slice none 0 0, .slice none 0 0] 28)) from by repeat (first | exact Below.refl _ _ | refine below_al ?_ _))
    have K0 := Lib.hid ((Blk.new w 28 #[.slice ra0 rn0 rc0, .slice (some ⟨kb, ko, none⟩) 2 kc, .slice (some ⟨yb, yo, none⟩) 2 sc]).alloc (.cells #[.slice none 0 0, .slice none 0 0, .slice none 0 0] 28))
    have R0 : Hid (Blk ((w.alloc (.cells #[.slice ra0 rn0 rc0, .slice (some ⟨kb, ko, none⟩) 2 kc, .slice (some ⟨yb, yo, none⟩) 2 sc] 28)).alloc (.cells #[.slice none 0 0, .slice none 0 0, .slice none 0 0] 28)) (w.heap.size + 1) 28 #[.slice none 0 0, .slice none 0 0, .slice none 0 0]) := Lib.hid (by have := Blk.new (w.alloc (.cells #[.slice ra0 rn0 rc0, .slice (some ⟨kb, ko, none⟩) 2 kc, .slice (some ⟨yb, yo, none⟩) 2 sc] 28)) 28 #[.slice none 0 0, .slice none 0 0, .slice none 0 0]; simpa using this)
    have HLS := Lib.hid (show ss.length ≤ 1048576 from by have := g0.1.1; omega)
    have HL0 := Lib.hid (show r0.length ≤ 1048576 from by omega)
    have HL1 := Lib.hid (show r1.length ≤ 1048576 from by omega)
    clear h I0 g0 hkc g0' g1' q0 q1 hy hr0 hr1
    obtain ⟨c0, c1, c2, c3⟩ := three_cells K0.out
    go_enter Try.func29, Try.ntmps29
    go_wp2_with fail
    refine (H0.out _ B0.out).mono ?_
    rintro e w1 ⟨rfl, hb⟩
    have B1 := Lib.hid (below_tr B0.out hb)
    have K1 := Lib.hid (K0.out.below hb)
    have R1 := Lib.hid (R0.out.below hb)
    clear hb H0 c0 c1 c2 c3 K0 R0 B0
    have HO1 := Lib.hid (fun (W : World) (hb : Below w1.heap.size w1 W) => (own.l1own_any _ ss W (HV.out.ints.below (below_tr B1.out hb)) HLS.out).mono fun e w' ⟨r, he, ho, hb⟩ => (⟨r, he, app.ints_of_owns ho, hb⟩ : ∃ u, e = Ending.returned u ∧ OwnInts w' W.heap.size w'.heap.size u ss ∧ Below W.heap.size W w'))
    have HO2 := Lib.hid (fun (W : World) (hb : Below w1.heap.size w1 W) => (own.l1own_any _ r0 W (HR0.out.below (below_tr B1.out hb)) HL0.out).mono fun e w' ⟨r, he, ho, hb⟩ => (⟨r, he, app.ints_of_owns ho, hb⟩ : ∃ u, e = Ending.returned u ∧ OwnInts w' W.heap.size w'.heap.size u r0 ∧ Below W.heap.size W w'))
    have HO3 := Lib.hid (fun (W : World) (hb : Below w1.heap.size w1 W) => (own.l1own_any _ r1 W (HR1.out.below (below_tr B1.out hb)) HL1.out).mono fun e w' ⟨r, he, ho, hb⟩ => (⟨r, he, app.ints_of_owns ho, hb⟩ : ∃ u, e = Ending.returned u ∧ OwnInts w' W.heap.size w'.heap.size u r1 ∧ Below W.heap.size W w'))
    have G0' := Lib.hid (below_cell B1.out _ _ G0.out)
    have G1' := Lib.hid (below_cell B1.out _ _ G1.out)
    clear G0 G1
    have G0 := G0'
    have G1 := G1'
    go_wp2_with fail
    refine inv.start (by kernel_rfl) (fun l a' W => ∃ (g lo2 hi2 lo7 hi7 lo12 hi12 lo13 hi13 lo14 hi14 : Nat) (s12 s13 s14 s15 s16 s17 s18 s19 s20 s21 s22 s23 s24 s25 s26 s27 s4 : Value), a' = { tmps := #[.agg #[.slice ra0 rn0 rc0, .slice (some ⟨kb, ko, none⟩) 2 kc, .slice (some ⟨yb, yo, none⟩) 2 sc], .pointer (some ⟨w.heap.size, 0, none⟩), .pointer (some ⟨w.heap.size + 1, 0, none⟩), .bool false, s4, undef, undef, undef, .agg #[.slice ra0 rn0 rc0, .slice (some ⟨kb, ko, none⟩) 2 kc, .slice (some ⟨yb, yo, none⟩) 2 sc], .bool true, .bool false, undef, s12, s13, s14, s15, s16, s17, s18, s19, s20, s21, s22, s23, s24, s25, s26, s27, undef, undef, undef, undef, undef, undef, undef, undef, undef, undef, undef, undef, undef, undef, undef, undef, undef, undef, undef, undef, undef, undef, undef, undef, undef, undef, undef, undef], defers := [] } ∧ l.size = 18 ∧ JG w1 w.heap.size ra0 (some ⟨yb, yo, none⟩) rn0 rc0 kb ko kc 2 sc ub0 uo0 uc0 ub1 uo1 uc1 ss r0 r1 (fun k => l.getD k false) g lo2 hi2 lo7 hi7 lo12 hi12 lo13 hi13 lo14 hi14 s12 s13 s14 s15 s16 s17 s18 s19 s20 s21 s22 s23 s24 s25 s26 s27 s4 W) ?_ ?_ ?_
    · refine ⟨0, 0, 0, 0, 0, 0, 0, 0, 0, 0, 0, _, _, _, _, _, _, _, _, _, _, _, _, _, _, _, _, _, rfl, by simp, ?_⟩
      exact ⟨below_dr (Below.refl _ _), fun h => by simp at h, fun h => by simp at h, fun h => by simp at h, fun h => by simp at h, fun h => by simp at h, fun h => by simp at h, fun h => by simp at h, fun h => by simp at h, fun h => by simp at h, fun h => by simp at h, fun h => by simp at h, fun h => by simp at h, fun h => by simp at h, fun h => by simp at h, fun h => by simp at h, fun h => by simp at h, fun h => by simp at h, fun h => by simp at h, fun h => by simp at h, fun h => by simp at h, fun h => by simp at h, fun h => by simp at h, fun h => by simp at h, fun h => by simp at h, fun h => by simp at h, fun h => by simp at h, fun h => by simp at h, fun h => by simp at h, fun h => by simp at h, fun h => by simp at h, fun h => by simp at h, fun h => by simp at h, fun h => by simp at h, fun h => by simp at h, fun h => by simp at h, fun h => by simp at h, fun h => by simp at h, fun h => by simp at h, fun h => by simp at h, fun h => by simp at h, fun h => by simp at h, fun h => by simp at h, fun h => by simp at h, fun h => by simp at h, fun h => by simp at h, fun h => by simp at h, fun h => by simp at h, fun h => by simp at h, fun h => by simp at h⟩
    · rintro l a' W i ⟨g, lo2, hi2, lo7, hi7, lo12, hi12, lo13, hi13, lo14, hi14, s12, s13, s14, s15, s16, s17, s18, s19, s20, s21, s22, s23, s24, s25, s26, s27, s4, rfl, hsz, h⟩ hi
      have hlt : i < 18 := (inv.ready_lt hi).1
      obtain rfl | rfl | rfl | rfl | rfl | rfl | rfl | rfl | rfl | rfl | rfl | rfl | rfl | rfl | rfl | rfl | rfl | rfl : i = 0 ∨ i = 1 ∨ i = 2 ∨ i = 3 ∨ i = 4 ∨ i = 5 ∨ i = 6 ∨ i = 7 ∨ i = 8 ∨ i = 9 ∨ i = 10 ∨ i = 11 ∨ i = 12 ∨ i = 13 ∨ i = 14 ∨ i = 15 ∨ i = 16 ∨ i = 17 := by omega
      · obtain ⟨hun, o, ho, hall⟩ := mem_ready.1 hi
        obtain rfl : _ = o := Option.some.inj ho
        have hoff : l.getD 0 false = false := inv.off l 0 hun
        have hup := inv.upd_eq l 0 hun
        refine wpOp_step rfl (fun K' hK => ?_)
        have HK := Lib.hid hK
        clear hK hall ho
        go_simp
        refine HK.out _ _ ⟨g, lo2, hi2, lo7, hi7, lo12, hi12, lo13, hi13, lo14, hi14, _, _, _, _, _, _, _, _, _, _, _, _, _, _, _, _, _, rfl, by simp [hsz], ?_⟩
        rw [hup]
        exact ⟨h.fb, h.fk, h.a2x16, h.a7x16, h.a12x16, h.a13x16, h.a14x16, fun _ => rfl, h.f1, fun _ => rfl, h.f2, h.d2x1, h.f3, h.f4, h.d4x3, h.f5, h.d5x4, h.f6, h.d6x5, h.f7, h.d7x6, h.f8, h.f9, h.d9x8, h.f10, h.d10x9, h.f11, h.d11x10, h.f12, h.d12x11, h.f13, h.d13x7, h.d13x12, h.f14, h.f15, h.d15x2, h.d15x13, h.d15x14, h.d17x15, h.d17x16, h.a2x7, h.a2x12, h.a2x13, h.a2x14, h.a7x12, h.a7x13, h.a7x14, h.a12x13, h.a12x14, h.a13x14⟩
      · obtain ⟨hun, o, ho, hall⟩ := mem_ready.1 hi
        obtain rfl : _ = o := Option.some.inj ho
        have hoff : l.getD 1 false = false := inv.off l 1 hun
        have hup := inv.upd_eq l 1 hun
        have d0 : l.getD 0 false = true := hall ⟨0, .data⟩ (by simp) (by decide)
        obtain rfl := h.f0 d0
        obtain ⟨c0, c1, c2, c3⟩ := three_cells (K1.out.below h.fb)
        refine wpOp_step rfl (fun K' hK => ?_)
        have HK := Lib.hid hK
        clear hK hall ho
        go_simp
        refine HK.out _ _ ⟨g, lo2, hi2, lo7, hi7, lo12, hi12, lo13, hi13, lo14, hi14, _, _, _, _, _, _, _, _, _, _, _, _, _, _, _, _, _, rfl, by simp [hsz], ?_⟩
        rw [hup]
        exact ⟨h.fb, h.fk, h.a2x16, h.a7x16, h.a12x16, h.a13x16, h.a14x16, h.f0, fun _ => rfl, fun _ => d0, h.f2, fun _ => rfl, h.f3, h.f4, h.d4x3, h.f5, h.d5x4, h.f6, h.d6x5, h.f7, h.d7x6, h.f8, h.f9, h.d9x8, h.f10, h.d10x9, h.f11, h.d11x10, h.f12, h.d12x11, h.f13, h.d13x7, h.d13x12, h.f14, h.f15, h.d15x2, h.d15x13, h.d15x14, h.d17x15, h.d17x16, h.a2x7, h.a2x12, h.a2x13, h.a2x14, h.a7x12, h.a7x13, h.a7x14, h.a12x13, h.a12x14, h.a13x14⟩
      · obtain ⟨hun, o, ho, hall⟩ := mem_ready.1 hi
        obtain rfl : _ = o := Option.some.inj ho
        have hoff : l.getD 2 false = false := inv.off l 2 hun
        have hup := inv.upd_eq l 2 hun
        have d1 : l.getD 1 false = true := hall ⟨1, .data⟩ (by simp) (by decide)
        obtain rfl := h.f1 d1
        have hns : ¬ l.getD 17 false = true := fun e => by have := (h.d15x2 (h.d17x15 e)); simp only [hoff] at this; cases this
        have hno : ¬ l.getD 2 false = true := fun e => by rw [hoff] at e; cases e
        refine wpOp_step rfl (fun K' hK => ?_)
        have HK := Lib.hid hK
        clear hK hall ho
        go_simp
        (go_at_call 79; (with_reducible refine (HO1.out _ h.fb).mono ?_); rintro e W' ⟨rv, rfl, hu, hb⟩)
        try go_simp
        refine HK.out _ _ ⟨g, W.heap.size, W'.heap.size, lo7, hi7, lo12, hi12, lo13, hi13, lo14, hi14, _, _, _, _, _, _, _, _, _, _, _, _, _, _, _, _, _, rfl, by simp [hsz], ?_⟩
        rw [hup]
        exact ⟨below_tr h.fb hb, fun hh => by have h1 := h.fk hh; have h2 := h1.2.2.2.below hb; have e : inv.upd (fun k => l.getD k false) 2 17 = l.getD 17 false := rfl; rw [if_neg hns] at h2; rw [e, if_neg hns]; exact ⟨h1.1, Nat.lt_of_lt_of_le h1.2.1 hb.size, h1.2.2.1, h2⟩, fun _ ha => .inl (h.fk ha).2.1, h.a7x16, h.a12x16, h.a13x16, h.a14x16, h.f0, h.f1, h.d1x0, fun _ => ⟨h.fb.size, hb.size, Nat.le_refl _, hu⟩, fun _ => d1, h.f3, h.f4, h.d4x3, h.f5, h.d5x4, h.f6, h.d6x5, fun hh => ⟨(h.f7 hh).1, (h.f7 hh).2.1, Nat.le_trans (h.f7 hh).2.2.1 hb.size, ((h.f7 hh).2.2.2).keep hb⟩, h.d7x6, h.f8, h.f9, h.d9x8, h.f10, h.d10x9, h.f11, h.d11x10, fun hh => ⟨(h.f12 hh).1, (h.f12 hh).2.1, Nat.le_trans (h.f12 hh).2.2.1 hb.size, ((h.f12 hh).2.2.2).keep hb⟩, h.d12x11, fun hh => ⟨(h.f13 hh).1, (h.f13 hh).2.1, Nat.le_trans (h.f13 hh).2.2.1 hb.size, ⟨((h.f13 hh).2.2.2).1, ((h.f13 hh).2.2.2).2.1, ((h.f13 hh).2.2.2).2.2.below hb⟩⟩, h.d13x7, h.d13x12, fun hh => ⟨(h.f14 hh).1, (h.f14 hh).2.1, Nat.le_trans (h.f14 hh).2.2.1 hb.size, ⟨((h.f14 hh).2.2.2).1, ((h.f14 hh).2.2.2).2.1, ((h.f14 hh).2.2.2).2.2.below hb⟩⟩, fun hh => absurd (h.d15x2 hh) hno, fun _ => rfl, h.d15x13, h.d15x14, h.d17x15, h.d17x16, fun _ ha => .inr (h.f7 ha).2.2.1, fun _ ha => .inr (h.f12 ha).2.2.1, fun _ ha => .inr (h.f13 ha).2.2.1, fun _ ha => .inr (h.f14 ha).2.2.1, h.a7x12, h.a7x13, h.a7x14, h.a12x13, h.a12x14, h.a13x14⟩
      · obtain ⟨hun, o, ho, hall⟩ := mem_ready.1 hi
        obtain rfl : _ = o := Option.some.inj ho
        have hoff : l.getD 3 false = false := inv.off l 3 hun
        have hup := inv.upd_eq l 3 hun
        refine wpOp_step rfl (fun K' hK => ?_)
        have HK := Lib.hid hK
        clear hK hall ho
        go_simp
        refine HK.out _ _ ⟨g, lo2, hi2, lo7, hi7, lo12, hi12, lo13, hi13, lo14, hi14, _, _, _, _, _, _, _, _, _, _, _, _, _, _, _, _, _, rfl, by simp [hsz], ?_⟩
        rw [hup]
        exact ⟨h.fb, h.fk, h.a2x16, h.a7x16, h.a12x16, h.a13x16, h.a14x16, h.f0, h.f1, h.d1x0, h.f2, h.d2x1, fun _ => rfl, h.f4, fun _ => rfl, h.f5, h.d5x4, h.f6, h.d6x5, h.f7, h.d7x6, h.f8, h.f9, h.d9x8, h.f10, h.d10x9, h.f11, h.d11x10, h.f12, h.d12x11, h.f13, h.d13x7, h.d13x12, h.f14, h.f15, h.d15x2, h.d15x13, h.d15x14, h.d17x15, h.d17x16, h.a2x7, h.a2x12, h.a2x13, h.a2x14, h.a7x12, h.a7x13, h.a7x14, h.a12x13, h.a12x14, h.a13x14⟩
      · obtain ⟨hun, o, ho, hall⟩ := mem_ready.1 hi
        obtain rfl : _ = o := Option.some.inj ho
        have hoff : l.getD 4 false = false := inv.off l 4 hun
        have hup := inv.upd_eq l 4 hun
        have d3 : l.getD 3 false = true := hall ⟨3, .data⟩ (by simp) (by decide)
        obtain rfl := h.f3 d3
        obtain ⟨c0, c1, c2, c3⟩ := three_cells (K1.out.below h.fb)
        refine wpOp_step rfl (fun K' hK => ?_)
        have HK := Lib.hid hK
        clear hK hall ho
        go_simp
        refine HK.out _ _ ⟨g, lo2, hi2, lo7, hi7, lo12, hi12, lo13, hi13, lo14, hi14, _, _, _, _, _, _, _, _, _, _, _, _, _, _, _, _, _, rfl, by simp [hsz], ?_⟩
        rw [hup]
        exact ⟨h.fb, h.fk, h.a2x16, h.a7x16, h.a12x16, h.a13x16, h.a14x16, h.f0, h.f1, h.d1x0, h.f2, h.d2x1, h.f3, fun _ => rfl, fun _ => d3, h.f5, fun _ => rfl, h.f6, h.d6x5, h.f7, h.d7x6, h.f8, h.f9, h.d9x8, h.f10, h.d10x9, h.f11, h.d11x10, h.f12, h.d12x11, h.f13, h.d13x7, h.d13x12, h.f14, h.f15, h.d15x2, h.d15x13, h.d15x14, h.d17x15, h.d17x16, h.a2x7, h.a2x12, h.a2x13, h.a2x14, h.a7x12, h.a7x13, h.a7x14, h.a12x13, h.a12x14, h.a13x14⟩
      · obtain ⟨hun, o, ho, hall⟩ := mem_ready.1 hi
        obtain rfl : _ = o := Option.some.inj ho
        have hoff : l.getD 5 false = false := inv.off l 5 hun
        have hup := inv.upd_eq l 5 hun
        have d4 : l.getD 4 false = true := hall ⟨4, .data⟩ (by simp) (by decide)
        obtain rfl := h.f4 d4
        refine wpOp_step rfl (fun K' hK => ?_)
        have HK := Lib.hid hK
        clear hK hall ho
        go_simp
        refine HK.out _ _ ⟨g, lo2, hi2, lo7, hi7, lo12, hi12, lo13, hi13, lo14, hi14, _, _, _, _, _, _, _, _, _, _, _, _, _, _, _, _, _, rfl, by simp [hsz], ?_⟩
        rw [hup]
        exact ⟨h.fb, h.fk, h.a2x16, h.a7x16, h.a12x16, h.a13x16, h.a14x16, h.f0, h.f1, h.d1x0, h.f2, h.d2x1, h.f3, h.f4, h.d4x3, fun _ => rfl, fun _ => d4, h.f6, fun _ => rfl, h.f7, h.d7x6, h.f8, h.f9, h.d9x8, h.f10, h.d10x9, h.f11, h.d11x10, h.f12, h.d12x11, h.f13, h.d13x7, h.d13x12, h.f14, h.f15, h.d15x2, h.d15x13, h.d15x14, h.d17x15, h.d17x16, h.a2x7, h.a2x12, h.a2x13, h.a2x14, h.a7x12, h.a7x13, h.a7x14, h.a12x13, h.a12x14, h.a13x14⟩
      · obtain ⟨hun, o, ho, hall⟩ := mem_ready.1 hi
        obtain rfl : _ = o := Option.some.inj ho
        have hoff : l.getD 6 false = false := inv.off l 6 hun
        have hup := inv.upd_eq l 6 hun
        have d5 : l.getD 5 false = true := hall ⟨5, .data⟩ (by simp) (by decide)
        obtain rfl := h.f5 d5
        have g0 := below_cell h.fb _ _ G0.out
        refine wpOp_step rfl (fun K' hK => ?_)
        have HK := Lib.hid hK
        clear hK hall ho
        go_simp
        refine HK.out _ _ ⟨g, lo2, hi2, lo7, hi7, lo12, hi12, lo13, hi13, lo14, hi14, _, _, _, _, _, _, _, _, _, _, _, _, _, _, _, _, _, rfl, by simp [hsz], ?_⟩
        rw [hup]
        exact ⟨h.fb, h.fk, h.a2x16, h.a7x16, h.a12x16, h.a13x16, h.a14x16, h.f0, h.f1, h.d1x0, h.f2, h.d2x1, h.f3, h.f4, h.d4x3, h.f5, h.d5x4, fun _ => rfl, fun _ => d5, h.f7, fun _ => rfl, h.f8, h.f9, h.d9x8, h.f10, h.d10x9, h.f11, h.d11x10, h.f12, h.d12x11, h.f13, h.d13x7, h.d13x12, h.f14, h.f15, h.d15x2, h.d15x13, h.d15x14, h.d17x15, h.d17x16, h.a2x7, h.a2x12, h.a2x13, h.a2x14, h.a7x12, h.a7x13, h.a7x14, h.a12x13, h.a12x14, h.a13x14⟩
      · obtain ⟨hun, o, ho, hall⟩ := mem_ready.1 hi
        obtain rfl : _ = o := Option.some.inj ho
        have hoff : l.getD 7 false = false := inv.off l 7 hun
        have hup := inv.upd_eq l 7 hun
        have d6 : l.getD 6 false = true := hall ⟨6, .data⟩ (by simp) (by decide)
        obtain rfl := h.f6 d6
        have hns : ¬ l.getD 17 false = true := fun e => by have := (h.d13x7 (h.d15x13 (h.d17x15 e))); simp only [hoff] at this; cases this
        have hno : ¬ l.getD 7 false = true := fun e => by rw [hoff] at e; cases e
        refine wpOp_step rfl (fun K' hK => ?_)
        have HK := Lib.hid hK
        clear hK hall ho
        go_simp
        (go_at_call 79; (with_reducible refine (HO2.out _ h.fb).mono ?_); rintro e W' ⟨rv, rfl, hu, hb⟩)
        try go_simp
        refine HK.out _ _ ⟨g, lo2, hi2, W.heap.size, W'.heap.size, lo12, hi12, lo13, hi13, lo14, hi14, _, _, _, _, _, _, _, _, _, _, _, _, _, _, _, _, _, rfl, by simp [hsz], ?_⟩
        rw [hup]
        exact ⟨below_tr h.fb hb, fun hh => by have h1 := h.fk hh; have h2 := h1.2.2.2.below hb; have e : inv.upd (fun k => l.getD k false) 7 17 = l.getD 17 false := rfl; rw [if_neg hns] at h2; rw [e, if_neg hns]; exact ⟨h1.1, Nat.lt_of_lt_of_le h1.2.1 hb.size, h1.2.2.1, h2⟩, h.a2x16, fun _ ha => .inl (h.fk ha).2.1, h.a12x16, h.a13x16, h.a14x16, h.f0, h.f1, h.d1x0, fun hh => ⟨(h.f2 hh).1, (h.f2 hh).2.1, Nat.le_trans (h.f2 hh).2.2.1 hb.size, ((h.f2 hh).2.2.2).keep hb⟩, h.d2x1, h.f3, h.f4, h.d4x3, h.f5, h.d5x4, h.f6, h.d6x5, fun _ => ⟨h.fb.size, hb.size, Nat.le_refl _, hu⟩, fun _ => d6, h.f8, h.f9, h.d9x8, h.f10, h.d10x9, h.f11, h.d11x10, fun hh => ⟨(h.f12 hh).1, (h.f12 hh).2.1, Nat.le_trans (h.f12 hh).2.2.1 hb.size, ((h.f12 hh).2.2.2).keep hb⟩, h.d12x11, fun hh => absurd (h.d13x7 hh) hno, fun _ => rfl, h.d13x12, fun hh => ⟨(h.f14 hh).1, (h.f14 hh).2.1, Nat.le_trans (h.f14 hh).2.2.1 hb.size, ⟨((h.f14 hh).2.2.2).1, ((h.f14 hh).2.2.2).2.1, ((h.f14 hh).2.2.2).2.2.below hb⟩⟩, h.f15, h.d15x2, h.d15x13, h.d15x14, h.d17x15, h.d17x16, fun ha _ => .inl (h.f2 ha).2.2.1, h.a2x12, h.a2x13, h.a2x14, fun _ ha => .inr (h.f12 ha).2.2.1, fun _ ha => .inr (h.f13 ha).2.2.1, fun _ ha => .inr (h.f14 ha).2.2.1, h.a12x13, h.a12x14, h.a13x14⟩
      · obtain ⟨hun, o, ho, hall⟩ := mem_ready.1 hi
        obtain rfl : _ = o := Option.some.inj ho
        have hoff : l.getD 8 false = false := inv.off l 8 hun
        have hup := inv.upd_eq l 8 hun
        refine wpOp_step rfl (fun K' hK => ?_)
        have HK := Lib.hid hK
        clear hK hall ho
        go_simp
        refine HK.out _ _ ⟨g, lo2, hi2, lo7, hi7, lo12, hi12, lo13, hi13, lo14, hi14, _, _, _, _, _, _, _, _, _, _, _, _, _, _, _, _, _, rfl, by simp [hsz], ?_⟩
        rw [hup]
        exact ⟨h.fb, h.fk, h.a2x16, h.a7x16, h.a12x16, h.a13x16, h.a14x16, h.f0, h.f1, h.d1x0, h.f2, h.d2x1, h.f3, h.f4, h.d4x3, h.f5, h.d5x4, h.f6, h.d6x5, h.f7, h.d7x6, fun _ => rfl, h.f9, fun _ => rfl, h.f10, h.d10x9, h.f11, h.d11x10, h.f12, h.d12x11, h.f13, h.d13x7, h.d13x12, h.f14, h.f15, h.d15x2, h.d15x13, h.d15x14, h.d17x15, h.d17x16, h.a2x7, h.a2x12, h.a2x13, h.a2x14, h.a7x12, h.a7x13, h.a7x14, h.a12x13, h.a12x14, h.a13x14⟩
      · obtain ⟨hun, o, ho, hall⟩ := mem_ready.1 hi
        obtain rfl : _ = o := Option.some.inj ho
        have hoff : l.getD 9 false = false := inv.off l 9 hun
        have hup := inv.upd_eq l 9 hun
        have d8 : l.getD 8 false = true := hall ⟨8, .data⟩ (by simp) (by decide)
        obtain rfl := h.f8 d8
        obtain ⟨c0, c1, c2, c3⟩ := three_cells (K1.out.below h.fb)
        refine wpOp_step rfl (fun K' hK => ?_)
        have HK := Lib.hid hK
        clear hK hall ho
        go_simp
        refine HK.out _ _ ⟨g, lo2, hi2, lo7, hi7, lo12, hi12, lo13, hi13, lo14, hi14, _, _, _, _, _, _, _, _, _, _, _, _, _, _, _, _, _, rfl, by simp [hsz], ?_⟩
        rw [hup]
        exact ⟨h.fb, h.fk, h.a2x16, h.a7x16, h.a12x16, h.a13x16, h.a14x16, h.f0, h.f1, h.d1x0, h.f2, h.d2x1, h.f3, h.f4, h.d4x3, h.f5, h.d5x4, h.f6, h.d6x5, h.f7, h.d7x6, h.f8, fun _ => rfl, fun _ => d8, h.f10, fun _ => rfl, h.f11, h.d11x10, h.f12, h.d12x11, h.f13, h.d13x7, h.d13x12, h.f14, h.f15, h.d15x2, h.d15x13, h.d15x14, h.d17x15, h.d17x16, h.a2x7, h.a2x12, h.a2x13, h.a2x14, h.a7x12, h.a7x13, h.a7x14, h.a12x13, h.a12x14, h.a13x14⟩
      · obtain ⟨hun, o, ho, hall⟩ := mem_ready.1 hi
        obtain rfl : _ = o := Option.some.inj ho
        have hoff : l.getD 10 false = false := inv.off l 10 hun
        have hup := inv.upd_eq l 10 hun
        have d9 : l.getD 9 false = true := hall ⟨9, .data⟩ (by simp) (by decide)
        obtain rfl := h.f9 d9
        refine wpOp_step rfl (fun K' hK => ?_)
        have HK := Lib.hid hK
        clear hK hall ho
        go_simp
        refine HK.out _ _ ⟨g, lo2, hi2, lo7, hi7, lo12, hi12, lo13, hi13, lo14, hi14, _, _, _, _, _, _, _, _, _, _, _, _, _, _, _, _, _, rfl, by simp [hsz], ?_⟩
        rw [hup]
        exact ⟨h.fb, h.fk, h.a2x16, h.a7x16, h.a12x16, h.a13x16, h.a14x16, h.f0, h.f1, h.d1x0, h.f2, h.d2x1, h.f3, h.f4, h.d4x3, h.f5, h.d5x4, h.f6, h.d6x5, h.f7, h.d7x6, h.f8, h.f9, h.d9x8, fun _ => rfl, fun _ => d9, h.f11, fun _ => rfl, h.f12, h.d12x11, h.f13, h.d13x7, h.d13x12, h.f14, h.f15, h.d15x2, h.d15x13, h.d15x14, h.d17x15, h.d17x16, h.a2x7, h.a2x12, h.a2x13, h.a2x14, h.a7x12, h.a7x13, h.a7x14, h.a12x13, h.a12x14, h.a13x14⟩
      · obtain ⟨hun, o, ho, hall⟩ := mem_ready.1 hi
        obtain rfl : _ = o := Option.some.inj ho
        have hoff : l.getD 11 false = false := inv.off l 11 hun
        have hup := inv.upd_eq l 11 hun
        have d10 : l.getD 10 false = true := hall ⟨10, .data⟩ (by simp) (by decide)
        obtain rfl := h.f10 d10
        have g1 := below_cell h.fb _ _ G1.out
        refine wpOp_step rfl (fun K' hK => ?_)
        have HK := Lib.hid hK
        clear hK hall ho
        go_simp
        refine HK.out _ _ ⟨g, lo2, hi2, lo7, hi7, lo12, hi12, lo13, hi13, lo14, hi14, _, _, _, _, _, _, _, _, _, _, _, _, _, _, _, _, _, rfl, by simp [hsz], ?_⟩
        rw [hup]
        exact ⟨h.fb, h.fk, h.a2x16, h.a7x16, h.a12x16, h.a13x16, h.a14x16, h.f0, h.f1, h.d1x0, h.f2, h.d2x1, h.f3, h.f4, h.d4x3, h.f5, h.d5x4, h.f6, h.d6x5, h.f7, h.d7x6, h.f8, h.f9, h.d9x8, h.f10, h.d10x9, fun _ => rfl, fun _ => d10, h.f12, fun _ => rfl, h.f13, h.d13x7, h.d13x12, h.f14, h.f15, h.d15x2, h.d15x13, h.d15x14, h.d17x15, h.d17x16, h.a2x7, h.a2x12, h.a2x13, h.a2x14, h.a7x12, h.a7x13, h.a7x14, h.a12x13, h.a12x14, h.a13x14⟩
      · obtain ⟨hun, o, ho, hall⟩ := mem_ready.1 hi
        obtain rfl : _ = o := Option.some.inj ho
        have hoff : l.getD 12 false = false := inv.off l 12 hun
        have hup := inv.upd_eq l 12 hun
        have d11 : l.getD 11 false = true := hall ⟨11, .data⟩ (by simp) (by decide)
        obtain rfl := h.f11 d11
        have hns : ¬ l.getD 17 false = true := fun e => by have := (h.d13x12 (h.d15x13 (h.d17x15 e))); simp only [hoff] at this; cases this
        have hno : ¬ l.getD 12 false = true := fun e => by rw [hoff] at e; cases e
        refine wpOp_step rfl (fun K' hK => ?_)
        have HK := Lib.hid hK
        clear hK hall ho
        go_simp
        (go_at_call 79; (with_reducible refine (HO3.out _ h.fb).mono ?_); rintro e W' ⟨rv, rfl, hu, hb⟩)
        try go_simp
        refine HK.out _ _ ⟨g, lo2, hi2, lo7, hi7, W.heap.size, W'.heap.size, lo13, hi13, lo14, hi14, _, _, _, _, _, _, _, _, _, _, _, _, _, _, _, _, _, rfl, by simp [hsz], ?_⟩
        rw [hup]
        exact ⟨below_tr h.fb hb, fun hh => by have h1 := h.fk hh; have h2 := h1.2.2.2.below hb; have e : inv.upd (fun k => l.getD k false) 12 17 = l.getD 17 false := rfl; rw [if_neg hns] at h2; rw [e, if_neg hns]; exact ⟨h1.1, Nat.lt_of_lt_of_le h1.2.1 hb.size, h1.2.2.1, h2⟩, h.a2x16, h.a7x16, fun _ ha => .inl (h.fk ha).2.1, h.a13x16, h.a14x16, h.f0, h.f1, h.d1x0, fun hh => ⟨(h.f2 hh).1, (h.f2 hh).2.1, Nat.le_trans (h.f2 hh).2.2.1 hb.size, ((h.f2 hh).2.2.2).keep hb⟩, h.d2x1, h.f3, h.f4, h.d4x3, h.f5, h.d5x4, h.f6, h.d6x5, fun hh => ⟨(h.f7 hh).1, (h.f7 hh).2.1, Nat.le_trans (h.f7 hh).2.2.1 hb.size, ((h.f7 hh).2.2.2).keep hb⟩, h.d7x6, h.f8, h.f9, h.d9x8, h.f10, h.d10x9, h.f11, h.d11x10, fun _ => ⟨h.fb.size, hb.size, Nat.le_refl _, hu⟩, fun _ => d11, fun hh => absurd (h.d13x12 hh) hno, h.d13x7, fun _ => rfl, fun hh => ⟨(h.f14 hh).1, (h.f14 hh).2.1, Nat.le_trans (h.f14 hh).2.2.1 hb.size, ⟨((h.f14 hh).2.2.2).1, ((h.f14 hh).2.2.2).2.1, ((h.f14 hh).2.2.2).2.2.below hb⟩⟩, h.f15, h.d15x2, h.d15x13, h.d15x14, h.d17x15, h.d17x16, h.a2x7, fun ha _ => .inl (h.f2 ha).2.2.1, h.a2x13, h.a2x14, fun ha _ => .inl (h.f7 ha).2.2.1, h.a7x13, h.a7x14, fun _ ha => .inr (h.f13 ha).2.2.1, fun _ ha => .inr (h.f14 ha).2.2.1, h.a13x14⟩
      · obtain ⟨hun, o, ho, hall⟩ := mem_ready.1 hi
        obtain rfl : _ = o := Option.some.inj ho
        have hoff : l.getD 13 false = false := inv.off l 13 hun
        have hup := inv.upd_eq l 13 hun
        have d7 : l.getD 7 false = true := hall ⟨7, .data⟩ (by simp) (by decide)
        have d12 : l.getD 12 false = true := hall ⟨12, .data⟩ (by simp) (by decide)
        have hns : ¬ l.getD 17 false = true := fun e => by have := (h.d15x13 (h.d17x15 e)); simp only [hoff] at this; cases this
        have hno : ¬ l.getD 13 false = true := fun e => by rw [hoff] at e; cases e
        have e7 := h.f7 d7
        obtain ⟨y7a, y7n, y7c, rfl⟩ := (e7.2.2.2).ints.shape
        have e12 := h.f12 d12
        obtain ⟨y12a, y12n, y12c, rfl⟩ := (e12.2.2.2).ints.shape
        have hb := below_al (Below.refl W.heap.size W) (.cells #[.slice y7a y7n y7c, .slice y12a y12n y12c] 22)
        have hnew := Blk.new W 22 #[.slice y7a y7n y7c, .slice y12a y12n y12c]
        refine wpOp_step rfl (fun K' hK => ?_)
        have HK := Lib.hid hK
        clear hK hall ho
        go_simp
        refine HK.out _ _ ⟨g, lo2, hi2, lo7, hi7, lo12, hi12, W.heap.size, W.heap.size + 1, lo14, hi14, _, _, _, _, _, _, _, _, _, _, _, _, _, _, _, _, _, rfl, by simp [hsz], ?_⟩
        rw [hup]
        exact ⟨below_tr h.fb hb, fun hh => by have h1 := h.fk hh; have h2 := h1.2.2.2.below hb; have e : inv.upd (fun k => l.getD k false) 13 17 = l.getD 17 false := rfl; rw [if_neg hns] at h2; rw [e, if_neg hns]; exact ⟨h1.1, Nat.lt_of_lt_of_le h1.2.1 hb.size, h1.2.2.1, h2⟩, h.a2x16, h.a7x16, h.a12x16, fun _ ha => .inl (h.fk ha).2.1, h.a14x16, h.f0, h.f1, h.d1x0, fun hh => ⟨(h.f2 hh).1, (h.f2 hh).2.1, Nat.le_trans (h.f2 hh).2.2.1 hb.size, ((h.f2 hh).2.2.2).keep hb⟩, h.d2x1, h.f3, h.f4, h.d4x3, h.f5, h.d5x4, h.f6, h.d6x5, fun hh => ⟨(h.f7 hh).1, (h.f7 hh).2.1, Nat.le_trans (h.f7 hh).2.2.1 hb.size, ((h.f7 hh).2.2.2).keep hb⟩, h.d7x6, h.f8, h.f9, h.d9x8, h.f10, h.d10x9, h.f11, h.d11x10, fun hh => ⟨(h.f12 hh).1, (h.f12 hh).2.1, Nat.le_trans (h.f12 hh).2.2.1 hb.size, ((h.f12 hh).2.2.2).keep hb⟩, h.d12x11, fun _ => ⟨h.fb.size, Nat.le_succ _, by simp, rfl, rfl, hnew⟩, fun _ => d7, fun _ => d12, fun hh => ⟨(h.f14 hh).1, (h.f14 hh).2.1, Nat.le_trans (h.f14 hh).2.2.1 hb.size, ⟨((h.f14 hh).2.2.2).1, ((h.f14 hh).2.2.2).2.1, ((h.f14 hh).2.2.2).2.2.below hb⟩⟩, fun hh => absurd (h.d15x13 hh) hno, h.d15x2, fun _ => rfl, h.d15x14, h.d17x15, h.d17x16, h.a2x7, h.a2x12, fun ha _ => .inl (h.f2 ha).2.2.1, h.a2x14, h.a7x12, fun ha _ => .inl (h.f7 ha).2.2.1, h.a7x14, fun ha _ => .inl (h.f12 ha).2.2.1, h.a12x14, fun _ ha => .inr (h.f14 ha).2.2.1⟩
      · obtain ⟨hun, o, ho, hall⟩ := mem_ready.1 hi
        obtain rfl : _ = o := Option.some.inj ho
        have hoff : l.getD 14 false = false := inv.off l 14 hun
        have hup := inv.upd_eq l 14 hun
        have hns : ¬ l.getD 17 false = true := fun e => by have := (h.d15x14 (h.d17x15 e)); simp only [hoff] at this; cases this
        have hno : ¬ l.getD 14 false = true := fun e => by rw [hoff] at e; cases e
        have hb := below_al (Below.refl W.heap.size W) (.cells #[] 22)
        have hnew := Blk.new W 22 #[]
        refine wpOp_step rfl (fun K' hK => ?_)
        have HK := Lib.hid hK
        clear hK hall ho
        go_simp
        refine HK.out _ _ ⟨g, lo2, hi2, lo7, hi7, lo12, hi12, lo13, hi13, W.heap.size, W.heap.size + 1, _, _, _, _, _, _, _, _, _, _, _, _, _, _, _, _, _, rfl, by simp [hsz], ?_⟩
        rw [hup]
        exact ⟨below_tr h.fb hb, fun hh => by have h1 := h.fk hh; have h2 := h1.2.2.2.below hb; have e : inv.upd (fun k => l.getD k false) 14 17 = l.getD 17 false := rfl; rw [if_neg hns] at h2; rw [e, if_neg hns]; exact ⟨h1.1, Nat.lt_of_lt_of_le h1.2.1 hb.size, h1.2.2.1, h2⟩, h.a2x16, h.a7x16, h.a12x16, h.a13x16, fun _ ha => .inl (h.fk ha).2.1, h.f0, h.f1, h.d1x0, fun hh => ⟨(h.f2 hh).1, (h.f2 hh).2.1, Nat.le_trans (h.f2 hh).2.2.1 hb.size, ((h.f2 hh).2.2.2).keep hb⟩, h.d2x1, h.f3, h.f4, h.d4x3, h.f5, h.d5x4, h.f6, h.d6x5, fun hh => ⟨(h.f7 hh).1, (h.f7 hh).2.1, Nat.le_trans (h.f7 hh).2.2.1 hb.size, ((h.f7 hh).2.2.2).keep hb⟩, h.d7x6, h.f8, h.f9, h.d9x8, h.f10, h.d10x9, h.f11, h.d11x10, fun hh => ⟨(h.f12 hh).1, (h.f12 hh).2.1, Nat.le_trans (h.f12 hh).2.2.1 hb.size, ((h.f12 hh).2.2.2).keep hb⟩, h.d12x11, fun hh => ⟨(h.f13 hh).1, (h.f13 hh).2.1, Nat.le_trans (h.f13 hh).2.2.1 hb.size, ⟨((h.f13 hh).2.2.2).1, ((h.f13 hh).2.2.2).2.1, ((h.f13 hh).2.2.2).2.2.below hb⟩⟩, h.d13x7, h.d13x12, fun _ => ⟨h.fb.size, Nat.le_succ _, by simp, rfl, rfl, hnew⟩, fun hh => absurd (h.d15x14 hh) hno, h.d15x2, h.d15x13, fun _ => rfl, h.d17x15, h.d17x16, h.a2x7, h.a2x12, h.a2x13, fun ha _ => .inl (h.f2 ha).2.2.1, h.a7x12, h.a7x13, fun ha _ => .inl (h.f7 ha).2.2.1, h.a12x13, fun ha _ => .inl (h.f12 ha).2.2.1, fun ha _ => .inl (h.f13 ha).2.2.1⟩
      · obtain ⟨hun, o, ho, hall⟩ := mem_ready.1 hi
        obtain rfl : _ = o := Option.some.inj ho
        have hoff : l.getD 15 false = false := inv.off l 15 hun
        have hup := inv.upd_eq l 15 hun
        have d2 : l.getD 2 false = true := hall ⟨2, .data⟩ (by simp) (by decide)
        have d13 : l.getD 13 false = true := hall ⟨13, .data⟩ (by simp) (by decide)
        have d14 : l.getD 14 false = true := hall ⟨14, .data⟩ (by simp) (by decide)
        have e2 := h.f2 d2
        obtain ⟨y2a, y2n, y2c, rfl⟩ := (e2.2.2.2).ints.shape
        clear e2
        obtain ⟨_, _, _, rfl, _, _⟩ := h.f13 d13
        obtain ⟨_, _, _, rfl, _, _⟩ := h.f14 d14
        refine wpOp_step rfl (fun K' hK => ?_)
        have HK := Lib.hid hK
        clear hK hall ho
        go_simp
        refine HK.out _ _ ⟨g, lo2, hi2, lo7, hi7, lo12, hi12, lo13, hi13, lo14, hi14, _, _, _, _, _, _, _, _, _, _, _, _, _, _, _, _, _, rfl, by simp [hsz], ?_⟩
        rw [hup]
        exact ⟨h.fb, h.fk, h.a2x16, h.a7x16, h.a12x16, h.a13x16, h.a14x16, h.f0, h.f1, h.d1x0, h.f2, h.d2x1, h.f3, h.f4, h.d4x3, h.f5, h.d5x4, h.f6, h.d6x5, h.f7, h.d7x6, h.f8, h.f9, h.d9x8, h.f10, h.d10x9, h.f11, h.d11x10, h.f12, h.d12x11, h.f13, h.d13x7, h.d13x12, h.f14, fun _ => rfl, fun _ => d2, fun _ => d13, fun _ => d14, fun _ => rfl, h.d17x16, h.a2x7, h.a2x12, h.a2x13, h.a2x14, h.a7x12, h.a7x13, h.a7x14, h.a12x13, h.a12x14, h.a13x14⟩
      · obtain ⟨hun, o, ho, hall⟩ := mem_ready.1 hi
        obtain rfl : _ = o := Option.some.inj ho
        have hoff : l.getD 16 false = false := inv.off l 16 hun
        have hup := inv.upd_eq l 16 hun
        have hns : ¬ l.getD 17 false = true := fun e => by have := h.d17x16 e; simp only [hoff] at this; cases this
        have hb := below_al (Below.refl W.heap.size W) (.cells #[.slice none 0 0, .slice none 0 0, .slice none 0 0] 28)
        have hnew := Blk.new W 28 #[.slice none 0 0, .slice none 0 0, .slice none 0 0]
        refine wpOp_step rfl (fun K' hK => ?_)
        have HK := Lib.hid hK
        clear hK hall ho
        go_simp
        refine HK.out _ _ ⟨W.heap.size, lo2, hi2, lo7, hi7, lo12, hi12, lo13, hi13, lo14, hi14, _, _, _, _, _, _, _, _, _, _, _, _, _, _, _, _, _, rfl, by simp [hsz], ?_⟩
        rw [hup]
        exact ⟨below_tr h.fb hb, fun _ => ⟨h.fb.size, by simp, rfl, by have e : inv.upd (fun k => l.getD k false) 16 17 = l.getD 17 false := rfl; rw [e, if_neg hns]; exact hnew⟩, fun ha _ => .inr (h.f2 ha).2.2.1, fun ha _ => .inr (h.f7 ha).2.2.1, fun ha _ => .inr (h.f12 ha).2.2.1, fun ha _ => .inr (h.f13 ha).2.2.1, fun ha _ => .inr (h.f14 ha).2.2.1, h.f0, h.f1, h.d1x0, fun hh => ⟨(h.f2 hh).1, (h.f2 hh).2.1, Nat.le_trans (h.f2 hh).2.2.1 hb.size, ((h.f2 hh).2.2.2).keep hb⟩, h.d2x1, h.f3, h.f4, h.d4x3, h.f5, h.d5x4, h.f6, h.d6x5, fun hh => ⟨(h.f7 hh).1, (h.f7 hh).2.1, Nat.le_trans (h.f7 hh).2.2.1 hb.size, ((h.f7 hh).2.2.2).keep hb⟩, h.d7x6, h.f8, h.f9, h.d9x8, h.f10, h.d10x9, h.f11, h.d11x10, fun hh => ⟨(h.f12 hh).1, (h.f12 hh).2.1, Nat.le_trans (h.f12 hh).2.2.1 hb.size, ((h.f12 hh).2.2.2).keep hb⟩, h.d12x11, fun hh => ⟨(h.f13 hh).1, (h.f13 hh).2.1, Nat.le_trans (h.f13 hh).2.2.1 hb.size, ⟨((h.f13 hh).2.2.2).1, ((h.f13 hh).2.2.2).2.1, ((h.f13 hh).2.2.2).2.2.below hb⟩⟩, h.d13x7, h.d13x12, fun hh => ⟨(h.f14 hh).1, (h.f14 hh).2.1, Nat.le_trans (h.f14 hh).2.2.1 hb.size, ⟨((h.f14 hh).2.2.2).1, ((h.f14 hh).2.2.2).2.1, ((h.f14 hh).2.2.2).2.2.below hb⟩⟩, h.f15, h.d15x2, h.d15x13, h.d15x14, h.d17x15, fun _ => rfl, h.a2x7, h.a2x12, h.a2x13, h.a2x14, h.a7x12, h.a7x13, h.a7x14, h.a12x13, h.a12x14, h.a13x14⟩
      · obtain ⟨hun, o, ho, hall⟩ := mem_ready.1 hi
        obtain rfl : _ = o := Option.some.inj ho
        have hoff : l.getD 17 false = false := inv.off l 17 hun
        have hup := inv.upd_eq l 17 hun
        have d15 : l.getD 15 false = true := hall ⟨15, .data⟩ (by simp) (by decide)
        have d16 : l.getD 16 false = true := hall ⟨16, .data⟩ (by simp) (by decide)
        obtain rfl := h.f15 d15
        obtain rfl := h.f0 (h.d1x0 (h.d2x1 (h.d15x2 d15)))
        obtain rfl := h.f1 (h.d2x1 (h.d15x2 d15))
        have e2 := Lib.hid (h.f2 (h.d15x2 d15))
        obtain rfl := h.f3 (h.d4x3 (h.d5x4 (h.d6x5 (h.d7x6 (h.d13x7 (h.d15x13 d15))))))
        obtain rfl := h.f4 (h.d5x4 (h.d6x5 (h.d7x6 (h.d13x7 (h.d15x13 d15)))))
        obtain rfl := h.f5 (h.d6x5 (h.d7x6 (h.d13x7 (h.d15x13 d15))))
        obtain rfl := h.f6 (h.d7x6 (h.d13x7 (h.d15x13 d15)))
        have e7 := Lib.hid (h.f7 (h.d13x7 (h.d15x13 d15)))
        obtain rfl := h.f8 (h.d9x8 (h.d10x9 (h.d11x10 (h.d12x11 (h.d13x12 (h.d15x13 d15))))))
        obtain rfl := h.f9 (h.d10x9 (h.d11x10 (h.d12x11 (h.d13x12 (h.d15x13 d15)))))
        obtain rfl := h.f10 (h.d11x10 (h.d12x11 (h.d13x12 (h.d15x13 d15))))
        obtain rfl := h.f11 (h.d12x11 (h.d13x12 (h.d15x13 d15)))
        have e12 := Lib.hid (h.f12 (h.d13x12 (h.d15x13 d15)))
        have e13 := Lib.hid (h.f13 (h.d15x13 d15))
        have e14 := Lib.hid (h.f14 (h.d15x14 d15))
        obtain ⟨y2a, y2n, y2c, rfl⟩ := (e2.out.2.2.2).ints.shape
        obtain ⟨_, _, _, rfl, _, _⟩ := h.f13 (h.d15x13 d15)
        obtain ⟨_, _, _, rfl, _, _⟩ := h.f14 (h.d15x14 d15)
        obtain ⟨hg1, hg2, rfl, hk⟩ := h.fk d16
        have q2 := (h.d15x2 d15)
        have q7 := (h.d13x7 (h.d15x13 d15))
        have q12 := (h.d13x12 (h.d15x13 d15))
        have q13 := (h.d15x13 d15)
        have q14 := (h.d15x14 d15)
        rw [hoff] at hk
        have hk : Blk W g 28 #[.slice none 0 0, .slice none 0 0, .slice none 0 0] := hk
        obtain ⟨c0, c1, c2, c3⟩ := scene.three_cells hk
        have rf : ∀ k, W.frozen? ⟨g, k, none⟩ = false := fun k => Joins.unfrozen_of_block hk k
        have hw := st3.set3_wrote W g (.slice y2a y2n y2c) (.slice (some ⟨lo13, 0, none⟩) 2 2) (.slice (some ⟨lo14, 0, none⟩) 0 0)
        refine wpOp_step rfl (fun K' hK => ?_)
        have HK := Lib.hid hK
        clear hK hall ho
        go_simp
        refine HK.out _ (st3.set3 W g (.slice y2a y2n y2c) (.slice (some ⟨lo13, 0, none⟩) 2 2) (.slice (some ⟨lo14, 0, none⟩) 0 0)) ⟨g, lo2, hi2, lo7, hi7, lo12, hi12, lo13, hi13, lo14, hi14, _, _, _, _, _, _, _, _, _, _, _, _, _, _, _, _, _, rfl, by simp [hsz], ?_⟩
        rw [hup]
        exact ⟨st3.set3_below (.slice y2a y2n y2c) (.slice (some ⟨lo13, 0, none⟩) 2 2) (.slice (some ⟨lo14, 0, none⟩) 0 0) hg1 h.fb, fun _ => ⟨hg1, by rw [hw.size]; exact hg2, rfl, st3.set3_same (.slice y2a y2n y2c) (.slice (some ⟨lo13, 0, none⟩) 2 2) (.slice (some ⟨lo14, 0, none⟩) 0 0) hk⟩, h.a2x16, h.a7x16, h.a12x16, h.a13x16, h.a14x16, h.f0, h.f1, h.d1x0, fun _ => ⟨e2.out.1, e2.out.2.1, by rw [hw.size]; exact e2.out.2.2.1, ((e2.out.2.2.2)).wrote hw (fun p hp => by have e1 : p.block = g := hp; have := e2.out.1; have := e2.out.2.1; have := h.a2x16 q2 d16; omega)⟩, h.d2x1, h.f3, h.f4, h.d4x3, h.f5, h.d5x4, h.f6, h.d6x5, fun _ => ⟨e7.out.1, e7.out.2.1, by rw [hw.size]; exact e7.out.2.2.1, ((e7.out.2.2.2)).wrote hw (fun p hp => by have e1 : p.block = g := hp; have := e7.out.1; have := e7.out.2.1; have := h.a7x16 q7 d16; omega)⟩, h.d7x6, h.f8, h.f9, h.d9x8, h.f10, h.d10x9, h.f11, h.d11x10, fun _ => ⟨e12.out.1, e12.out.2.1, by rw [hw.size]; exact e12.out.2.2.1, ((e12.out.2.2.2)).wrote hw (fun p hp => by have e1 : p.block = g := hp; have := e12.out.1; have := e12.out.2.1; have := h.a12x16 q12 d16; omega)⟩, h.d12x11, fun _ => ⟨e13.out.1, e13.out.2.1, by rw [hw.size]; exact e13.out.2.2.1, ⟨(e13.out.2.2.2).1, (e13.out.2.2.2).2.1, (e13.out.2.2.2).2.2.wrote hw (fun p hp => by have e1 : p.block = g := hp; have := e13.out.1; have := e13.out.2.1; have := h.a13x16 q13 d16; omega)⟩⟩, h.d13x7, h.d13x12, fun _ => ⟨e14.out.1, e14.out.2.1, by rw [hw.size]; exact e14.out.2.2.1, ⟨(e14.out.2.2.2).1, (e14.out.2.2.2).2.1, (e14.out.2.2.2).2.2.wrote hw (fun p hp => by have e1 : p.block = g := hp; have := e14.out.1; have := e14.out.2.1; have := h.a14x16 q14 d16; omega)⟩⟩, h.f15, h.d15x2, h.d15x13, h.d15x14, fun _ => d15, fun _ => d16, h.a2x7, h.a2x12, h.a2x13, h.a2x14, h.a7x12, h.a7x13, h.a7x14, h.a12x13, h.a12x14, h.a13x14⟩
    · rintro l a' W ⟨g, lo2, hi2, lo7, hi7, lo12, hi12, lo13, hi13, lo14, hi14, s12, s13, s14, s15, s16, s17, s18, s19, s20, s21, s22, s23, s24, s25, s26, s27, s4, rfl, hsz, h⟩ hr
      have hup : ∀ i, i < 18 → l.getD i false = true := inv.all_upm (by kernel_rfl) hsz hr
      obtain rfl := h.f0 (hup 0 (by omega))
      obtain rfl := h.f1 (hup 1 (by omega))
      obtain rfl := h.f3 (hup 3 (by omega))
      obtain rfl := h.f4 (hup 4 (by omega))
      obtain rfl := h.f5 (hup 5 (by omega))
      obtain rfl := h.f6 (hup 6 (by omega))
      obtain rfl := h.f8 (hup 8 (by omega))
      obtain rfl := h.f9 (hup 9 (by omega))
      obtain rfl := h.f10 (hup 10 (by omega))
      obtain rfl := h.f11 (hup 11 (by omega))
      obtain rfl := h.f15 (hup 15 (by omega))
      obtain ⟨hg1, hg2, rfl, hk⟩ := h.fk (hup 16 (by omega))
      rw [if_pos (hup 17 (by omega))] at hk
      have e2 := h.f2 (hup 2 (by omega))
      have e7 := h.f7 (hup 7 (by omega))
      have e12 := h.f12 (hup 12 (by omega))
      have e13 := h.f13 (hup 13 (by omega))
      have e14 := h.f14 (hup 14 (by omega))
      have x2x7 := h.a2x7 (hup 2 (by omega)) (hup 7 (by omega))
      have x2x12 := h.a2x12 (hup 2 (by omega)) (hup 12 (by omega))
      have x2x13 := h.a2x13 (hup 2 (by omega)) (hup 13 (by omega))
      have x2x14 := h.a2x14 (hup 2 (by omega)) (hup 14 (by omega))
      have x7x12 := h.a7x12 (hup 7 (by omega)) (hup 12 (by omega))
      have x7x13 := h.a7x13 (hup 7 (by omega)) (hup 13 (by omega))
      have x7x14 := h.a7x14 (hup 7 (by omega)) (hup 14 (by omega))
      have x12x13 := h.a12x13 (hup 12 (by omega)) (hup 13 (by omega))
      have x12x14 := h.a12x14 (hup 12 (by omega)) (hup 14 (by omega))
      have x13x14 := h.a13x14 (hup 13 (by omega)) (hup 14 (by omega))
      have x2 := h.a2x16 (hup 2 (by omega)) (hup 16 (by omega))
      have x7 := h.a7x16 (hup 7 (by omega)) (hup 16 (by omega))
      have x12 := h.a12x16 (hup 12 (by omega)) (hup 16 (by omega))
      have x13 := h.a13x16 (hup 13 (by omega)) (hup 16 (by omega))
      have x14 := h.a14x16 (hup 14 (by omega)) (hup 16 (by omega))
      have hfb := h.fb
      clear h hup hr hsz
      obtain ⟨n2, n2b, n2c, hF⟩ := e2
      obtain ⟨n7, n7b, n7c, hA⟩ := e7
      obtain ⟨n12, n12b, n12c, hB⟩ := e12
      obtain ⟨n13, n13b, n13c, rfl, n13d, hC⟩ := e13
      obtain ⟨n14, n14b, n14c, rfl, n14d, hD⟩ := e14
      obtain ⟨fa, fn, fc, rfl⟩ := hF.ints.shape
      obtain ⟨ta, tn, tc, rfl⟩ := hA.ints.shape
      obtain ⟨va, vn, vc, rfl⟩ := hB.ints.shape
      have hR1 := R1.out.lt
      have BF := Lib.hid (below_tr B1.out hfb)
      obtain ⟨Wz, hWz⟩ : ∃ Wz, Wz = W := ⟨_, rfl⟩
      have HPA : Hid (∀ W' : World, (∀ bb, w1.heap.size ≤ bb → bb < Wz.heap.size → bb ≠ lo14 → bb ≠ g → W'.heap[bb]? = Wz.heap[bb]?) → Ints W' (.slice fa fn fc) ss ∧ IRows W' (.slice (some ⟨lo13, 0, none⟩) 2 2) xss) := Lib.hid (fun W' hk => by
        rw [hWz] at hk
        refine ⟨pile.sl_heap hF.ints (fun p hp => hk _ (Nat.le_trans n2 (hF.ge p hp)) (Nat.lt_of_lt_of_le (hF.lt p hp) n2c) (by have a1 := hF.ge p hp; have a2 := hF.lt p hp; omega) (by have a1 := hF.ge p hp; have a2 := hF.lt p hp; omega)), ?_⟩
        rw [hxe]
        refine st3.rows_blk2 (t := 22) ((hk lo13 n13 hC.lt (by omega) (by omega)).trans hC) (pile.sl_heap hA.ints (fun p hp => hk _ (Nat.le_trans n7 (hA.ge p hp)) (Nat.lt_of_lt_of_le (hA.lt p hp) n7c) (by have a1 := hA.ge p hp; have a2 := hA.lt p hp; omega) (by have a1 := hA.ge p hp; have a2 := hA.lt p hp; omega)))
          (pile.sl_heap hB.ints (fun p hp => hk _ (Nat.le_trans n12 (hB.ge p hp)) (Nat.lt_of_lt_of_le (hB.lt p hp) n12c) (by have a1 := hB.ge p hp; have a2 := hB.lt p hp; omega) (by have a1 := hB.ge p hp; have a2 := hB.lt p hp; omega))))
      have KP0 : Hid (KP lo14 g Wz W (.slice (some ⟨lo14, 0, none⟩) 0 0)) := Lib.hid ⟨fun bb _ _ _ => by rw [hWz], fun bb hb => .inl (by simp [Value.ownBlock] at hb; omega), by rw [hWz]; exact Nat.le_refl _⟩
      have HW0 : Hid (bltr.Bl w W w.heap.size g (w.heap.size + 1) (.slice fa fn fc) (.slice (some ⟨lo13, 0, none⟩) 2 2) (0) W.heap.size (.slice (some ⟨lo14, 0, none⟩) 0 0) [] (fr yss)) := Lib.hid (by
        have hs := B1.out.size
        exact ⟨BF.out, Nat.le_refl _, ⟨by omega, by omega⟩, hk, R1.out.below hfb, ⟨rfl, .inr ⟨lo14, 0, #[], rfl, by omega, hD, Nat.le_refl _, Nat.zero_le _, rfl, rfl⟩⟩, fun r u hu => by simp at hu, BF.out.size, Nat.le_refl _⟩)
      have HKZ : Hid (Blk Wz w.heap.size 28 #[.slice ra0 rn0 rc0, .slice (some ⟨kb, ko, none⟩) 2 kc, .slice (some ⟨yb, yo, none⟩) 2 sc]) := Lib.hid (by rw [hWz]; exact K1.out.below hfb)
      have HNE : Hid (w.heap.size ≠ lo14 ∧ w.heap.size ≠ g ∧ g < Wz.heap.size ∧ w.heap.size + 1 < w1.heap.size ∧ w1.heap.size ≤ lo14 ∧ w1.heap.size ≤ g) := Lib.hid ⟨by omega, by omega, by rw [hWz]; exact hg2, hR1, n14, hg1⟩
      obtain ⟨c0, c1, c2, c3⟩ := three_cells hk
      clear hF hA hB hC hD hWz hfb hg1 hg2 hk n2 n2b n2c n7 n7b n7c n12 n12b n12c n13 n13b n13c n13d n14 n14b n14c n14d x2 x7 x12 x13 x14 x2x7 x2x12 x2x13 x2x14 x7x12 x7x13 x7x14 x12x13 x12x14 x13x14 hR1 HO1 HO2 HO3 K1 R1 BF G0 G1
      go_wp2_with fail
      clear c0 c1 c2 c3
      go_loopw [5, 6, 7] (fun i z6 z7 wr => ∃ x : Nat, x ≤ 2 ∧ i = .int .i64 x ∧ (∃ z, z6 = z) ∧ (∃ z, z7 = z) ∧ ∃ v vals m, Hid (bltr.Bl w wr w.heap.size g (w.heap.size + 1) (.slice fa fn fc) (.slice (some ⟨lo13, 0, none⟩) 2 2) (x) m (v) vals (fr yss)) ∧ Hid (KP lo14 g Wz wr (v))) (fun i _ _ _ => 2 - (intOf i).toNat)
      case atStart => exact ⟨0, by omega, rfl, ⟨_, rfl⟩, ⟨_, rfl⟩, _, _, _, HW0, KP0⟩
      case round =>
        clear HW0 KP0
        obtain ⟨x, hx, rfl, ⟨z6, rfl⟩, ⟨z7, rfl⟩, v, vals, m, hW, hP⟩ := hrel
        obtain ⟨wo, rfl⟩ : ∃ wo : World, wo = wr := ⟨_, rfl⟩
        by_cases hlt : x < 2
        · have hkz : (x : Int) < 2 := by omega
          obtain ⟨mm, hmm⟩ : ∃ mm, wo.heap.size = mm := ⟨_, rfl⟩
          have hq0 : Hid ((wo.alloc (.cells #[] 3)).ownsRow mm 3 1 (.slice (some ⟨wo.heap.size, 0, none⟩) 0 0) 0 (i64s ((fr yss x).take 0))) := Lib.hid (by
            rw [← hmm]
            have := World.ownsRow_made (base := wo.heap.size) (e := 3) (size := 1) wo #[] 0 (Nat.le_refl _) (Nat.zero_le _) rfl
            simpa [i64s] using this)
          have W1 : Hid (bltr.Bl w (wo.alloc (.cells #[] 3)) w.heap.size g (w.heap.size + 1) (.slice fa fn fc) (.slice (some ⟨lo13, 0, none⟩) 2 2) (x) mm (v) vals (fr yss)) := Lib.hid (by rw [← hmm]; exact hW.out.fresh.keep (below_al (Below.refl _ _) _))
          have P1 : Hid (KP lo14 g Wz (wo.alloc (.cells #[] 3)) (v)) := Lib.hid (hP.out.keep (below_al (Below.refl _ _) _))
          have HMM := Lib.hid (show Wz.heap.size ≤ mm from by rw [← hmm]; exact hP.out.2.2)
          clear hmm
          go_wp2_with fail
          go_loopw [6, 7] (fun q j wi => ∃ k : Nat, k ≤ 4 ∧ j = .int .i64 k ∧ Hid (wi.ownsRow mm 3 1 q k (i64s ((fr yss x).take k))) ∧ Hid (bltr.Bl w wi w.heap.size g (w.heap.size + 1) (.slice fa fn fc) (.slice (some ⟨lo13, 0, none⟩) 2 2) (x) mm (v) vals (fr yss)) ∧ Hid (KP lo14 g Wz wi (v))) (fun _ j _ => 4 - (intOf j).toNat)
          case atStart => exact ⟨0, by omega, rfl, hq0, W1, P1⟩
          case round =>
            clear hq0 W1 P1 hW hP
            obtain ⟨k, hk, rfl, hq, hW, hP⟩ := hrel
            obtain ⟨wi, rfl⟩ : ∃ wi : World, wi = wr := ⟨_, rfl⟩
            by_cases hlk : k < 4
            · have hkk : (k : Int) < 4 := by omega
              obtain ⟨yb', yo', yc', gy, hyk⟩ := HY.out x hlt
              obtain ⟨gz, bz0, bz1⟩ := hyk k hlk
              have hst := fr_step yss x hlk
              have KB : Blk wi w.heap.size 28 #[.slice ra0 rn0 rc0, .slice (some ⟨kb, ko, none⟩) 2 kc, .slice (some ⟨yb, yo, none⟩) 2 sc] := (hP.out.1 w.heap.size HKZ.out.lt HNE.out.1 HNE.out.2.1).trans HKZ.out
              obtain ⟨p0, p1, p2, p3⟩ := three_cells KB
              have f1 := below_cell hW.out.below _ _ gy
              have f2 := below_cell hW.out.below _ _ gz
              generalize pf yss (4 * x + k) = z at hst f2 bz0 bz1
              have kz : IntKind.i64.wrap (1 - z) = 1 - z := IntWalk.i64_in _ (by omega)
              have HST := Lib.hid hst
              have hge := hW.out.ge
              have hle := hW.out.le
              clear hst gy hyk gz KB
              go_wp2_with (at_builtin; go_must (refine wpList_append_own _ rfl (.tmp 37) (.tmp 47) 22 rfl mm 3 i0 (.int .i64 0) 1 8 Try.underlying22 hi hz0 hz1 hz2 rfl (by decide) _ _ _ rfl (hq.out.alloc _) ⟨wi.heap.size, 0, none⟩ 1 1 [.int .i64 (1 - z)] rfl rfl ?c1 ?c2 ?c3 ?c4 ?c5 ?_))
              try (case c1 => first | exact app.one_at _ _ _ | (have := app.one_at wi (.int .i64 (1 - z)) 3; simpa using this))
              case c2 => first | rfl | (intro u hu; simp at hu; subst hu; rfl)
              case c3 => unfold maxLen; omega
              case c4 => omega
              case c5 => first | omega | (simp; omega)
              intro v' w3 hown' hgrow _
              have HQA := Lib.hid (hq.out.alloc (.cells #[.int .i64 (1 - z)] 3))
              have W3 := Lib.hid ((hW.out.keep (below_al (Below.refl _ _) (.cells #[.int .i64 (1 - z)] 3))).inner HQA.out hgrow)
              have P3 : Hid (KP lo14 g Wz w3 (v)) := Lib.hid ((hP.out.keep (below_al (Below.refl _ _) (.cells #[.int .i64 (1 - z)] 3))).grown hgrow (fun bb h1 h2 => by have h3 := (HQA.out.lt bb h2).1; have h4 := HMM.out; omega))
              have Q3 : Hid (w3.ownsRow mm 3 1 v' (k + 1) (i64s ((fr yss x).take (k + 1)))) := Lib.hid (by rw [HST.out, ← app.i64s_snoc]; exact hown')
              obtain ⟨xa, xl, xc, rfl⟩ := make.shape hown'
              clear hown' hgrow hq hW hP HQA p0 p1 p2 p3 f1 f2
              go_wp2_with fail
              go_roundw
              case rel => exact ⟨k + 1, by omega, by go_num, Q3, W3, P3⟩
              case measure => simp [intOf]; omega
            · have hkk : ¬ (k : Int) < 4 := by omega
              have hk4 : k = 4 := by omega
              obtain ⟨qa, ql, qc, rfl⟩ := make.shape hq.out
              have Q4 : Hid (wi.ownsRow mm 3 1 (.slice qa ql qc) (fr yss x).length (i64s (fr yss x))) := Lib.hid (by
                have := hq.out
                rw [hk4] at this
                exact this)
              obtain ⟨f0, f1, f2, f3⟩ := three_cells hW.out.blk
              have f2' := fun (o1 : Obj) => below_cell (below_al (Below.refl _ _) o1) _ _ f2
              have hsz := hW.out.below.size
              have hle := hW.out.le
              have hge := hW.out.ge
              have hbz := hW.out.blk.lt
              clear hk4 hq
              go_wp2_with (at_builtin; go_must (refine boxl.app_lies rfl (.tmp 50) (.tmp 52) 23 rfl w.heap.size 22 s0 (.slice none 0 0) 1 24 Try.underlying23 si sz0 sz1 sz2 rfl (by decide) _ _ _ rfl ((hW.out.owns).alloc _) ⟨wi.heap.size, 0, none⟩ 1 1 [.slice qa ql qc] rfl rfl ?d1 ?d2 ?d3 ?d4 ?d5 (by omega) ?_))
              try (case d1 => first | exact app.one_at _ _ _ | (have := app.one_at wi (.slice qa ql qc) 22; simpa using this))
              case d2 => first | rfl | (intro u hu; simp at hu; subst hu; rfl) | simp
              case d3 => unfold maxLen; omega
              case d4 => omega
              case d5 => first | omega | (simp; omega)
              intro v' w3 hown' hgrow hlies
              have HGB := Lib.hid (hW.out.keep (below_al (Below.refl _ _) (.cells #[.slice qa ql qc] 22)))
              obtain ⟨e1', e2'⟩ := HGB.out.field hgrow
              have W4' := Lib.hid (HGB.out.grow (Q4.out.alloc (.cells #[.slice qa ql qc] 22)) (by omega) hown' hgrow)
              have P4 : Hid (KP lo14 g Wz (w3.setCell ⟨g, 2, none⟩ v') (v')) := Lib.hid ((hP.out.keep (below_al (Below.refl _ _) (.cells #[.slice qa ql qc] 22))).outer hgrow hlies (by have := hP.out.2.2; simp; omega))
              obtain ⟨xa, xl, xc, rfl⟩ := make.shape hown'
              clear hown' hgrow hlies hW hP HGB Q4 f0 f1 f2 f3 f2'
              go_wp2_with fail
              go_roundw
              case rel => exact ⟨x + 1, by omega, by go_num, ⟨_, rfl⟩, ⟨_, rfl⟩, _, _, _, W4', P4⟩
              case measure => simp [intOf]; omega
        · have hkz : ¬ (x : Int) < 2 := by omega
          obtain rfl : x = 2 := by omega
          obtain ⟨xa, xl, xc, rfl⟩ := make.shape hW.out.owns
          obtain ⟨f0, f1, f2, f3⟩ := three_cells hW.out.blk
          obtain ⟨r0', r1', r2', r3'⟩ := three_cells hW.out.res
          have rf : ∀ k, wo.frozen? ⟨w.heap.size + 1, k, none⟩ = false := fun k => Joins.unfrozen_of_block hW.out.res k
          have HW := hW
          have HPP := hP
          clear hW hP
          go_wp2_with fail
          refine bodyPost_ret (v := .tuple #[.agg #[.slice fa fn fc, .slice (some ⟨lo13, 0, none⟩) 2 2, .slice xa xl xc], .bool true]) (by simp [results, Try.results29, go_sem, r0', r1', r2']) rfl ?_
          rw [← hxe, HE.out]
          have hwr : ∀ a b c : Value, Wrote (fun p => p.block = w.heap.size + 1) wo (((wo.setCell ⟨w.heap.size + 1, 0, none⟩ a).setCell ⟨w.heap.size + 1, 1, none⟩ b).setCell ⟨w.heap.size + 1, 2, none⟩ c) := fun a b c => Wrote.setCell (S := fun p => p.block = w.heap.size + 1) (Wrote.setCell (S := fun p => p.block = w.heap.size + 1) (Wrote.setCell (S := fun p => p.block = w.heap.size + 1) (Wrote.refl _ _) rfl _) rfl _) rfl _
          refine ⟨_, _, _, rfl, ?_, ?_⟩
          · obtain ⟨q1, q2⟩ := HPA.out _ (fun bb h1 h2 h3 h4 => ((hwr (.slice fa fn fc) (.slice (some ⟨lo13, 0, none⟩) 2 2) (.slice xa xl xc)).block bb (fun p hp => by have e1 : p.block = w.heap.size + 1 := hp; have := HNE.out; omega)).trans (HPP.out.1 bb h2 h3 h4))
            exact ⟨q1, q2, by have := HW.out.kept (hwr (.slice fa fn fc) (.slice (some ⟨lo13, 0, none⟩) 2 2) (.slice xa xl xc)); rw [fr_rows] at this; exact this⟩
          · repeat (refine Below.setCell ?_ (by simp <;> omega) _)
            exact HW.out.below
  · simp only [ruleB_no g0] at I0
    have H0 := Lib.hid I0
    have HE := Lib.hid (res_no g0)
    obtain ⟨ra, rn, rc, ka, kn, kc, sa, sn, sc, rfl, rfl, rfl⟩ := h.shape
    have B0 := Lib.hid (below_al (below_al (Below.refl w.heap.size w) (.cells #[.slice ra rn rc, .slice ka kn kc, .slice sa sn sc] 28)) (.cells #[.slice none 0 0, .slice none 0 0, .slice none 0 0] 28))
    have K0 := Lib.hid ((Blk.new w 28 #[.slice ra rn rc, .slice ka kn kc, .slice sa sn sc]).alloc (.cells #[.slice none 0 0, .slice none 0 0, .slice none 0 0] 28))
    have R0 : Hid (Blk ((w.alloc (.cells #[.slice ra rn rc, .slice ka kn kc, .slice sa sn sc] 28)).alloc (.cells #[.slice none 0 0, .slice none 0 0, .slice none 0 0] 28)) (w.heap.size + 1) 28 #[.slice none 0 0, .slice none 0 0, .slice none 0 0]) := Lib.hid (by have := Blk.new (w.alloc (.cells #[.slice ra rn rc, .slice ka kn kc, .slice sa sn sc] 28)) 28 #[.slice none 0 0, .slice none 0 0, .slice none 0 0]; simpa using this)
    clear I0 g0 h HV
    obtain ⟨c0, c1, c2, c3⟩ := three_cells K0.out
    go_enter Try.func29, Try.ntmps29
    go_wp2_with fail
    refine (H0.out _ B0.out).mono ?_
    rintro e w1 ⟨rfl, hb⟩
    have B1 := Lib.hid (below_tr B0.out hb)
    have R1 := Lib.hid (R0.out.below hb)
    clear hb H0 c0 c1 c2 c3
    obtain ⟨r0, r1, r2, r3⟩ := three_cells R1.out
    have rf : ∀ k, w1.frozen? ⟨w.heap.size + 1, k, none⟩ = false := fun k => Joins.unfrozen_of_block R1.out k
    go_wp2_with fail
    refine bodyPost_ret (v := .tuple #[.agg #[.slice none 0 0, .slice none 0 0, .slice none 0 0], .bool false]) (by simp [results, Try.results29, go_sem, r0, r1, r2]) rfl ?_
    rw [HE.out]
    refine ⟨_, _, _, rfl, ⟨Ints.nil _, (OwnRows.nil _ 0 0).rows, (OwnRows.nil _ 0 0).rows⟩, ?_⟩
    repeat (first | (with_reducible exact B1.out) | refine Below.setCell ?_ (by simp <;> omega) _)


end Go.Proofs.Ytneonebgneonkaa.flr
