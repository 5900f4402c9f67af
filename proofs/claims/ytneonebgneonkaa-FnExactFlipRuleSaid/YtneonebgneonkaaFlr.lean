/- FlipRule of the program. -/
import Derived.Test.YtneonebgneonkaaRul
import Derived.Test.YtneonebgneonkaaStr
import Derived.Test.YtneonebgneonkaaTob
import Derived.Test.YtneonebgneonkaaInv
import Derived.Test.YtneonebgneonkaaLst
import Derived.Test.YtneonebgneonkaaUpd
import Derived.Test.YtneonebgneonkaaNam
namespace Go.Proofs.Ytneonebgneonkaa.flr
open Go.RowKit Go.Deep Go.Proofs.Ytneonebgneonkaa.base
open Go.Proofs.Ytneonebgneonkaa.ints (ret_int)
open Go.Proofs.Ytneonebgneonkaa.play (within)
open Go.Proofs.Ytneonebgneonkaa.wrm (rule ruleB ruleB_yes ruleB_no tab tab_get)
open Go.Proofs.Ytneonebgneonkaa.scene (three_cells)
open Go.Proofs.Ytneonebgneonkaa.rule (RV OR)
open Go.Proofs.Ytneonebgneonkaa.upd (rw8 pf)
open Go.Proofs.Ytneonebgneonkaa.rby (RR)

open Classical in
noncomputable def res (ss : List Int) (xss yss : List (List Int)) : RR := if rule ss xss yss then ⟨ss, xss, rw8 (pf yss) 8, true⟩ else RR.zero
theorem res_yes {ss : List Int} {xss yss : List (List Int)} (h : rule ss xss yss) : res ss xss yss = ⟨ss, xss, rw8 (pf yss) 8, true⟩ := if_pos h
theorem res_no {ss : List Int} {xss yss : List (List Int)} (h : ¬ rule ss xss yss) : res ss xss yss = RR.zero := if_neg h
theorem tot_tab {n : Nat} (hn : n ≤ 4) {xss : List (List Int)} (h : tab n xss) : rws.total xss ≤ 1048576 := by
  obtain ⟨h1, h2, h3⟩ := h
  match xss, h1 with
  | [a, b], _ =>
    have ha := h2.1
    have hb := h3.1
    simp at ha hb
    simp [rws.total]
    omega
theorem lens (ss : List Int) (xss yss : List (List Int)) : (res ss xss yss).f.length ≤ 1048576 ∧ rws.total (res ss xss yss).k ≤ 1048576 ∧ rws.total (res ss xss yss).s ≤ 1048576 := by
  by_cases h : rule ss xss yss
  · rw [res_yes h]
    exact ⟨by have := h.1.1; show ss.length ≤ _; omega, tot_tab (n := 2) (by omega) h.2.1, show rws.total (rw8 (pf yss) 8) ≤ _ by simp [rws.total, rw8]⟩
  · rw [res_no h]; exact ⟨by decide, by decide, by decide⟩

/-- what holds while the operations of the region come up, in whatever order -/
structure JF (b : World) (p : Nat) (ra ka sa : Option Addr) (rn rc kn kc sn sc : Nat) (ss : List Int) (xss yss : List (List Int)) (L : Nat → Bool) (g lo2 hi2 lo5 hi5 lo8 hi8 : Nat) (s12 s13 s14 s15 s16 s17 s18 s19 s20 s21 s4 : Value) (W : World) : Prop where
  fb : Below b.heap.size b W
  fk : L 10 = true → b.heap.size ≤ g ∧ g < W.heap.size ∧ s4 = .pointer (some ⟨g, 0, none⟩) ∧ Blk W g 28 (if L 11 = true then #[s14, s17, s20] else #[.slice none 0 0, .slice none 0 0, .slice none 0 0])
  a2x10 : L 2 = true → L 10 = true → g < lo2 ∨ hi2 ≤ g
  a5x10 : L 5 = true → L 10 = true → g < lo5 ∨ hi5 ≤ g
  a8x10 : L 8 = true → L 10 = true → g < lo8 ∨ hi8 ≤ g
  f0 : L 0 = true → s12 = .pointer (some ⟨p, 0, none⟩)
  f1 : L 1 = true → s13 = .slice ra rn rc
  d1x0 : L 1 = true → L 0 = true
  f2 : L 2 = true → b.heap.size ≤ lo2 ∧ lo2 ≤ hi2 ∧ hi2 ≤ W.heap.size ∧ OwnInts W lo2 hi2 s14 ss
  d2x1 : L 2 = true → L 1 = true
  f3 : L 3 = true → s15 = .pointer (some ⟨p, 1, none⟩)
  f4 : L 4 = true → s16 = .slice ka kn kc
  d4x3 : L 4 = true → L 3 = true
  f5 : L 5 = true → b.heap.size ≤ lo5 ∧ lo5 ≤ hi5 ∧ hi5 ≤ W.heap.size ∧ OwnRows W lo5 hi5 s17 xss
  d5x4 : L 5 = true → L 4 = true
  f6 : L 6 = true → s18 = .pointer (some ⟨p, 2, none⟩)
  f7 : L 7 = true → s19 = .slice sa sn sc
  d7x6 : L 7 = true → L 6 = true
  f8 : L 8 = true → b.heap.size ≤ lo8 ∧ lo8 ≤ hi8 ∧ hi8 ≤ W.heap.size ∧ OwnRows W lo8 hi8 s20 yss
  d8x7 : L 8 = true → L 7 = true
  f9 : L 9 = true → s21 = .agg #[s14, s17, s20]
  d9x2 : L 9 = true → L 2 = true
  d9x5 : L 9 = true → L 5 = true
  d9x8 : L 9 = true → L 8 = true
  d11x9 : L 11 = true → L 9 = true
  d11x10 : L 11 = true → L 10 = true
  a2x5 : L 2 = true → L 5 = true → hi2 ≤ lo5 ∨ hi5 ≤ lo2
  a2x8 : L 2 = true → L 8 = true → hi2 ≤ lo8 ∨ hi8 ≤ lo2
  a5x8 : L 5 = true → L 8 = true → hi5 ≤ lo8 ∨ hi8 ≤ lo5


set_option maxRecDepth 100000 in
set_option maxHeartbeats 8000000 in
theorem impl_any (sv : Value) (ss : List Int) (u : Value) (xss : List (List Int)) (nv : Value) (yss : List (List Int)) (w : World) (h : RV w sv ss u xss nv yss) :
    Calls Try.prog 30 #[.agg #[sv, u, nv]] w fun e w' => ∃ sv u nv, e = .returned (.tuple #[.agg #[sv, u, nv], .bool (res ss xss yss).ok]) ∧ OR w' w.heap.size w'.heap.size sv (res ss xss yss).f u (res ss xss yss).k nv (res ss xss yss).s ∧ Below w.heap.size w w' := by
  have HV := Lib.hid h
  obtain ⟨ra, rn, rc, ka, kn, kc, sa, sn, sc, rfl, rfl, rfl⟩ := h.shape
  have B0 := Lib.hid (below_al (below_al (Below.refl w.heap.size w) (.cells #[.slice ra rn rc, .slice ka kn kc, .slice sa sn sc] 28)) (.cells #[.slice none 0 0, .slice none 0 0, .slice none 0 0] 28))
  have K0 := Lib.hid ((Blk.new w 28 #[.slice ra rn rc, .slice ka kn kc, .slice sa sn sc]).alloc (.cells #[.slice none 0 0, .slice none 0 0, .slice none 0 0] 28))
  have R0 : Hid (Blk ((w.alloc (.cells #[.slice ra rn rc, .slice ka kn kc, .slice sa sn sc] 28)).alloc (.cells #[.slice none 0 0, .slice none 0 0, .slice none 0 0] 28)) (w.heap.size + 1) 28 #[.slice none 0 0, .slice none 0 0, .slice none 0 0]) := Lib.hid (by have := Blk.new (w.alloc (.cells #[.slice ra rn rc, .slice ka kn kc, .slice sa sn sc] 28)) 28 #[.slice none 0 0, .slice none 0 0, .slice none 0 0]; simpa using this)
  have I0 := rul.impl_is _ ss _ xss _ yss _ (h.below B0.out)
  clear h
  by_cases g0 : rule ss xss yss
  · rw [ruleB_yes g0] at I0
    have H0 := Lib.hid I0
    have HE := Lib.hid (res_yes g0)
    have HG := Lib.hid g0
    have hZ := Lib.hid (upd.rw8_zero g0.2.2)
    have HBIT := Lib.hid (fun (r k : Nat) (hr : r < 2) (hk : k < 4) => show 0 ≤ pf yss (4 * r + k) ∧ pf yss (4 * r + k) ≤ 1 from by
      obtain ⟨_, _, hw⟩ := tab_get (n := 4) g0.2.2 hr
      obtain ⟨h1, h2, h3⟩ := wrm.get_bit hw hk
      unfold pf
      rw [show (4 * r + k) / 4 = r by omega, show (4 * r + k) % 4 = k by omega]
      have e : (yss.getD r []).getD k 0 = (yss.getD r [])[k] := by rw [List.getD_eq_getElem?_getD, List.getElem?_eq_getElem h1, Option.getD_some]
      rw [e]
      exact hw.2 k h1)
    clear I0 g0
    obtain ⟨c0, c1, c2, c3⟩ := three_cells K0.out
    go_enter Try.func30, Try.ntmps30
    go_wp2_with fail
    refine H0.out.mono ?_
    rintro e w1 ⟨rfl, hb⟩
    have B1 := Lib.hid (below_tr B0.out hb)
    have K1 := Lib.hid (K0.out.below hb)
    have R1 := Lib.hid (R0.out.below hb)
    clear hb H0 c0 c1 c2 c3 K0 R0 B0
    have HCL := Lib.hid (fun (W : World) (hb : Below w1.heap.size w1 W) => lst.clone_any _ ss W (HV.out.ints.below (below_tr B1.out hb)) (by have := HG.out.1.1; omega))
    have HTA := Lib.hid (fun (W : World) (hb : Below w1.heap.size w1 W) => tab.tableOf _ xss 2 2 W (HV.out.rows.below (below_tr B1.out hb)) HG.out.2.1.1 (by omega) (by omega) (fun r hr => by obtain ⟨_, _, hw⟩ := tab_get (n := 2) HG.out.2.1 hr; have := hw.1; omega))
    have HTS := Lib.hid (fun (W : World) (hb : Below w1.heap.size w1 W) => tab.tableOf _ yss 2 4 W (HV.out.rows2.below (below_tr B1.out hb)) HG.out.2.2.1 (by omega) (by omega) (fun r hr => by obtain ⟨_, _, hw⟩ := tab_get (n := 4) HG.out.2.2 hr; have := hw.1; omega))
    go_wp2_with fail
    refine inv.start (by kernel_rfl) (fun l a' W => ∃ (g lo2 hi2 lo5 hi5 lo8 hi8 : Nat) (s12 s13 s14 s15 s16 s17 s18 s19 s20 s21 s4 : Value), a' = { tmps := #[.agg #[.slice ra rn rc, .slice ka kn kc, .slice sa sn sc], .pointer (some ⟨w.heap.size, 0, none⟩), .pointer (some ⟨w.heap.size + 1, 0, none⟩), .bool false, s4, undef, undef, undef, .agg #[.slice ra rn rc, .slice ka kn kc, .slice sa sn sc], .bool true, .bool false, undef, s12, s13, s14, s15, s16, s17, s18, s19, s20, s21, undef, undef, undef, undef, undef, undef, undef, undef, undef, undef, undef, undef, undef, undef, undef, undef, undef, undef, undef, undef, undef, undef, undef], defers := [] } ∧ l.size = 12 ∧ JF w1 w.heap.size ra ka sa rn rc kn kc sn sc ss xss yss (fun k => l.getD k false) g lo2 hi2 lo5 hi5 lo8 hi8 s12 s13 s14 s15 s16 s17 s18 s19 s20 s21 s4 W) ?_ ?_ ?_
    · refine ⟨0, 0, 0, 0, 0, 0, 0, _, _, _, _, _, _, _, _, _, _, _, rfl, by simp, ?_⟩
      exact ⟨below_dr (Below.refl _ _), fun h => by simp at h, fun h => by simp at h, fun h => by simp at h, fun h => by simp at h, fun h => by simp at h, fun h => by simp at h, fun h => by simp at h, fun h => by simp at h, fun h => by simp at h, fun h => by simp at h, fun h => by simp at h, fun h => by simp at h, fun h => by simp at h, fun h => by simp at h, fun h => by simp at h, fun h => by simp at h, fun h => by simp at h, fun h => by simp at h, fun h => by simp at h, fun h => by simp at h, fun h => by simp at h, fun h => by simp at h, fun h => by simp at h, fun h => by simp at h, fun h => by simp at h, fun h => by simp at h, fun h => by simp at h, fun h => by simp at h⟩
    · rintro l a' W i ⟨g, lo2, hi2, lo5, hi5, lo8, hi8, s12, s13, s14, s15, s16, s17, s18, s19, s20, s21, s4, rfl, hsz, h⟩ hi
      have hlt : i < 12 := (inv.ready_lt hi).1
      obtain rfl | rfl | rfl | rfl | rfl | rfl | rfl | rfl | rfl | rfl | rfl | rfl : i = 0 ∨ i = 1 ∨ i = 2 ∨ i = 3 ∨ i = 4 ∨ i = 5 ∨ i = 6 ∨ i = 7 ∨ i = 8 ∨ i = 9 ∨ i = 10 ∨ i = 11 := by omega
      · obtain ⟨hun, o, ho, hall⟩ := mem_ready.1 hi
        obtain rfl : _ = o := Option.some.inj ho
        have hoff : l.getD 0 false = false := inv.off l 0 hun
        have hup := inv.upd_eq l 0 hun
        refine wpOp_step rfl (fun K' hK => ?_)
        have HK := Lib.hid hK
        clear hK hall ho
        go_simp
        refine HK.out _ _ ⟨g, lo2, hi2, lo5, hi5, lo8, hi8, _, _, _, _, _, _, _, _, _, _, _, rfl, by simp [hsz], ?_⟩
        rw [hup]
        exact ⟨h.fb, h.fk, h.a2x10, h.a5x10, h.a8x10, fun _ => rfl, h.f1, fun _ => rfl, h.f2, h.d2x1, h.f3, h.f4, h.d4x3, h.f5, h.d5x4, h.f6, h.f7, h.d7x6, h.f8, h.d8x7, h.f9, h.d9x2, h.d9x5, h.d9x8, h.d11x9, h.d11x10, h.a2x5, h.a2x8, h.a5x8⟩
      · obtain ⟨hun, o, ho, hall⟩ := mem_ready.1 hi
        obtain rfl : _ = o := Option.some.inj ho
        have hoff : l.getD 1 false = false := inv.off l 1 hun
        have hup := inv.upd_eq l 1 hun
        have d0 : l.getD 0 false = true := hall ⟨0, .data⟩ (by simp) (by decide)
        obtain rfl := h.f0 d0
        obtain ⟨c0, c1, c2, c3⟩ := three_cells (K1.out.below h.fb)
        refine wpOp_step rfl (fun K' hK => ?_)
        have HK := Lib.hid hK
        clear hK hall ho
        go_simp
        refine HK.out _ _ ⟨g, lo2, hi2, lo5, hi5, lo8, hi8, _, _, _, _, _, _, _, _, _, _, _, rfl, by simp [hsz], ?_⟩
        rw [hup]
        exact ⟨h.fb, h.fk, h.a2x10, h.a5x10, h.a8x10, h.f0, fun _ => rfl, fun _ => d0, h.f2, fun _ => rfl, h.f3, h.f4, h.d4x3, h.f5, h.d5x4, h.f6, h.f7, h.d7x6, h.f8, h.d8x7, h.f9, h.d9x2, h.d9x5, h.d9x8, h.d11x9, h.d11x10, h.a2x5, h.a2x8, h.a5x8⟩
      · obtain ⟨hun, o, ho, hall⟩ := mem_ready.1 hi
        obtain rfl : _ = o := Option.some.inj ho
        have hoff : l.getD 2 false = false := inv.off l 2 hun
        have hup := inv.upd_eq l 2 hun
        have d1 : l.getD 1 false = true := hall ⟨1, .data⟩ (by simp) (by decide)
        obtain rfl := h.f1 d1
        have hns : ¬ l.getD 11 false = true := fun e => by have := (h.d9x2 (h.d11x9 e)); simp only [hoff] at this; cases this
        have hno : ¬ l.getD 2 false = true := fun e => by rw [hoff] at e; cases e
        refine wpOp_step rfl (fun K' hK => ?_)
        have HK := Lib.hid hK
        clear hK hall ho
        go_simp
        (go_at_call 80; (with_reducible refine (HCL.out _ h.fb).mono ?_); rintro e W' ⟨rv, rfl, hu, hb⟩)
        try go_simp
        refine HK.out _ _ ⟨g, W.heap.size, W'.heap.size, lo5, hi5, lo8, hi8, _, _, _, _, _, _, _, _, _, _, _, rfl, by simp [hsz], ?_⟩
        rw [hup]
        exact ⟨below_tr h.fb hb, fun hh => by have h1 := h.fk hh; have h2 := h1.2.2.2.below hb; have e : inv.upd (fun k => l.getD k false) 2 11 = l.getD 11 false := rfl; rw [if_neg hns] at h2; rw [e, if_neg hns]; exact ⟨h1.1, Nat.lt_of_lt_of_le h1.2.1 hb.size, h1.2.2.1, h2⟩, fun _ ha => .inl (h.fk ha).2.1, h.a5x10, h.a8x10, h.f0, h.f1, h.d1x0, fun _ => ⟨h.fb.size, hb.size, Nat.le_refl _, hu⟩, fun _ => d1, h.f3, h.f4, h.d4x3, fun hh => ⟨(h.f5 hh).1, (h.f5 hh).2.1, Nat.le_trans (h.f5 hh).2.2.1 hb.size, ((h.f5 hh).2.2.2).keep hb⟩, h.d5x4, h.f6, h.f7, h.d7x6, fun hh => ⟨(h.f8 hh).1, (h.f8 hh).2.1, Nat.le_trans (h.f8 hh).2.2.1 hb.size, ((h.f8 hh).2.2.2).keep hb⟩, h.d8x7, fun hh => absurd (h.d9x2 hh) hno, fun _ => rfl, h.d9x5, h.d9x8, h.d11x9, h.d11x10, fun _ ha => .inr (h.f5 ha).2.2.1, fun _ ha => .inr (h.f8 ha).2.2.1, h.a5x8⟩
      · obtain ⟨hun, o, ho, hall⟩ := mem_ready.1 hi
        obtain rfl : _ = o := Option.some.inj ho
        have hoff : l.getD 3 false = false := inv.off l 3 hun
        have hup := inv.upd_eq l 3 hun
        refine wpOp_step rfl (fun K' hK => ?_)
        have HK := Lib.hid hK
        clear hK hall ho
        go_simp
        refine HK.out _ _ ⟨g, lo2, hi2, lo5, hi5, lo8, hi8, _, _, _, _, _, _, _, _, _, _, _, rfl, by simp [hsz], ?_⟩
        rw [hup]
        exact ⟨h.fb, h.fk, h.a2x10, h.a5x10, h.a8x10, h.f0, h.f1, h.d1x0, h.f2, h.d2x1, fun _ => rfl, h.f4, fun _ => rfl, h.f5, h.d5x4, h.f6, h.f7, h.d7x6, h.f8, h.d8x7, h.f9, h.d9x2, h.d9x5, h.d9x8, h.d11x9, h.d11x10, h.a2x5, h.a2x8, h.a5x8⟩
      · obtain ⟨hun, o, ho, hall⟩ := mem_ready.1 hi
        obtain rfl : _ = o := Option.some.inj ho
        have hoff : l.getD 4 false = false := inv.off l 4 hun
        have hup := inv.upd_eq l 4 hun
        have d3 : l.getD 3 false = true := hall ⟨3, .data⟩ (by simp) (by decide)
        obtain rfl := h.f3 d3
        obtain ⟨c0, c1, c2, c3⟩ := three_cells (K1.out.below h.fb)
        refine wpOp_step rfl (fun K' hK => ?_)
        have HK := Lib.hid hK
        clear hK hall ho
        go_simp
        refine HK.out _ _ ⟨g, lo2, hi2, lo5, hi5, lo8, hi8, _, _, _, _, _, _, _, _, _, _, _, rfl, by simp [hsz], ?_⟩
        rw [hup]
        exact ⟨h.fb, h.fk, h.a2x10, h.a5x10, h.a8x10, h.f0, h.f1, h.d1x0, h.f2, h.d2x1, h.f3, fun _ => rfl, fun _ => d3, h.f5, fun _ => rfl, h.f6, h.f7, h.d7x6, h.f8, h.d8x7, h.f9, h.d9x2, h.d9x5, h.d9x8, h.d11x9, h.d11x10, h.a2x5, h.a2x8, h.a5x8⟩
      · obtain ⟨hun, o, ho, hall⟩ := mem_ready.1 hi
        obtain rfl : _ = o := Option.some.inj ho
        have hoff : l.getD 5 false = false := inv.off l 5 hun
        have hup := inv.upd_eq l 5 hun
        have d4 : l.getD 4 false = true := hall ⟨4, .data⟩ (by simp) (by decide)
        obtain rfl := h.f4 d4
        have hns : ¬ l.getD 11 false = true := fun e => by have := (h.d9x5 (h.d11x9 e)); simp only [hoff] at this; cases this
        have hno : ¬ l.getD 5 false = true := fun e => by rw [hoff] at e; cases e
        refine wpOp_step rfl (fun K' hK => ?_)
        have HK := Lib.hid hK
        clear hK hall ho
        go_simp
        (go_at_call 81; (with_reducible refine (HTA.out _ h.fb).mono ?_); rintro e W' ⟨rv, rfl, hu, hb⟩)
        try go_simp
        refine HK.out _ _ ⟨g, lo2, hi2, W.heap.size, W'.heap.size, lo8, hi8, _, _, _, _, _, _, _, _, _, _, _, rfl, by simp [hsz], ?_⟩
        rw [hup]
        exact ⟨below_tr h.fb hb, fun hh => by have h1 := h.fk hh; have h2 := h1.2.2.2.below hb; have e : inv.upd (fun k => l.getD k false) 5 11 = l.getD 11 false := rfl; rw [if_neg hns] at h2; rw [e, if_neg hns]; exact ⟨h1.1, Nat.lt_of_lt_of_le h1.2.1 hb.size, h1.2.2.1, h2⟩, h.a2x10, fun _ ha => .inl (h.fk ha).2.1, h.a8x10, h.f0, h.f1, h.d1x0, fun hh => ⟨(h.f2 hh).1, (h.f2 hh).2.1, Nat.le_trans (h.f2 hh).2.2.1 hb.size, ((h.f2 hh).2.2.2).keep hb⟩, h.d2x1, h.f3, h.f4, h.d4x3, fun _ => ⟨h.fb.size, hb.size, Nat.le_refl _, hu⟩, fun _ => d4, h.f6, h.f7, h.d7x6, fun hh => ⟨(h.f8 hh).1, (h.f8 hh).2.1, Nat.le_trans (h.f8 hh).2.2.1 hb.size, ((h.f8 hh).2.2.2).keep hb⟩, h.d8x7, fun hh => absurd (h.d9x5 hh) hno, h.d9x2, fun _ => rfl, h.d9x8, h.d11x9, h.d11x10, fun ha _ => .inl (h.f2 ha).2.2.1, h.a2x8, fun _ ha => .inr (h.f8 ha).2.2.1⟩
      · obtain ⟨hun, o, ho, hall⟩ := mem_ready.1 hi
        obtain rfl : _ = o := Option.some.inj ho
        have hoff : l.getD 6 false = false := inv.off l 6 hun
        have hup := inv.upd_eq l 6 hun
        refine wpOp_step rfl (fun K' hK => ?_)
        have HK := Lib.hid hK
        clear hK hall ho
        go_simp
        refine HK.out _ _ ⟨g, lo2, hi2, lo5, hi5, lo8, hi8, _, _, _, _, _, _, _, _, _, _, _, rfl, by simp [hsz], ?_⟩
        rw [hup]
        exact ⟨h.fb, h.fk, h.a2x10, h.a5x10, h.a8x10, h.f0, h.f1, h.d1x0, h.f2, h.d2x1, h.f3, h.f4, h.d4x3, h.f5, h.d5x4, fun _ => rfl, h.f7, fun _ => rfl, h.f8, h.d8x7, h.f9, h.d9x2, h.d9x5, h.d9x8, h.d11x9, h.d11x10, h.a2x5, h.a2x8, h.a5x8⟩
      · obtain ⟨hun, o, ho, hall⟩ := mem_ready.1 hi
        obtain rfl : _ = o := Option.some.inj ho
        have hoff : l.getD 7 false = false := inv.off l 7 hun
        have hup := inv.upd_eq l 7 hun
        have d6 : l.getD 6 false = true := hall ⟨6, .data⟩ (by simp) (by decide)
        obtain rfl := h.f6 d6
        obtain ⟨c0, c1, c2, c3⟩ := three_cells (K1.out.below h.fb)
        refine wpOp_step rfl (fun K' hK => ?_)
        have HK := Lib.hid hK
        clear hK hall ho
        go_simp
        refine HK.out _ _ ⟨g, lo2, hi2, lo5, hi5, lo8, hi8, _, _, _, _, _, _, _, _, _, _, _, rfl, by simp [hsz], ?_⟩
        rw [hup]
        exact ⟨h.fb, h.fk, h.a2x10, h.a5x10, h.a8x10, h.f0, h.f1, h.d1x0, h.f2, h.d2x1, h.f3, h.f4, h.d4x3, h.f5, h.d5x4, h.f6, fun _ => rfl, fun _ => d6, h.f8, fun _ => rfl, h.f9, h.d9x2, h.d9x5, h.d9x8, h.d11x9, h.d11x10, h.a2x5, h.a2x8, h.a5x8⟩
      · obtain ⟨hun, o, ho, hall⟩ := mem_ready.1 hi
        obtain rfl : _ = o := Option.some.inj ho
        have hoff : l.getD 8 false = false := inv.off l 8 hun
        have hup := inv.upd_eq l 8 hun
        have d7 : l.getD 7 false = true := hall ⟨7, .data⟩ (by simp) (by decide)
        obtain rfl := h.f7 d7
        have hns : ¬ l.getD 11 false = true := fun e => by have := (h.d9x8 (h.d11x9 e)); simp only [hoff] at this; cases this
        have hno : ¬ l.getD 8 false = true := fun e => by rw [hoff] at e; cases e
        refine wpOp_step rfl (fun K' hK => ?_)
        have HK := Lib.hid hK
        clear hK hall ho
        go_simp
        (go_at_call 81; (with_reducible refine (HTS.out _ h.fb).mono ?_); rintro e W' ⟨rv, rfl, hu, hb⟩)
        try go_simp
        refine HK.out _ _ ⟨g, lo2, hi2, lo5, hi5, W.heap.size, W'.heap.size, _, _, _, _, _, _, _, _, _, _, _, rfl, by simp [hsz], ?_⟩
        rw [hup]
        exact ⟨below_tr h.fb hb, fun hh => by have h1 := h.fk hh; have h2 := h1.2.2.2.below hb; have e : inv.upd (fun k => l.getD k false) 8 11 = l.getD 11 false := rfl; rw [if_neg hns] at h2; rw [e, if_neg hns]; exact ⟨h1.1, Nat.lt_of_lt_of_le h1.2.1 hb.size, h1.2.2.1, h2⟩, h.a2x10, h.a5x10, fun _ ha => .inl (h.fk ha).2.1, h.f0, h.f1, h.d1x0, fun hh => ⟨(h.f2 hh).1, (h.f2 hh).2.1, Nat.le_trans (h.f2 hh).2.2.1 hb.size, ((h.f2 hh).2.2.2).keep hb⟩, h.d2x1, h.f3, h.f4, h.d4x3, fun hh => ⟨(h.f5 hh).1, (h.f5 hh).2.1, Nat.le_trans (h.f5 hh).2.2.1 hb.size, ((h.f5 hh).2.2.2).keep hb⟩, h.d5x4, h.f6, h.f7, h.d7x6, fun _ => ⟨h.fb.size, hb.size, Nat.le_refl _, hu⟩, fun _ => d7, fun hh => absurd (h.d9x8 hh) hno, h.d9x2, h.d9x5, fun _ => rfl, h.d11x9, h.d11x10, h.a2x5, fun ha _ => .inl (h.f2 ha).2.2.1, fun ha _ => .inl (h.f5 ha).2.2.1⟩
      · obtain ⟨hun, o, ho, hall⟩ := mem_ready.1 hi
        obtain rfl : _ = o := Option.some.inj ho
        have hoff : l.getD 9 false = false := inv.off l 9 hun
        have hup := inv.upd_eq l 9 hun
        have d2 : l.getD 2 false = true := hall ⟨2, .data⟩ (by simp) (by decide)
        have d5 : l.getD 5 false = true := hall ⟨5, .data⟩ (by simp) (by decide)
        have d8 : l.getD 8 false = true := hall ⟨8, .data⟩ (by simp) (by decide)
        have e2 := h.f2 d2
        obtain ⟨y2a, y2n, y2c, rfl⟩ := (e2.2.2.2).ints.shape
        clear e2
        have e5 := h.f5 d5
        obtain ⟨y5a, y5n, y5c, rfl⟩ := (e5.2.2.2).rows.shape
        clear e5
        have e8 := h.f8 d8
        obtain ⟨y8a, y8n, y8c, rfl⟩ := (e8.2.2.2).rows.shape
        clear e8
        refine wpOp_step rfl (fun K' hK => ?_)
        have HK := Lib.hid hK
        clear hK hall ho
        go_simp
        refine HK.out _ _ ⟨g, lo2, hi2, lo5, hi5, lo8, hi8, _, _, _, _, _, _, _, _, _, _, _, rfl, by simp [hsz], ?_⟩
        rw [hup]
        exact ⟨h.fb, h.fk, h.a2x10, h.a5x10, h.a8x10, h.f0, h.f1, h.d1x0, h.f2, h.d2x1, h.f3, h.f4, h.d4x3, h.f5, h.d5x4, h.f6, h.f7, h.d7x6, h.f8, h.d8x7, fun _ => rfl, fun _ => d2, fun _ => d5, fun _ => d8, fun _ => rfl, h.d11x10, h.a2x5, h.a2x8, h.a5x8⟩
      · obtain ⟨hun, o, ho, hall⟩ := mem_ready.1 hi
        obtain rfl : _ = o := Option.some.inj ho
        have hoff : l.getD 10 false = false := inv.off l 10 hun
        have hup := inv.upd_eq l 10 hun
        have hns : ¬ l.getD 11 false = true := fun e => by have := h.d11x10 e; simp only [hoff] at this; cases this
        have hb := below_al (Below.refl W.heap.size W) (.cells #[.slice none 0 0, .slice none 0 0, .slice none 0 0] 28)
        have hnew := Blk.new W 28 #[.slice none 0 0, .slice none 0 0, .slice none 0 0]
        refine wpOp_step rfl (fun K' hK => ?_)
        have HK := Lib.hid hK
        clear hK hall ho
        go_simp
        refine HK.out _ _ ⟨W.heap.size, lo2, hi2, lo5, hi5, lo8, hi8, _, _, _, _, _, _, _, _, _, _, _, rfl, by simp [hsz], ?_⟩
        rw [hup]
        exact ⟨below_tr h.fb hb, fun _ => ⟨h.fb.size, by simp, rfl, by have e : inv.upd (fun k => l.getD k false) 10 11 = l.getD 11 false := rfl; rw [e, if_neg hns]; exact hnew⟩, fun ha _ => .inr (h.f2 ha).2.2.1, fun ha _ => .inr (h.f5 ha).2.2.1, fun ha _ => .inr (h.f8 ha).2.2.1, h.f0, h.f1, h.d1x0, fun hh => ⟨(h.f2 hh).1, (h.f2 hh).2.1, Nat.le_trans (h.f2 hh).2.2.1 hb.size, ((h.f2 hh).2.2.2).keep hb⟩, h.d2x1, h.f3, h.f4, h.d4x3, fun hh => ⟨(h.f5 hh).1, (h.f5 hh).2.1, Nat.le_trans (h.f5 hh).2.2.1 hb.size, ((h.f5 hh).2.2.2).keep hb⟩, h.d5x4, h.f6, h.f7, h.d7x6, fun hh => ⟨(h.f8 hh).1, (h.f8 hh).2.1, Nat.le_trans (h.f8 hh).2.2.1 hb.size, ((h.f8 hh).2.2.2).keep hb⟩, h.d8x7, h.f9, h.d9x2, h.d9x5, h.d9x8, h.d11x9, fun _ => rfl, h.a2x5, h.a2x8, h.a5x8⟩
      · obtain ⟨hun, o, ho, hall⟩ := mem_ready.1 hi
        obtain rfl : _ = o := Option.some.inj ho
        have hoff : l.getD 11 false = false := inv.off l 11 hun
        have hup := inv.upd_eq l 11 hun
        have d9 : l.getD 9 false = true := hall ⟨9, .data⟩ (by simp) (by decide)
        have d10 : l.getD 10 false = true := hall ⟨10, .data⟩ (by simp) (by decide)
        obtain rfl := h.f9 d9
        obtain rfl := h.f0 (h.d1x0 (h.d2x1 (h.d9x2 d9)))
        obtain rfl := h.f1 (h.d2x1 (h.d9x2 d9))
        have e2 := Lib.hid (h.f2 (h.d9x2 d9))
        obtain rfl := h.f3 (h.d4x3 (h.d5x4 (h.d9x5 d9)))
        obtain rfl := h.f4 (h.d5x4 (h.d9x5 d9))
        have e5 := Lib.hid (h.f5 (h.d9x5 d9))
        obtain rfl := h.f6 (h.d7x6 (h.d8x7 (h.d9x8 d9)))
        obtain rfl := h.f7 (h.d8x7 (h.d9x8 d9))
        have e8 := Lib.hid (h.f8 (h.d9x8 d9))
        obtain ⟨y2a, y2n, y2c, rfl⟩ := (e2.out.2.2.2).ints.shape
        obtain ⟨y5a, y5n, y5c, rfl⟩ := (e5.out.2.2.2).rows.shape
        obtain ⟨y8a, y8n, y8c, rfl⟩ := (e8.out.2.2.2).rows.shape
        obtain ⟨hg1, hg2, rfl, hk⟩ := h.fk d10
        have q2 := (h.d9x2 d9)
        have q5 := (h.d9x5 d9)
        have q8 := (h.d9x8 d9)
        rw [hoff] at hk
        have hk : Blk W g 28 #[.slice none 0 0, .slice none 0 0, .slice none 0 0] := hk
        obtain ⟨c0, c1, c2, c3⟩ := scene.three_cells hk
        have rf : ∀ k, W.frozen? ⟨g, k, none⟩ = false := fun k => Joins.unfrozen_of_block hk k
        have hw := st3.set3_wrote W g (.slice y2a y2n y2c) (.slice y5a y5n y5c) (.slice y8a y8n y8c)
        refine wpOp_step rfl (fun K' hK => ?_)
        have HK := Lib.hid hK
        clear hK hall ho
        go_simp
        refine HK.out _ (st3.set3 W g (.slice y2a y2n y2c) (.slice y5a y5n y5c) (.slice y8a y8n y8c)) ⟨g, lo2, hi2, lo5, hi5, lo8, hi8, _, _, _, _, _, _, _, _, _, _, _, rfl, by simp [hsz], ?_⟩
        rw [hup]
        exact ⟨st3.set3_below (.slice y2a y2n y2c) (.slice y5a y5n y5c) (.slice y8a y8n y8c) hg1 h.fb, fun _ => ⟨hg1, by rw [hw.size]; exact hg2, rfl, st3.set3_same (.slice y2a y2n y2c) (.slice y5a y5n y5c) (.slice y8a y8n y8c) hk⟩, h.a2x10, h.a5x10, h.a8x10, h.f0, h.f1, h.d1x0, fun _ => ⟨e2.out.1, e2.out.2.1, by rw [hw.size]; exact e2.out.2.2.1, ((e2.out.2.2.2)).wrote hw (fun p hp => by have e1 : p.block = g := hp; have := e2.out.1; have := e2.out.2.1; have := h.a2x10 q2 d10; omega)⟩, h.d2x1, h.f3, h.f4, h.d4x3, fun _ => ⟨e5.out.1, e5.out.2.1, by rw [hw.size]; exact e5.out.2.2.1, ((e5.out.2.2.2)).wrote hw (fun p hp => by have e1 : p.block = g := hp; have := e5.out.1; have := e5.out.2.1; have := h.a5x10 q5 d10; omega)⟩, h.d5x4, h.f6, h.f7, h.d7x6, fun _ => ⟨e8.out.1, e8.out.2.1, by rw [hw.size]; exact e8.out.2.2.1, ((e8.out.2.2.2)).wrote hw (fun p hp => by have e1 : p.block = g := hp; have := e8.out.1; have := e8.out.2.1; have := h.a8x10 q8 d10; omega)⟩, h.d8x7, h.f9, h.d9x2, h.d9x5, h.d9x8, fun _ => d9, fun _ => d10, h.a2x5, h.a2x8, h.a5x8⟩
    · rintro l a' W ⟨g, lo2, hi2, lo5, hi5, lo8, hi8, s12, s13, s14, s15, s16, s17, s18, s19, s20, s21, s4, rfl, hsz, h⟩ hr
      have hup : ∀ i, i < 12 → l.getD i false = true := inv.all_upm (by kernel_rfl) hsz hr
      obtain rfl := h.f0 (hup 0 (by omega))
      obtain rfl := h.f1 (hup 1 (by omega))
      obtain rfl := h.f3 (hup 3 (by omega))
      obtain rfl := h.f4 (hup 4 (by omega))
      obtain rfl := h.f6 (hup 6 (by omega))
      obtain rfl := h.f7 (hup 7 (by omega))
      obtain rfl := h.f9 (hup 9 (by omega))
      obtain ⟨hg1, hg2, rfl, hk⟩ := h.fk (hup 10 (by omega))
      rw [if_pos (hup 11 (by omega))] at hk
      have e2 := h.f2 (hup 2 (by omega))
      have e5 := h.f5 (hup 5 (by omega))
      have e8 := h.f8 (hup 8 (by omega))
      have x2x5 := h.a2x5 (hup 2 (by omega)) (hup 5 (by omega))
      have x2x8 := h.a2x8 (hup 2 (by omega)) (hup 8 (by omega))
      have x5x8 := h.a5x8 (hup 5 (by omega)) (hup 8 (by omega))
      have x2 := h.a2x10 (hup 2 (by omega)) (hup 10 (by omega))
      have x5 := h.a5x10 (hup 5 (by omega)) (hup 10 (by omega))
      have x8 := h.a8x10 (hup 8 (by omega)) (hup 10 (by omega))
      have hfb := h.fb
      clear h hup hr hsz
      obtain ⟨n1, n2, n3, hF⟩ := e2
      obtain ⟨n4, n5, n6, hK⟩ := e5
      obtain ⟨n7, n8, n9, hS⟩ := e8
      obtain ⟨fa, fn, fc, rfl⟩ := hF.ints.shape
      obtain ⟨ta, tn, tc, rfl⟩ := hK.rows.shape
      obtain ⟨vals, hVS⟩ := hS
      obtain ⟨sb, so, sq, rfl, _, _, hcell⟩ := cll.rows hVS.rows HG.out.2.2.1 (by omega) (by omega : 0 < 4) (fun r hr => by obtain ⟨_, _, hw⟩ := tab_get (n := 4) HG.out.2.2 hr; have := hw.1; omega)
      have HVS : Hid (OwnVals W lo8 hi8 (.slice (some ⟨sb, so, none⟩) 2 sq) vals (rw8 (pf yss) (4 * 0 + 0))) := Lib.hid (by rw [hZ.out]; exact hVS)
      have HFk : Hid (Blk W g 28 #[.slice fa fn fc, .slice ta tn tc, .slice (some ⟨sb, so, none⟩) 2 sq]) := Lib.hid hk
      have HVAL : Hid (∀ r, r < 2 → ∃ b o c, vals[r]? = some (.slice (some ⟨b, o, none⟩) 4 c) ∧ W.cell? ⟨sb, so + r, none⟩ = some (.slice (some ⟨b, o, none⟩) 4 c)) := Lib.hid (fun r hr => by
        obtain ⟨u, hu, hi⟩ := hVS.row r (by have := HG.out.2.2.1; omega)
        obtain ⟨b', o', c', g1, _⟩ := hcell r hr
        obtain ⟨A, cap, hv, _, _, hc⟩ := hVS.outer
        obtain ⟨b2, o2, hA, g2⟩ := hc r u hu
        rw [hA] at hv; injection hv with e1 _ _; injection e1 with e1; injection e1 with e1 e2; subst e1; subst e2
        rw [g1] at g2; injection g2 with g2; subst g2
        exact ⟨b', o', c', hu, g1⟩)
      have hOUT := fun (W' : World) (hw : Wrote (fun p => lo8 ≤ p.block ∧ p.block < hi8) W W') => (⟨(hF.wrote hw (fun p hp => by have h1 : lo8 ≤ p.block ∧ p.block < hi8 := hp; omega)), (hK.wrote hw (fun p hp => by have h1 : lo8 ≤ p.block ∧ p.block < hi8 := hp; omega)), HFk.out.wrote hw (fun p hp e => by have h1 : lo8 ≤ p.block ∧ p.block < hi8 := hp; omega), (R1.out.below hfb).wrote hw (fun p hp e => by have h1 : lo8 ≤ p.block ∧ p.block < hi8 := hp; have := R1.out.lt; omega), (below_tr B1.out hfb).trans (hw.below (fun p hp => by have h1 : lo8 ≤ p.block ∧ p.block < hi8 := hp; have := B1.out.size; omega))⟩ : OwnInts W' lo2 hi2 (.slice fa fn fc) ss ∧ OwnRows W' lo5 hi5 (.slice ta tn tc) xss ∧ Blk W' g 28 #[.slice fa fn fc, .slice ta tn tc, .slice (some ⟨sb, so, none⟩) 2 sq] ∧ Blk W' (w.heap.size + 1) 28 #[.slice none 0 0, .slice none 0 0, .slice none 0 0] ∧ Below w.heap.size w W')
      have HOUT := Lib.hid hOUT
      have HRNG : Hid ((w1.heap.size ≤ lo2 ∧ hi2 ≤ W.heap.size ∧ w1.heap.size ≤ lo5 ∧ hi5 ≤ W.heap.size ∧ w1.heap.size ≤ lo8 ∧ hi8 ≤ W.heap.size) ∧ (hi2 ≤ lo5 ∨ hi5 ≤ lo2) ∧ (hi2 ≤ lo8 ∨ hi8 ≤ lo2) ∧ (hi5 ≤ lo8 ∨ hi8 ≤ lo5)) := Lib.hid ⟨⟨n1, n3, n4, n6, n7, n9⟩, x2x5, x2x8, x5x8⟩
      obtain ⟨W2, hW2⟩ : ∃ W2, W2 = W := ⟨_, rfl⟩
      have KG := Lib.hid hk
      have Z1 := Lib.hid R1.out.lt
      have Z2 := Lib.hid B1.out.size
      obtain ⟨c0, c1, c2, c3⟩ := three_cells hk
      clear hOUT hcell hVS hF hK n1 n2 n3 n4 n5 n6 n7 n8 n9 x2 x5 x8 x2x5 x2x8 x5x8 hfb hg1 hg2 hk HFk hZ HCL HTA HTS K1 R1 B1 HV
      go_wp2_with fail
      clear c0 c1 c2 c3
      go_loopw [6, 7, 25] (fun z6 z7 i wr => ∃ r : Nat, r ≤ 2 ∧ i = .int .i64 r ∧ (∃ z, z6 = z) ∧ (∃ z, z7 = z) ∧ Hid (Wrote (fun p => lo8 ≤ p.block ∧ p.block < hi8) W wr) ∧ Hid (OwnVals wr lo8 hi8 (.slice (some ⟨sb, so, none⟩) 2 sq) vals (rw8 (pf yss) (4 * r + 0)))) (fun _ _ i _ => 2 - (intOf i).toNat)
      case atStart => exact ⟨0, by omega, rfl, ⟨_, rfl⟩, ⟨_, rfl⟩, Lib.hid (Wrote.refl _ _), HVS⟩
      case round =>
        clear HVS
        obtain ⟨r, hr, rfl, ⟨z6, rfl⟩, ⟨z7, rfl⟩, hw, hV⟩ := hrel
        obtain ⟨wo, rfl⟩ : ∃ wo : World, wo = wr := ⟨_, rfl⟩
        by_cases hlt : r < 2
        · have hkz : (r : Int) < 2 := by omega
          obtain ⟨vb, vo, vc, hvr, _⟩ := HVAL.out r hlt
          have hcr : wo.cell? ⟨sb, so + r, none⟩ = some (.slice (some ⟨vb, vo, none⟩) 4 vc) := by
            obtain ⟨A, cap, hv, _, _, hc⟩ := hV.out.outer
            obtain ⟨b2, o2, hA, g2⟩ := hc r _ hvr
            rw [hA] at hv; injection hv with e1 _ _; injection e1 with e1; injection e1 with e1 e2; subst e1; subst e2
            exact g2
          have HVR := Lib.hid hvr
          clear hvr
          go_wp2_with fail
          clear hcr
          go_loopw [7, 31] (fun z7 j wr => ∃ k : Nat, k ≤ 4 ∧ j = .int .i64 k ∧ (∃ z, z7 = z) ∧ Hid (Wrote (fun p => lo8 ≤ p.block ∧ p.block < hi8) W wr) ∧ Hid (OwnVals wr lo8 hi8 (.slice (some ⟨sb, so, none⟩) 2 sq) vals (rw8 (pf yss) (4 * r + k)))) (fun _ j _ => 4 - (intOf j).toNat)
          case atStart => exact ⟨0, by omega, rfl, ⟨_, rfl⟩, hw, hV⟩
          case round =>
            clear hw hV
            obtain ⟨k, hk, rfl, ⟨z7, rfl⟩, hw, hV⟩ := hrel
            obtain ⟨wi, rfl⟩ : ∃ wi : World, wi = wr := ⟨_, rfl⟩
            by_cases hlk : k < 4
            · have hkk : (k : Int) < 4 := by omega
              obtain ⟨hl1, hl2, hat⟩ := upd.rw8_at (pf yss) hlt hlk
              obtain ⟨_, _, hstep⟩ := upd.rw8_step (pf yss) hlt hlk
              have hnew := upd.own_set hV.out hl1 HVR.out hl2 hlk (1 - pf yss (4 * r + k))
              rw [hstep] at hnew
              have hin : In (.slice (some ⟨vb, vo, none⟩) 4 vc) ⟨vb, vo + k, none⟩ := ⟨vb, vo, 4, vc, rfl, rfl, rfl, by show vo ≤ vo + k; omega, by show vo + k < vo + 4; omega⟩
              have hm := List.mem_of_getElem? HVR.out
              have hcell : wi.cell? ⟨vb, vo + k, none⟩ = some (.int .i64 (pf yss (4 * r + k))) := by
                obtain ⟨u, hu, hi⟩ := hV.out.row r hl1
                rw [HVR.out] at hu; injection hu with hu; subst hu
                obtain ⟨b', o', c', hv, _, _, hc⟩ := cll.ints hi rfl (by omega)
                injection hv with e1 _ _; injection e1 with e1; injection e1 with e1 e2; subst e1; subst e2
                have := hc k hl2
                rw [this]
                simp only [List.getD, List.getElem?_eq_getElem hl2, Option.getD_some, hat]
              have hfr := hV.out.free _ hm _ hin
              have hwn : Wrote (fun p => lo8 ≤ p.block ∧ p.block < hi8) W (wi.setCell ⟨vb, vo + k, none⟩ (.int .i64 (1 - pf yss (4 * r + k)))) := hw.out.setCell ⟨hV.out.ge _ hm _ hin, hV.out.lt _ hm _ hin⟩ _
              have hb01 := HBIT.out r k hlt hlk
              generalize pf yss (4 * r + k) = z at hcell hwn hnew hb01
              have kz : IntKind.i64.wrap (1 - z) = 1 - z := IntWalk.i64_in _ (by omega)
              have HN := Lib.hid hnew
              have HWN := Lib.hid hwn
              clear hnew hwn hat hstep hin hm hw hV
              go_wp2_with fail
              go_roundw
              case rel => exact ⟨k + 1, by omega, by go_num, ⟨_, rfl⟩, HWN, HN⟩
              case measure => simp [intOf]; omega
            · have hkk : ¬ (k : Int) < 4 := by omega
              obtain rfl : k = 4 := by omega
              go_wp2_with fail
              go_roundw
              case rel => exact ⟨r + 1, by omega, by go_num, ⟨_, rfl⟩, ⟨_, rfl⟩, hw, hV⟩
              case measure => simp [intOf]; omega
        · have hkz : ¬ (r : Int) < 2 := by omega
          obtain rfl : r = 2 := by omega
          obtain ⟨q1, q2, q3, q4, q5⟩ := HOUT.out wo hw.out
          obtain ⟨c0, c1, c2, c3⟩ := three_cells q3
          obtain ⟨r0, r1, r2, r3⟩ := three_cells q4
          have rf : ∀ k, wo.frozen? ⟨w.heap.size + 1, k, none⟩ = false := fun k => Joins.unfrozen_of_block q4 k
          have HO : Hid (OR wo (w.heap.size + 1 + 1) wo.heap.size (.slice fa fn fc) ss (.slice ta tn tc) xss (.slice (some ⟨sb, so, none⟩) 2 sq) (rw8 (pf yss) 8)) := Lib.hid (by
            have hr := HRNG.out; have hs := hw.out.size; have z1 := Z1.out
            exact ⟨lo2, hi2, lo5, hi5, lo8, hi8, q1, q2, ⟨vals, hV.out⟩, by omega, hr.2.1, hr.2.2.1, hr.2.2.2⟩)
          have HB5 := Lib.hid q5
          clear q1 q2 q3 q4 q5 hw hV HOUT
          go_wp2_with fail
          refine bodyPost_ret (v := .tuple #[.agg #[.slice fa fn fc, .slice ta tn tc, .slice (some ⟨sb, so, none⟩) 2 sq], .bool true]) (by simp [results, Try.results30, go_sem, r0, r1, r2]) rfl ?_
          rw [HE.out]
          refine ⟨_, _, _, rfl, ?_, ?_⟩
          · refine (HO.out.wrote (S := fun p => p.block < w.heap.size + 1 + 1) ?_ (fun p hp => .inl hp)).mono (by omega) (by simp [World.setCell])
            repeat (first | exact Wrote.refl _ _ | refine Wrote.setCell ?_ (by simp) _)
          · repeat (first | (with_reducible exact HB5.out) | refine Below.setCell ?_ (by simp <;> omega) _)
  · rw [ruleB_no g0] at I0
    have H0 := Lib.hid I0
    have HE := Lib.hid (res_no g0)
    clear I0 g0
    obtain ⟨c0, c1, c2, c3⟩ := three_cells K0.out
    go_enter Try.func30, Try.ntmps30
    go_wp2_with fail
    refine H0.out.mono ?_
    rintro e w1 ⟨rfl, hb⟩
    have B1 := Lib.hid (below_tr B0.out hb)
    have R1 := Lib.hid (R0.out.below hb)
    clear hb H0 c0 c1 c2 c3
    obtain ⟨r0, r1, r2, r3⟩ := three_cells R1.out
    have rf : ∀ k, w1.frozen? ⟨w.heap.size + 1, k, none⟩ = false := fun k => Joins.unfrozen_of_block R1.out k
    go_wp2_with fail
    refine bodyPost_ret (v := .tuple #[.agg #[.slice none 0 0, .slice none 0 0, .slice none 0 0], .bool false]) (by simp [results, Try.results30, go_sem, r0, r1, r2]) rfl ?_
    rw [HE.out]
    refine ⟨_, _, _, rfl, OR.nil _ _ _ ?_, ?_⟩
    · have := R1.out.lt; simp [World.setCell]; omega
    · repeat (first | (with_reducible exact B1.out) | refine Below.setCell ?_ (by simp <;> omega) _)


end Go.Proofs.Ytneonebgneonkaa.flr
