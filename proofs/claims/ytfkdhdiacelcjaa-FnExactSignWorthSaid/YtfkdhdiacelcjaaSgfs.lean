/- SignFunctional of the model. -/
import Derived.Test.YtfkdhdiacelcjaaSgf
import Derived.Test.YtfkdhdiacelcjaaStep
import Derived.Deep.RegionHeld3
namespace Go.Proofs.Ytfkdhdiacelcjaa.sgf
open Go.RowKit Go.Deep Go.Proofs.Ytfkdhdiacelcjaa.base
open Go.Proofs.Ytfkdhdiacelcjaa.ints (ret_int infoInt infoInts)
open Go.Proofs.Ytfkdhdiacelcjaa.rws (total)
open Go.Proofs.Ytfkdhdiacelcjaa.sgn (wide okSign signB signB_yes signB_no)
open Go.Proofs.Ytfkdhdiacelcjaa.row (nn)

theorem lows2 {n : Nat} {w w' : World} {a0 a1 : Addr} {u0 u1 : Value} (h0 : w.cell? a0 = some u0) (h1 : w.cell? a1 = some u1) (l0 : a0.block < n) (l1 : a1.block < n) (h : step.Low n w w') :
    w'.cell? a0 = some u0 ∧ w'.cell? a1 = some u1 := ⟨(h _ l0).trans h0, (h _ l1).trans h1⟩
theorem rows_succ (xss : List (List Int)) (t : Nat) : rows xss (t + 1) = rows xss t ++ [make.quad (N xss) t] := by simp [rows, make.rowsOf, List.range_succ]


set_option maxRecDepth 100000 in
set_option maxHeartbeats 8000000 in
theorem l5fun (v : Value) (xss : List (List Int)) (w : World) (h : IRows w v xss) (hok : okSign xss) :
    Calls Try.prog 87 #[v] w fun e w' => ∃ u', e = .returned u' ∧ OwnRows w' w.heap.size w'.heap.size u' (rows xss (xss.length * wide xss)) ∧ Below w.heap.size w w' := by
  obtain ⟨s0, si, sz0, sz1, sz2⟩ := info_parts infoInts
  obtain ⟨d, q, cap, rfl, _, hr⟩ := sgn.cell0 hok h
  have hX := sgn.len3 hok
  have hY := sgn.wide3 hok
  have HBD := Lib.hid (fun (r c : Nat) (hr : r < xss.length) (hc : c < wide xss) => sgn.nn_bd hok hr hc)
  have HNA := Lib.hid (N_at xss)
  have HRS := Lib.hid (rows_succ xss)
  have HLE := Lib.hid (fun n => make.len_rowsOf (N xss) n)
  have HR := Lib.hid hr
  have HQ : Hid (∀ t, make.quad (N xss) t = [N xss t 0, N xss t 1, N xss t 2, N xss t 3]) := Lib.hid (fun t => rfl)
  clear h hok hr
  obtain ⟨Y, hYe⟩ : ∃ Y, wide xss = Y := ⟨_, rfl⟩
  obtain ⟨X, hXe⟩ : ∃ X, xss.length = X := ⟨_, rfl⟩
  rw [hYe] at hY HBD HNA HR ⊢
  rw [hXe] at hX HBD HR ⊢
  clear hYe hXe
  have P0 : Hid (pile.Pile w (w.alloc (.cells #[] 22)) w.heap.size (w.alloc (.cells #[] 22)).heap.size (.slice (some ⟨w.heap.size, 0, none⟩) 0 0) [] (rows xss (0 * Y))) := Lib.hid (by
    rw [Nat.zero_mul]
    refine pile.start (below_al (Below.refl _ _) _) (Nat.le_refl _) ?_ (by simp)
    have := World.ownsRow_made (base := w.heap.size) (e := 22) (size := 1) w #[] 0 (Nat.le_refl _) (Nat.zero_le _) rfl
    simpa using this)
  go_enter Try.func87, Try.ntmps87
  go_wp2_with fail
  go_loopw [3, 4, 5] (fun v i z5 wr => ∃ r : Nat, r ≤ X ∧ i = .int .i64 r ∧ (∃ z', z5 = z') ∧ ∃ vals, Hid (pile.Pile w wr w.heap.size wr.heap.size v vals (rows xss (r * Y)))) (fun _ i _ _ => X - (intOf i).toNat)
  case atStart => exact ⟨0, Nat.zero_le _, rfl, ⟨_, rfl⟩, _, P0⟩
  case round =>
    obtain ⟨r, hr, rfl, ⟨z5, rfl⟩, vals, hP⟩ := hrel
    clear P0
    obtain ⟨wo, rfl⟩ : ∃ wo : World, wo = wr := ⟨_, rfl⟩
    by_cases hlt : r < X
    · have hkz : (r : Int) < (X : Int) := by omega
      obtain ⟨b, o, cap', gr, gc⟩ := HR.out r hlt
      have GR := Lib.hid gr
      have GC := Lib.hid gc
      clear gr gc
      go_wp2_with fail
      go_loopw [3, 5] (fun v j wi => ∃ c : Nat, c ≤ Y ∧ j = .int .i64 c ∧ ∃ vals, Hid (pile.Pile w wi w.heap.size wi.heap.size v vals (rows xss (r * Y + c)))) (fun _ j _ => Y - (intOf j).toNat)
      case atStart => exact ⟨0, Nat.zero_le _, rfl, _, hP⟩
      case round =>
        clear hP
        obtain ⟨c, hcl, rfl, vals, hP⟩ := hrel
        obtain ⟨wi, rfl⟩ : ∃ wi : World, wi = wr := ⟨_, rfl⟩
        have e1 := below_cell hP.out.below _ _ GR.out
        have l1 : d < w.heap.size := World.block_lt_of_cell? _ _ GR.out
        by_cases hlc : c < Y
        · have hkc : (c : Int) < (Y : Int) := by omega
          have e2 := below_cell hP.out.below _ _ (GC.out c hlc)
          have l2 : b < w.heap.size := World.block_lt_of_cell? _ _ (GC.out c hlc)
          obtain ⟨bd1, bd2⟩ := HBD.out r c hlt hlc
          have hqt := HQ.out (r * Y + c)
          obtain ⟨q0, q1, q2, q3⟩ := HNA.out r c hlc
          rw [q0, q1, q2, q3] at hqt
          have HQT := Lib.hid hqt
          have h9 : r * Y + c < 9 := by
            have g1 : r * Y + c < (r + 1) * Y := by rw [Nat.add_mul]; omega
            have g2 : (r + 1) * Y ≤ X * Y := Nat.mul_le_mul_right _ (by omega)
            have g3 : X * Y ≤ 3 * 3 := Nat.mul_le_mul hX hY.2
            omega
          have HK9 := Lib.hid h9
          have HL9 := Lib.hid (HLE.out (r * Y + c))
          have hsw := hP.out.below.size
          clear q0 q1 q2 q3 hqt h9
          generalize nn xss r c = n at *
          have kn : IntKind.i64.wrap (-n) = -n := IntWalk.i64_in _ (by omega)
          have P2 := Lib.hid ((hP.out.keep (below_al (Below.refl _ _) (.cells #[.int .i64 n, .int .i64 (-n), .int .i64 (-n), .int .i64 n] 3))).keep (below_dr (below_al (Below.refl _ _) (.cells #[.slice (some ⟨wi.heap.size, 0, none⟩) 4 4] 22))))
          have hrowis : (wi.alloc (.cells #[.int .i64 n, .int .i64 (-n), .int .i64 (-n), .int .i64 n] 3)).rowIs wi.heap.size 3 4 (fun j => .int .i64 ((make.quad (N xss) (r * Y + c)).getD j 0)) := by
            refine ⟨#[.int .i64 n, .int .i64 (-n), .int .i64 (-n), .int .i64 n], heap_alloc_new wi _, rfl, fun i hi => ?_⟩
            rw [HQT.out]
            match i, hi with
            | 0, _ => rfl
            | 1, _ => rfl
            | 2, _ => rfl
            | 3, _ => rfl
          have HRI := Lib.hid (hrowis.alloc (.cells #[.slice (some ⟨wi.heap.size, 0, none⟩) 4 4] 22))
          clear hrowis bd1 bd2 HQT
          go_wp2_with fail
          go_region_held3 (fun w' => w'.cell? ⟨d, q + r, none⟩ = some (.slice (some ⟨b, o, none⟩) (Y : Nat) cap') ∧ w'.cell? ⟨b, o + c, none⟩ = some (.int .i64 n))
            ((refine lows2 e1 e2 l1 l2 ?_; repeat (first | (with_reducible exact L3.out) | (with_reducible exact step.Low.refl _ _) | (with_reducible refine step.Low.drew ?_) | (with_reducible refine step.Low.alloc ?_ (by first | omega | (simp; omega)) _))))
            (first
              | (refine step.own rfl (.tmp 22) (.tmp 54) 23 rfl 22 s0 (.slice none 0 0) 1 24 Try.underlying23 si sz0 sz1 sz2 rfl (by decide) w.heap.size _ _ vals P2.out.owns (by simp [Act.eval]) ⟨wi.heap.size + 1, 0, none⟩ 1 1 [.slice (some ⟨wi.heap.size, 0, none⟩) 4 4] (by simp [Act.eval]) rfl (by intro j u hj; have := app.one_at (wi.alloc (.cells #[.int .i64 n, .int .i64 (-n), .int .i64 (-n), .int .i64 n] 3)) (.slice (some ⟨wi.heap.size, 0, none⟩) 4 4) 22; simpa using this j u hj) (by intro u hu; simp at hu; subst hu; rfl) (by unfold rows; rw [HL9.out]; have := HK9.out; unfold maxLen; omega) (by unfold rows; rw [HL9.out]; have := HK9.out; omega) (by simp; omega) ?_; intro v' w3 hown' hgrow; have L3 := Lib.hid (step.Low.grown (w := wi) (n := w.heap.size) (step.Low.drew (step.Low.alloc (step.Low.alloc (step.Low.refl _ _) (by first | omega | (simp; omega)) _) (by first | omega | (simp; omega)) _)) hgrow (by first | omega | (simp; omega)) (fun q hq2 => by have h1 := (P2.out.owns.lt q hq2).1; omega))))
          have P4 : Hid (pile.Pile w w3 w.heap.size w3.heap.size v' (vals ++ [.slice (some ⟨wi.heap.size, 0, none⟩) 4 4]) (rows xss (r * Y + (c + 1)))) := Lib.hid (by
            rw [← Nat.add_assoc, HRS.out]
            refine P2.out.grow (m' := wi.heap.size) (T := wi.heap.size + 1) (ints.own_of_row (xs := make.quad (N xss) (r * Y + c)) HRI.out (Nat.le_refl _) (by omega) (by simp [make.quad, maxLen])) (Nat.le_refl _) (by simp) (pile.typ_row HRI.out _ _) hown' hgrow)
          obtain ⟨xa, xl, xc, rfl⟩ := make.shape hown'
          clear hown' hgrow P2 HRI hP e1 e2 kn L3
          go_wp2_with fail
          go_roundw
          case rel => exact ⟨c + 1, by omega, by go_num, _, P4⟩
          case measure => simp [intOf]; omega
        · have hkc : ¬ (c : Int) < (Y : Int) := by omega
          have hcy : r * Y + c = (r + 1) * Y := by rw [Nat.add_mul, Nat.one_mul]; omega
          have P5 := hP.out
          rw [hcy] at P5
          have P6 := Lib.hid P5
          clear P5
          clear hP
          go_wp2_with fail
          go_roundw
          case rel => exact ⟨r + 1, by omega, by go_num, ⟨_, rfl⟩, _, P6⟩
          case measure => simp [intOf]; omega
    · have hkz : ¬ (r : Int) < (X : Int) := by omega
      obtain rfl : r = X := by omega
      obtain ⟨xa, xl, xc, rfl⟩ := make.shape hP.out.owns
      go_wp2_with fail
      go_ret
      exact ⟨_, rfl, hP.out.rows, hP.out.below⟩



set_option maxHeartbeats 2000000 in
theorem spec_any (v : Value) (xss : List (List Int)) (w : World) (h : IRows w v xss) :
    Calls Try.prog 42 #[v] w fun e w' => ∃ u', e = .returned (.tuple #[u', .bool (res xss).2]) ∧ IRows w' u' (res xss).1 ∧ Below w.heap.size w w' := by
  obtain ⟨va, vn, vc, rfl⟩ := h.shape
  have H := Lib.hid h
  have HC := Lib.hid (sgn.spec_good _ xss w h)
  clear h
  by_cases hok : okSign xss
  · have HE := Lib.hid (signB_yes hok)
    rw [res_yes hok]
    have HOK := Lib.hid hok
    clear hok
    go_enter Try.func42, Try.ntmps42
    go_wp2_with fail
    refine HC.out.mono ?_
    rintro e w1 ⟨rfl, n, rfl⟩
    rw [HE.out]
    have B1 := Lib.hid (below_drewN (Below.refl w.heap.size w) n)
    clear HC
    go_wp2_with fail
    refine (l5fun _ xss _ (H.out.below B1.out) HOK.out).mono ?_
    rintro e w2 ⟨u', rfl, hu, hb⟩
    obtain ⟨xa, xn, xc, rfl⟩ := hu.rows.shape
    have U2 := Lib.hid hu.rows
    have B2 := Lib.hid (below_tr B1.out hb)
    clear hu hb
    go_wp2_with fail
    go_ret2
    exact ⟨_, rfl, U2.out, B2.out⟩
  · have HE := Lib.hid (signB_no hok)
    rw [res_no hok]
    clear hok
    go_enter Try.func42, Try.ntmps42
    go_wp2_with fail
    refine HC.out.mono ?_
    rintro e w1 ⟨rfl, n, rfl⟩
    rw [HE.out]
    go_wp2_with fail
    go_ret2
    exact ⟨_, rfl, app.empties _ _ _ (Nat.zero_le _), below_al (below_drewN (Below.refl _ _) _) _⟩


end Go.Proofs.Ytfkdhdiacelcjaa.sgf
