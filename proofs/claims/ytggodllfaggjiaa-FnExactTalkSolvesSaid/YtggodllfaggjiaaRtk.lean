/- RunTalk of both sides. -/
import Derived.Test.YtggodllfaggjiaaRun
import Derived.Test.YtggodllfaggjiaaTkt
namespace Go.Proofs.Ytggodllfaggjiaa.rtk
open Go.RowKit Go.Deep Go.Proofs.Ytggodllfaggjiaa.base
open Go.Proofs.Ytggodllfaggjiaa.talk (TV)
open Go.Proofs.Ytggodllfaggjiaa.scene (three_cells)
open Go.Proofs.Ytggodllfaggjiaa.tkv
open Go.Proofs.Ytggodllfaggjiaa.tkt (okSize)
open Go.Proofs.Ytggodllfaggjiaa.runm

/-- a Talk of a size -/
def okOf (ss : List Int) (xss : List (List Int)) (ps : List (Int × Int)) (x y : Int) : Prop := okSize x y ∧ okTalk ss xss ps x.toNat y.toNat
theorem ok_nat {ss : List Int} {xss : List (List Int)} {ps : List (Int × Int)} {x y : Int} (h : okOf ss xss ps x y) : ∃ R C : Nat, x = R ∧ y = C ∧ okTalk ss xss ps R C ∧ 1 ≤ R ∧ R ≤ 4 ∧ 1 ≤ C ∧ C ≤ 4 := by
  obtain ⟨R, C, rfl, rfl⟩ := tkt.nats h.1
  have h1 := h.1
  unfold okSize at h1
  exact ⟨R, C, rfl, rfl, by simpa using h.2, by omega, by omega, by omega, by omega⟩
theorem fst_yes {ss : List Int} {xss : List (List Int)} {ps : List (Int × Int)} {x y : Int} (h : okOf ss xss ps x y) : (tkt.res ss xss ps x y).1 = true := by
  unfold tkt.res; rw [if_pos h.1]; exact talkB_yes h.2
theorem fst_no {ss : List Int} {xss : List (List Int)} {ps : List (Int × Int)} {x y : Int} (h : ¬ okOf ss xss ps x y) : (tkt.res ss xss ps x y).1 = false := by
  unfold tkt.res; split
  · rename_i h1; exact talkB_no (fun h2 => h ⟨h1, h2⟩)
  · rfl
def okRun (ss : List Int) (xss : List (List Int)) (ps : List (Int × Int)) (x y i j : Int) : Prop := okOf ss xss ps x y ∧ (0 ≤ i ∧ i < x) ∧ (0 ≤ j ∧ j < y)
open Classical in
/-- what RunTalk answers -/
noncomputable def res (ss : List Int) (xss : List (List Int)) (ps : List (Int × Int)) (x y i j : Int) : List Int × Int × Bool :=
  if okRun ss xss ps x y i j then ((fin ss xss ps i.toNat j.toNat).1, -1 - (fin ss xss ps i.toNat j.toNat).2, true) else ([], 0, false)
theorem res_no {ss : List Int} {xss : List (List Int)} {ps : List (Int × Int)} {x y i j : Int} (h : ¬ okRun ss xss ps x y i j) : res ss xss ps x y i j = ([], 0, false) := if_neg h
theorem res_yes {ss : List Int} {xss : List (List Int)} {ps : List (Int × Int)} {x y : Int} {i j : Nat} (h : okRun ss xss ps x y i j) : res ss xss ps x y i j = ((fin ss xss ps i j).1, -1 - (fin ss xss ps i j).2, true) := by
  unfold res; rw [if_pos h]; simp
theorem len_res (ss : List Int) (xss : List (List Int)) (ps : List (Int × Int)) (x y i j : Int) : (res ss xss ps x y i j).1.length ≤ 1048576 := by
  by_cases h : okRun ss xss ps x y i j
  · unfold res; rw [if_pos h]
    have := fin_len h.1.2 i.toNat j.toNat
    show (fin ss xss ps i.toNat j.toNat).1.length ≤ 1048576
    omega
  · rw [res_no h]; exact Nat.zero_le _


set_option maxRecDepth 100000 in
set_option maxHeartbeats 4000000 in
theorem spec_any (sv : Value) (ss : List Int) (u : Value) (xss : List (List Int)) (nv : Value) (ps : List (Int × Int)) (x y i j : Int) (w : World) (h : TV w sv ss u xss nv ps) :
    Calls Try.prog 24 #[.agg #[sv, u, nv], .int .i64 x, .int .i64 y, .int .i64 i, .int .i64 j] w fun e w' => ∃ u', e = .returned (.tuple #[u', .int .i64 (res ss xss ps x y i j).2.1, .bool (res ss xss ps x y i j).2.2]) ∧ Ints w' u' (res ss xss ps x y i j).1 ∧ Below w.heap.size w w' := by
  obtain ⟨va, vn, vc, ua, un, uc, na, nn, nc, rfl, rfl, rfl⟩ := h.shape
  have H := Lib.hid (h.below (below_al (Below.refl w.heap.size w) (.cells #[.slice va vn vc, .slice ua un uc, .slice na nn nc] 34)))
  have BE := Lib.hid (below_al (Below.refl w.heap.size w) (.cells #[.slice va vn vc, .slice ua un uc, .slice na nn nc] 34))
  have K0 := Lib.hid (Blk.new w 34 #[.slice va vn vc, .slice ua un uc, .slice na nn nc])
  obtain ⟨c0, c1, c2, c3⟩ := three_cells K0.out
  have HV := Lib.hid (tkt.spec_valid _ ss _ xss _ ps x y _ H.out)
  clear h
  by_cases hok : okOf ss xss ps x y
  · rw [fst_yes hok] at HV
    obtain ⟨R, C, rfl, rfl, ht, r1, r2, q1, q2⟩ := ok_nat hok
    have HO := Lib.hid hok
    have HT := Lib.hid ht
    have wr : wrap64 ((R : Int) - 1) = (R : Int) - 1 := IntWalk.wrap64_in _ (by omega)
    have wc : wrap64 ((C : Int) - 1) = (C : Int) - 1 := IntWalk.wrap64_in _ (by omega)
    have wr2 : IntKind.i64.wrap ((R : Int) - 1) = (R : Int) - 1 := IntWalk.i64_in _ (by omega)
    have wc2 : IntKind.i64.wrap ((C : Int) - 1) = (C : Int) - 1 := IntWalk.i64_in _ (by omega)
    clear hok ht
    by_cases hi : 0 ≤ i ∧ i < (R : Int)
    · obtain ⟨i1, i2⟩ := hi
      by_cases hj : 0 ≤ j ∧ j < (C : Int)
      · obtain ⟨j1, j2⟩ := hj
        obtain ⟨i, rfl⟩ : ∃ n : Nat, i = n := ⟨i.toNat, by omega⟩
        obtain ⟨j, rfl⟩ : ∃ n : Nat, j = n := ⟨j.toNat, by omega⟩
        rw [res_yes ⟨HO.out, ⟨i1, i2⟩, j1, j2⟩]
        have IR : Hid (i < R) := Lib.hid (by omega)
        have JC : Hid (j < C) := Lib.hid (by omega)
        have i3 : (i : Int) ≤ (R : Int) - 1 := by omega
        have j3 : (j : Int) ≤ (C : Int) - 1 := by omega
        clear r1 r2 q1 q2
        go_enter Try.func24, Try.ntmps24
        go_wp2_with fail
        refine HV.out.mono ?_
        rintro e w1 ⟨rfl, hb⟩
        have B1 := Lib.hid (below_tr BE.out hb)
        have K1 := Lib.hid (K0.out.below hb)
        have H1 := Lib.hid (H.out.below hb)
        clear hb c0 c1 c2 c3
        obtain ⟨c0, c1, c2, c3⟩ := three_cells K1.out
        go_wp2_with fail
        with_reducible refine (val.in_yes _ _ _ _ i1 i3).mono ?_
        rintro e w' ⟨rfl, rfl⟩
        go_wp2_with fail
        with_reducible refine (val.in_yes _ _ _ _ j1 j3).mono ?_
        rintro e w' ⟨rfl, rfl⟩
        go_wp2_with fail
        refine (run.spec_run _ ss _ xss _ ps R C i j _ H1.out HT.out IR.out JC.out).mono ?_
        rintro e w2 ⟨u', rfl, hu, hb⟩
        obtain ⟨xa, xl, xc, rfl⟩ := hu.ints.shape
        have HU := Lib.hid hu.ints
        have B2 := Lib.hid (below_tr B1.out hb)
        clear hu hb
        go_wp2_with fail
        refine bodyPost_ret (v := .tuple #[.slice xa xl xc, .int .i64 (-1 - (fin ss xss ps i j).2), .bool true]) (by simp [results, Try.results24, go_sem]) rfl ⟨_, rfl, HU.out, B2.out⟩
      · rw [res_no (fun h => hj h.2.2)]
        have i3 : i ≤ (R : Int) - 1 := by omega
        have hb2 : j < 0 ∨ (C : Int) - 1 < j := by omega
        clear hj r1 r2 q1 q2
        go_enter Try.func24, Try.ntmps24
        go_wp2_with fail
        refine HV.out.mono ?_
        rintro e w1 ⟨rfl, hb⟩
        have B1 := Lib.hid (below_tr BE.out hb)
        have K1 := Lib.hid (K0.out.below hb)
        have H1 := Lib.hid (H.out.below hb)
        clear hb c0 c1 c2 c3
        obtain ⟨c0, c1, c2, c3⟩ := three_cells K1.out
        go_wp2_with fail
        with_reducible refine (val.in_yes _ _ _ _ i1 i3).mono ?_
        rintro e w' ⟨rfl, rfl⟩
        go_wp2_with fail
        with_reducible refine (val.in_no _ _ _ _ hb2).mono ?_
        rintro e w' ⟨rfl, rfl⟩
        clear hb2
        go_wp2_with fail
        refine bodyPost_ret (v := .tuple #[.slice (some ⟨w1.heap.size, 0, none⟩) 0 0, .int .i64 0, .bool false]) (by simp [results, Try.results24, go_sem]) rfl ⟨_, rfl, app.empty _ _ _ (Nat.zero_le _), by first | exact below_al B1.out _ | exact B1.out⟩
    · rw [res_no (fun h => hi h.2.1)]
      have hb2 : i < 0 ∨ (R : Int) - 1 < i := by omega
      clear hi r1 r2 q1 q2
      go_enter Try.func24, Try.ntmps24
      go_wp2_with fail
      refine HV.out.mono ?_
      rintro e w1 ⟨rfl, hb⟩
      have B1 := Lib.hid (below_tr BE.out hb)
      have K1 := Lib.hid (K0.out.below hb)
      have H1 := Lib.hid (H.out.below hb)
      clear hb c0 c1 c2 c3
      obtain ⟨c0, c1, c2, c3⟩ := three_cells K1.out
      go_wp2_with fail
      with_reducible refine (val.in_no _ _ _ _ hb2).mono ?_
      rintro e w' ⟨rfl, rfl⟩
      clear hb2
      go_wp2_with fail
      refine bodyPost_ret (v := .tuple #[.slice (some ⟨w1.heap.size, 0, none⟩) 0 0, .int .i64 0, .bool false]) (by simp [results, Try.results24, go_sem]) rfl ⟨_, rfl, app.empty _ _ _ (Nat.zero_le _), by first | exact below_al B1.out _ | exact B1.out⟩
  · rw [fst_no hok] at HV
    rw [res_no (fun h => hok h.1)]
    clear hok
    go_enter Try.func24, Try.ntmps24
    go_wp2_with fail
    refine HV.out.mono ?_
    rintro e w1 ⟨rfl, hb⟩
    have B1 := Lib.hid (below_tr BE.out hb)
    have K1 := Lib.hid (K0.out.below hb)
    have H1 := Lib.hid (H.out.below hb)
    clear hb c0 c1 c2 c3
    obtain ⟨c0, c1, c2, c3⟩ := three_cells K1.out
    go_wp2_with fail
    refine bodyPost_ret (v := .tuple #[.slice (some ⟨w1.heap.size, 0, none⟩) 0 0, .int .i64 0, .bool false]) (by simp [results, Try.results24, go_sem]) rfl ⟨_, rfl, app.empty _ _ _ (Nat.zero_le _), by first | exact below_al B1.out _ | exact B1.out⟩



set_option maxRecDepth 100000 in
set_option maxHeartbeats 4000000 in
theorem impl_any (sv : Value) (ss : List Int) (u : Value) (xss : List (List Int)) (nv : Value) (ps : List (Int × Int)) (x y i j : Int) (w : World) (h : TV w sv ss u xss nv ps) :
    Calls Try.prog 25 #[.agg #[sv, u, nv], .int .i64 x, .int .i64 y, .int .i64 i, .int .i64 j] w fun e w' => ∃ u', e = .returned (.tuple #[u', .int .i64 (res ss xss ps x y i j).2.1, .bool (res ss xss ps x y i j).2.2]) ∧ OwnInts w' w.heap.size w'.heap.size u' (res ss xss ps x y i j).1 ∧ Below w.heap.size w w' := by
  obtain ⟨va, vn, vc, ua, un, uc, na, nn, nc, rfl, rfl, rfl⟩ := h.shape
  have H := Lib.hid (h.below (below_al (Below.refl w.heap.size w) (.cells #[.slice va vn vc, .slice ua un uc, .slice na nn nc] 34)))
  have BE := Lib.hid (below_al (Below.refl w.heap.size w) (.cells #[.slice va vn vc, .slice ua un uc, .slice na nn nc] 34))
  have K0 := Lib.hid (Blk.new w 34 #[.slice va vn vc, .slice ua un uc, .slice na nn nc])
  obtain ⟨c0, c1, c2, c3⟩ := three_cells K0.out
  have HV := Lib.hid (tkt.impl_valid _ ss _ xss _ ps x y _ H.out)
  clear h
  by_cases hok : okOf ss xss ps x y
  · rw [fst_yes hok] at HV
    obtain ⟨R, C, rfl, rfl, ht, r1, r2, q1, q2⟩ := ok_nat hok
    have HO := Lib.hid hok
    have HT := Lib.hid ht
    clear hok ht
    by_cases hi : 0 ≤ i ∧ i < (R : Int)
    · obtain ⟨i1, i2⟩ := hi
      by_cases hj : 0 ≤ j ∧ j < (C : Int)
      · obtain ⟨j1, j2⟩ := hj
        obtain ⟨i, rfl⟩ : ∃ n : Nat, i = n := ⟨i.toNat, by omega⟩
        obtain ⟨j, rfl⟩ : ∃ n : Nat, j = n := ⟨j.toNat, by omega⟩
        rw [res_yes ⟨HO.out, ⟨i1, i2⟩, j1, j2⟩]
        have IR : Hid (i < R) := Lib.hid (by omega)
        have JC : Hid (j < C) := Lib.hid (by omega)
        have d1 : decide ((i : Int) < 0) = false := by simp
        have d2 : decide ((R : Int) ≤ (i : Int)) = false := by simp; omega
        have d3 : decide ((j : Int) < 0) = false := by simp
        have d4 : decide ((C : Int) ≤ (j : Int)) = false := by simp; omega
        clear r1 r2 q1 q2
        go_enter Try.func25, Try.ntmps25
        go_wp2_with fail
        refine HV.out.mono ?_
        rintro e w1 ⟨rfl, hb⟩
        have B1 := Lib.hid (below_tr BE.out hb)
        have K1 := Lib.hid (K0.out.below hb)
        have H1 := Lib.hid (H.out.below hb)
        clear hb c0 c1 c2 c3
        obtain ⟨c0, c1, c2, c3⟩ := three_cells K1.out
        go_wp2_with fail
        refine (run.impl_run _ ss _ xss _ ps R C i j _ H1.out HT.out IR.out JC.out).mono ?_
        rintro e w2 ⟨u', rfl, hu, hb⟩
        obtain ⟨xa, xl, xc, rfl⟩ := hu.ints.shape
        have HU := Lib.hid (hu.mono (by have := B1.out.size; omega) (Nat.le_refl _))
        have B2 := Lib.hid (below_tr B1.out hb)
        clear hu hb
        go_wp2_with fail
        refine bodyPost_ret (v := .tuple #[.slice xa xl xc, .int .i64 (-1 - (fin ss xss ps i j).2), .bool true]) (by simp [results, Try.results25, go_sem]) rfl ⟨_, rfl, HU.out, B2.out⟩
      · rw [res_no (fun h => hj h.2.2)]
        have d1 : decide (i < 0) = false := by simp; omega
        have d2 : decide ((R : Int) ≤ i) = false := by simp; omega
        by_cases j0 : j < 0
        · have d3 : decide (j < 0) = true := by simp [j0]
          clear hj r1 r2 q1 q2 j0
          go_enter Try.func25, Try.ntmps25
          go_wp2_with fail
          refine HV.out.mono ?_
          rintro e w1 ⟨rfl, hb⟩
          have B1 := Lib.hid (below_tr BE.out hb)
          have K1 := Lib.hid (K0.out.below hb)
          have H1 := Lib.hid (H.out.below hb)
          clear hb c0 c1 c2 c3
          obtain ⟨c0, c1, c2, c3⟩ := three_cells K1.out
          go_wp2_with fail
          refine bodyPost_ret (v := .tuple #[.slice none 0 0, .int .i64 0, .bool false]) (by simp [results, Try.results25, go_sem]) rfl ⟨_, rfl, OwnInts.nil _ _ _, B1.out⟩
        · have d3 : decide (j < 0) = false := by simp [j0]
          have d4 : decide ((C : Int) ≤ j) = true := by simp; omega
          clear hj r1 r2 q1 q2 j0
          go_enter Try.func25, Try.ntmps25
          go_wp2_with fail
          refine HV.out.mono ?_
          rintro e w1 ⟨rfl, hb⟩
          have B1 := Lib.hid (below_tr BE.out hb)
          have K1 := Lib.hid (K0.out.below hb)
          have H1 := Lib.hid (H.out.below hb)
          clear hb c0 c1 c2 c3
          obtain ⟨c0, c1, c2, c3⟩ := three_cells K1.out
          go_wp2_with fail
          refine bodyPost_ret (v := .tuple #[.slice none 0 0, .int .i64 0, .bool false]) (by simp [results, Try.results25, go_sem]) rfl ⟨_, rfl, OwnInts.nil _ _ _, B1.out⟩
    · rw [res_no (fun h => hi h.2.1)]
      by_cases j0 : i < 0
      · have d1 : decide (i < 0) = true := by simp [j0]
        clear hi r1 r2 q1 q2 j0
        go_enter Try.func25, Try.ntmps25
        go_wp2_with fail
        refine HV.out.mono ?_
        rintro e w1 ⟨rfl, hb⟩
        have B1 := Lib.hid (below_tr BE.out hb)
        have K1 := Lib.hid (K0.out.below hb)
        have H1 := Lib.hid (H.out.below hb)
        clear hb c0 c1 c2 c3
        obtain ⟨c0, c1, c2, c3⟩ := three_cells K1.out
        go_wp2_with fail
        refine bodyPost_ret (v := .tuple #[.slice none 0 0, .int .i64 0, .bool false]) (by simp [results, Try.results25, go_sem]) rfl ⟨_, rfl, OwnInts.nil _ _ _, B1.out⟩
      · have d1 : decide (i < 0) = false := by simp [j0]
        have d2 : decide ((R : Int) ≤ i) = true := by simp; omega
        clear hi r1 r2 q1 q2 j0
        go_enter Try.func25, Try.ntmps25
        go_wp2_with fail
        refine HV.out.mono ?_
        rintro e w1 ⟨rfl, hb⟩
        have B1 := Lib.hid (below_tr BE.out hb)
        have K1 := Lib.hid (K0.out.below hb)
        have H1 := Lib.hid (H.out.below hb)
        clear hb c0 c1 c2 c3
        obtain ⟨c0, c1, c2, c3⟩ := three_cells K1.out
        go_wp2_with fail
        refine bodyPost_ret (v := .tuple #[.slice none 0 0, .int .i64 0, .bool false]) (by simp [results, Try.results25, go_sem]) rfl ⟨_, rfl, OwnInts.nil _ _ _, B1.out⟩
  · rw [fst_no hok] at HV
    rw [res_no (fun h => hok h.1)]
    clear hok
    go_enter Try.func25, Try.ntmps25
    go_wp2_with fail
    refine HV.out.mono ?_
    rintro e w1 ⟨rfl, hb⟩
    have B1 := Lib.hid (below_tr BE.out hb)
    have K1 := Lib.hid (K0.out.below hb)
    have H1 := Lib.hid (H.out.below hb)
    clear hb c0 c1 c2 c3
    obtain ⟨c0, c1, c2, c3⟩ := three_cells K1.out
    go_wp2_with fail
    refine bodyPost_ret (v := .tuple #[.slice none 0 0, .int .i64 0, .bool false]) (by simp [results, Try.results25, go_sem]) rfl ⟨_, rfl, OwnInts.nil _ _ _, B1.out⟩


end Go.Proofs.Ytggodllfaggjiaa.rtk
