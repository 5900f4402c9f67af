/- TurnTask: both sides. -/
import Derived.Test.YtggodllfaggjiaaTur
import Derived.Laws.CopyOwn
namespace Go.Proofs.Ytggodllfaggjiaa.trn
open Go.RowKit Go.Deep Go.Proofs.Ytggodllfaggjiaa.base
open Go.Proofs.Ytggodllfaggjiaa.ints (ret_int infoInt infoInts)
open Go.Proofs.Ytggodllfaggjiaa.task (okTask wide taskB taskB_yes taskB_no)
open Go.Proofs.Ytggodllfaggjiaa.grid
open Go.Proofs.Ytggodllfaggjiaa.tur


set_option maxRecDepth 100000 in
set_option maxHeartbeats 4000000 in
theorem spec_any (v : Value) (xss : List (List Int)) (w : World) (h : IRows w v xss) :
    Calls Try.prog 39 #[v] w fun e w' => ∃ u', e = .returned (.tuple #[u', .bool (res xss).2]) ∧ IRows w' u' (res xss).1 ∧ Below w.heap.size w w' := by
  have HT := Lib.hid (task.spec_task v xss (w.alloc (.cells #[] 27)) (h.below (below_al (Below.refl _ _) _)))
  by_cases hok : okTask xss
  · rw [taskB_yes hok] at HT
    rw [res_yes hok]
    obtain ⟨s0, si, sz0, sz1, sz2⟩ := info_parts infoInts
    obtain ⟨i0, hi, hz0, hz1, hz2⟩ := info_parts infoInt
    obtain ⟨B, d, cap, rb, ro, rcc, rfl, hcells⟩ := cells h hok
    have HC := Lib.hid hcells
    have a0 := Lib.hid (hcells 0 (by have := hok.1.1; omega)).1
    have aa := a0.out
    rw [Nat.add_zero] at aa
    have A0 := Lib.hid aa
    have p0 : (0 : Int) < (xss.length : Int) := by have := hok.1.1; omega
    have hX := hok.1.2
    have hY := hok.2.1.2
    obtain ⟨Y, hYe⟩ : ∃ Y, wide xss = Y := ⟨_, rfl⟩
    obtain ⟨X, hXe⟩ : ∃ X, xss.length = X := ⟨_, rfl⟩
    rw [hYe] at hY HC A0 ⊢
    rw [hXe] at hX HC p0 HT ⊢
    clear hYe hXe aa a0 hcells h hok
    have P0 : ∀ n, Hid (pile.Pile w ((w.alloc (.cells #[] 27)).drewN n) w.heap.size ((w.alloc (.cells #[] 27)).drewN n).heap.size (.slice (some ⟨w.heap.size, 0, none⟩) 0 0) [] (cols xss X 0)) := fun n => Lib.hid (by
      have := pile.start (below_al (Below.refl w.heap.size w) (.cells #[] 27)) (Nat.le_refl _) (by
        have := World.ownsRow_made (base := w.heap.size) (e := 27) (size := 1) w #[] 0 (Nat.le_refl _) (Nat.zero_le _) rfl
        simpa using this) (by simp)
      exact this.keep (below_drewN (Below.refl _ _) n))
    have HP0 := Lib.hid P0
    clear P0
    go_enter Try.func39, Try.ntmps39
    go_wp2_with fail
    refine HT.out.mono ?_
    rintro e w' ⟨rfl, n, rfl⟩
    go_wp2_with fail
    go_loopw [4, 5, 6, 7] (fun v j z6 z7 wr => ∃ r : Nat, r ≤ Y ∧ j = .int .i64 r ∧ (∃ z', z6 = z') ∧ (∃ z', z7 = z') ∧ ∃ vals, Hid (pile.Pile w wr w.heap.size wr.heap.size v vals (cols xss X r))) (fun _ j _ _ _ => Y - (intOf j).toNat)
    case atStart => exact ⟨0, Nat.zero_le _, rfl, ⟨_, rfl⟩, ⟨_, rfl⟩, _, HP0.out n⟩
    case round =>
      obtain ⟨r, hr, rfl, ⟨z6, rfl⟩, ⟨z7, rfl⟩, vals, hP⟩ := hrel
      clear HP0 HT
      obtain ⟨wo, rfl⟩ : ∃ wo : World, wo = wr := ⟨_, rfl⟩
      have BO := Lib.hid hP.out.below
      have a1 := below_cell BO.out _ _ A0.out
      by_cases hlt : r < Y
      · have hkz : (r : Int) < (Y : Int) := by omega
        have P1 := Lib.hid (hP.out.keep (below_al (Below.refl _ _) (.cells #[] 3)))
        have Q1 : Hid ((wo.alloc (.cells #[] 3)).ownsRow wo.heap.size 3 1 (.slice (some ⟨wo.heap.size, 0, none⟩) 0 0) 0 (i64s (col xss 0 r))) := Lib.hid (by
          have := World.ownsRow_made (base := wo.heap.size) (e := 3) (size := 1) wo #[] 0 (Nat.le_refl _) (Nat.zero_le _) rfl
          simpa [i64s, col] using this)
        obtain ⟨m, hm⟩ : ∃ m, wo.heap.size = m := ⟨_, rfl⟩
        have hmz : w.heap.size ≤ m := by rw [← hm]; exact hP.out.below.size
        have P1' : Hid (pile.Pile w (wo.alloc (.cells #[] 3)) w.heap.size m u4 vals (cols xss X r)) := Lib.hid (hm ▸ P1.out)
        have Q1' : Hid ((wo.alloc (.cells #[] 3)).ownsRow m 3 1 (.slice (some ⟨m, 0, none⟩) 0 0) 0 (i64s (col xss 0 r))) := Lib.hid (by have := Q1.out; rw [hm] at this; exact this)
        clear P1 Q1
        go_wp2_with fail
        clear hm hP a1 BO
        go_loopw [6, 7] (fun q' j wi => ∃ c : Nat, c ≤ X ∧ j = .int .i64 c ∧ Hid (wi.ownsRow m 3 1 q' c (i64s (col xss c r))) ∧ Hid (pile.Pile w wi w.heap.size m u4 vals (cols xss X r))) (fun _ j _ => X - (intOf j).toNat)
        case atStart => exact ⟨0, Nat.zero_le _, rfl, Q1', P1'⟩
        case round =>
          clear P1' Q1'
          obtain ⟨c, hcl, rfl, hQ, hP⟩ := hrel
          obtain ⟨wi, rfl⟩ : ∃ wi : World, wi = wr := ⟨_, rfl⟩
          have BI := Lib.hid hP.out.below
          by_cases hlc : c < X
          · have hkc : (c : Int) < (X : Int) := by omega
            have e1 := below_cell BI.out _ _ (HC.out c hlc).1
            have e2 := below_cell BI.out _ _ ((HC.out c hlc).2 r hlt)
            have HDT := Lib.hid (col_succ xss c r)
            have hszm := hP.out.le
            generalize nn xss c r = n at *
            have HQA := Lib.hid ((app.owns_below hQ.out (below_al (Below.refl _ _) (.cells #[.int .i64 n] 3))))
            have HPA := Lib.hid (hP.out.keep (below_al (Below.refl _ _) (.cells #[.int .i64 n] 3)))
            go_wp2_with (at_builtin; go_must (refine wpList_append_own _ rfl (.tmp 28) (.tmp 36) 27 rfl m 3 i0 (.int .i64 0) 1 8 Try.underlying27 hi hz0 hz1 hz2 rfl (by decide) _ _ _ rfl HQA.out ⟨wi.heap.size, 0, none⟩ 1 1 [.int .i64 n] rfl rfl ?c1 ?c2 ?c3 ?c4 ?c5 ?_))
            try (case c1 => exact app.one_at _ _ _)
            case c2 => first | rfl | (intro u hu; simp at hu; subst hu; rfl)
            case c3 => unfold maxLen; omega
            case c4 => omega
            try (case c5 => first | omega | (simp; omega))
            intro v' w3 hown' hgrow _
            have P3 := Lib.hid (HPA.out.inner HQA.out hgrow)
            have Q3 : Hid (w3.ownsRow m 3 1 v' (c + 1) (i64s (col xss (c + 1) r))) := Lib.hid (by rw [HDT.out, ← app.i64s_snoc]; exact hown')
            clear hown' hgrow hQ hP HQA HPA e1 e2 HDT BI
            go_wp2_with fail
            go_roundw
            case rel => exact ⟨c + 1, by omega, by go_num, Q3, P3⟩
            case measure => simp [intOf]; omega
          · have hkc : ¬ (c : Int) < (X : Int) := by omega
            obtain rfl : c = X := by omega
            obtain ⟨qa, ql, qc, rfl⟩ := make.shape hQ.out
            have U0 := Lib.hid ((app.ints_of_owns hQ.out).keep (below_al (Below.refl _ _) (.cells #[.slice qa ql qc] 27)))
            have T0 := Lib.hid (pile.typ_owns (hQ.out.alloc (.cells #[.slice qa ql qc] 27)))
            have P2 := Lib.hid (hP.out.keep (below_al (Below.refl _ _) (.cells #[.slice qa ql qc] 27)))
            have hsz := hP.out.below.size
            have hszm := hP.out.le
            have hge := hP.out.ge
            have hlu := Lib.hid (len_cols xss c r)
            have HRS := Lib.hid (cols_succ xss c r)
            go_wp2_with (at_builtin; go_must (refine wpList_append_own _ rfl (.tmp 38) (.tmp 40) 22 rfl w.heap.size 27 s0 (.slice none 0 0) 1 24 Try.underlying22 si sz0 sz1 sz2 rfl (by decide) _ _ _ rfl P2.out.owns ⟨wi.heap.size, 0, none⟩ 1 1 [.slice qa ql qc] rfl rfl ?d1 ?d2 ?d3 ?d4 ?d5 ?_))
            try (case d1 => exact app.one_at _ _ _)
            case d2 => first | rfl | (intro u hu; simp at hu; subst hu; rfl)
            case d3 => rw [hlu.out]; unfold maxLen; omega
            case d4 => rw [hlu.out]; omega
            try (case d5 => first | omega | (simp; omega))
            intro v' w3 hown' hgrow _
            have P4 : Hid (pile.Pile w w3 w.heap.size w3.heap.size v' (vals ++ [.slice qa ql qc]) (cols xss c (r + 1))) := Lib.hid (by
              rw [HRS.out]
              exact P2.out.grow U0.out (Nat.le_refl _) (by simp) T0.out hown' hgrow)
            obtain ⟨xa, xl, xc, rfl⟩ := make.shape hown'
            clear hown' hgrow P2 U0 T0 hP hQ BI
            go_wp2_with fail
            go_roundw
            case rel => exact ⟨r + 1, by omega, by go_num, ⟨_, rfl⟩, ⟨_, rfl⟩, _, P4⟩
            case measure => simp [intOf]; omega
      · have hkz : ¬ (r : Int) < (Y : Int) := by omega
        obtain rfl : r = Y := by omega
        obtain ⟨xa, xl, xc, rfl⟩ := make.shape hP.out.owns
        go_wp2_with fail
        go_ret2
        exact ⟨_, rfl, hP.out.rows.rows, hP.out.below⟩
  · rw [taskB_no hok] at HT
    rw [res_no hok]
    obtain ⟨va, vn, vc, rfl⟩ := h.shape
    clear hok h
    go_enter Try.func39, Try.ntmps39
    go_wp2_with fail
    refine HT.out.mono ?_
    rintro e w' ⟨rfl, n, rfl⟩
    go_wp2_with fail
    go_ret2
    exact ⟨_, rfl, app.empties _ _ _ (Nat.zero_le _), below_drewN (below_al (Below.refl _ _) _) _⟩



/-- what stands in the table when r rows are done, and c numbers of the next -/
def C (xss : List (List Int)) (r c d : Nat) : List Int := col xss (if d < c then r + 1 else r) d
theorem C_zero (xss : List (List Int)) (r : Nat) : C xss r 0 = fun d => col xss r d := by funext d; simp [C]
theorem C_step (xss : List (List Int)) (r c : Nat) : (fun d => if d = c then C xss r c c ++ [nn xss r c] else C xss r c d) = C xss r (c + 1) := by
  funext d
  unfold C
  by_cases e : d = c
  · subst e
    rw [if_pos rfl, if_neg (Nat.lt_irrefl d), if_pos (Nat.lt_succ_self d), col_succ]
  · rw [if_neg e]
    by_cases h : d < c
    · rw [if_pos h, if_pos (by omega)]
    · rw [if_neg h, if_neg (by omega)]
theorem C_len (xss : List (List Int)) (r c : Nat) : (C xss r c c).length = r := by unfold C; rw [if_neg (Nat.lt_irrefl c), len_col]
theorem C_end (xss : List (List Int)) (r : Nat) {Y : Nat} : ∀ d, d < Y → C xss r Y d = C xss (r + 1) 0 d := fun d hd => by unfold C; rw [if_pos hd, if_neg (Nat.not_lt_zero d)]

set_option maxRecDepth 100000 in
set_option maxHeartbeats 4000000 in
theorem impl_any (v : Value) (xss : List (List Int)) (w : World) (h : IRows w v xss) :
    Calls Try.prog 40 #[v] w fun e w' => ∃ u', e = .returned (.tuple #[u', .bool (res xss).2]) ∧ OwnRows w' w.heap.size w'.heap.size u' (res xss).1 ∧ Below w.heap.size w w' := by
  have HT := Lib.hid (task.impl_is v xss w h)
  by_cases hok : okTask xss
  · rw [taskB_yes hok] at HT
    rw [res_yes hok]
    obtain ⟨i0, hi, hz0, hz1, hz2⟩ := info_parts infoInt
    obtain ⟨B, d, cap, rb, ro, rcc, rfl, hcells⟩ := cells h hok
    have HC := Lib.hid hcells
    have a0 := (hcells 0 (by have := hok.1.1; omega)).1
    rw [Nat.add_zero] at a0
    have p0 : (0 : Int) < (xss.length : Int) := by have := hok.1.1; omega
    have hX := hok.1.2
    have hY := hok.2.1.2
    obtain ⟨Y, hYe⟩ : ∃ Y, wide xss = Y := ⟨_, rfl⟩
    obtain ⟨X, hXe⟩ : ∃ X, xss.length = X := ⟨_, rfl⟩
    rw [hYe] at hY HC a0 ⊢
    rw [hXe] at hX HC p0 HT ⊢
    clear hYe hXe hcells h hok
    have T0 : Hid (Tur w (w.alloc (.cells (madeCells #[.slice none 0 0] Y) 27)) w.heap.size Y (fun _ => .slice none 0 0) (C xss 0 0)) := Lib.hid ((Tur.start (Below.refl _ _)).congr (fun c _ => by simp [C, col]))
    have HMK := Lib.hid (fun W => run_make_row' (P := Try.prog) 22 27 (.slice none 0 0) 24 Try.underlying22 infoInts rfl .i64 .i64 Y (by omega) (by omega) W)
    have HML : Hid (Y ≤ maxLen) := Lib.hid (by unfold maxLen; omega)
    have HMK2 := HMK.out
    clear HMK
    go_enter Try.func40, Try.ntmps40
    go_wp2_with fail
    refine HT.out.mono ?_
    rintro e w' ⟨rfl, rfl⟩
    go_wp2_with fail
    clear HMK2 a0
    go_loopw [6, 7, 8, 19] (fun z6 z7 z8 i wr => ∃ r : Nat, r ≤ X ∧ i = .int .i64 r ∧ (∃ z', z6 = z') ∧ (∃ z', z7 = z') ∧ (∃ z', z8 = z') ∧ ∃ f, Hid (Tur w wr w.heap.size Y f (C xss r 0))) (fun _ _ _ i _ => X - (intOf i).toNat)
    case atStart => exact ⟨0, Nat.zero_le _, rfl, ⟨_, rfl⟩, ⟨_, rfl⟩, ⟨_, rfl⟩, _, T0⟩
    case round =>
      obtain ⟨r, hr, rfl, ⟨z6, rfl⟩, ⟨z7, rfl⟩, ⟨z8, rfl⟩, f, hT⟩ := hrel
      clear T0 HT
      obtain ⟨wo, rfl⟩ : ∃ wo : World, wo = wr := ⟨_, rfl⟩
      by_cases hlt : r < X
      · have hkz : (r : Int) < (X : Int) := by omega
        have e1 := below_cell hT.out.below _ _ (HC.out r hlt).1
        go_wp2_with fail
        clear e1
        go_loopw [7, 8, 25] (fun z7 z8 j wi => ∃ c : Nat, c ≤ Y ∧ j = .int .i64 c ∧ (∃ z', z7 = z') ∧ (∃ z', z8 = z') ∧ ∃ f, Hid (Tur w wi w.heap.size Y f (C xss r c))) (fun _ _ j _ => Y - (intOf j).toNat)
        case atStart => exact ⟨0, Nat.zero_le _, rfl, ⟨_, rfl⟩, ⟨_, rfl⟩, _, hT⟩
        case round =>
          clear hT
          obtain ⟨c, hcl, rfl, ⟨z7, rfl⟩, ⟨z8, rfl⟩, f2, hT⟩ := hrel
          obtain ⟨wi, rfl⟩ : ∃ wi : World, wi = wr := ⟨_, rfl⟩
          by_cases hlc : c < Y
          · have hkc : (c : Int) < (Y : Int) := by omega
            have e1 := below_cell hT.out.below _ _ ((HC.out r hlt).2 c hlc)
            have HST := Lib.hid (C_step xss r c)
            have HCL := Lib.hid (C_len xss r c)
            generalize nn xss r c = n at *
            have hT2 := Lib.hid (hT.out.keep (below_al (Below.refl _ _) (.cells #[.int .i64 n] 3)))
            have g1 := hT.out.tab.cell hlc
            obtain ⟨qa, ql, qc, hsh⟩ := boxl.shapez (hT.out.own c hlc)
            have HQ := Lib.hid (hT2.out.own c hlc)
            have hsz := hT.out.below.size
            have hgl := hT.out.tab.lt
            rw [hsh] at g1 HQ
            rw [HCL.out] at HQ
            go_wp2_with (at_builtin; go_must (refine boxl.app_lies rfl (.tmp 35) (.tmp 37) 27 rfl (w.heap.size + 1) 3 i0 (.int .i64 0) 1 8 Try.underlying27 hi hz0 hz1 hz2 rfl (by decide) _ _ _ rfl HQ.out ⟨wi.heap.size, 0, none⟩ 1 1 [.int .i64 n] rfl rfl ?c1 ?c2 ?c3 ?c4 ?c5 ?c6 ?_))
            try (case c1 => exact app.one_at _ _ _)
            try (case c2 => first | rfl | (intro u hu; simp at hu; subst hu; rfl))
            try (case c3 => unfold maxLen; omega)
            try (case c4 => omega)
            try (case c5 => first | omega | (simp; omega))
            try (case c6 => omega)
            intro v' w3 hown' hgrow hlies
            have hsh2 := make.shape hown'
            have T3 := Lib.hid (hT2.out.step hlc (x := n) (by rw [HCL.out]; exact hown') (by rw [hsh]; exact hgrow) (by rw [hsh]; simpa using hlies))
            obtain ⟨xa, xl, xc, rfl⟩ := hsh2
            have g3 := (T3.out.tab.lt)
            have fr : ∀ k, w3.frozen? ⟨w.heap.size, k, none⟩ = false := fun k => by
              have := (hT2.out.tab.of_block (w' := w3) (hgrow.block _ hT2.out.tab.lt (fun e => by have := (hT2.out.own c hlc).lt _ (by rw [hsh]; exact e.symm); omega))).frozen k
              exact this
            have gc : ∃ u, w3.cell? ⟨w.heap.size, c, none⟩ = some u := ⟨_, (hT2.out.tab.of_block (w' := w3) (hgrow.block _ hT2.out.tab.lt (fun e => by have := (hT2.out.own c hlc).lt _ (by rw [hsh]; exact e.symm); omega))).cell hlc⟩
            obtain ⟨uc, gc⟩ := gc
            rw [HST.out] at T3
            clear hown' hgrow hlies hT hT2 HQ e1 g1 HST HCL hsh
            go_wp2_with fail
            go_roundw
            case rel => exact ⟨c + 1, by omega, by go_num, ⟨_, rfl⟩, ⟨_, rfl⟩, _, T3⟩
            case measure => simp [intOf]; omega
          · have hkc : ¬ (c : Int) < (Y : Int) := by omega
            obtain rfl : c = Y := by omega
            have T4 := Lib.hid (hT.out.congr (C_end xss r))
            go_wp2_with fail
            go_roundw
            case rel => exact ⟨r + 1, by omega, by go_num, ⟨_, rfl⟩, ⟨_, rfl⟩, ⟨_, rfl⟩, _, T4⟩
            case measure => simp [intOf]; omega
      · have hkz : ¬ (r : Int) < (X : Int) := by omega
        obtain rfl : r = X := by omega
        have R := Lib.hid ((hT.out.congr (D := fun c => col xss r c) (fun c _ => by rw [C_zero])).rows HML.out)
        go_wp2_with fail
        go_ret2
        exact ⟨_, rfl, R.out, hT.out.below⟩
  · rw [taskB_no hok] at HT
    rw [res_no hok]
    obtain ⟨va, vn, vc, rfl⟩ := h.shape
    clear hok h
    go_enter Try.func40, Try.ntmps40
    go_wp2_with fail
    refine HT.out.mono ?_
    rintro e w' ⟨rfl, rfl⟩
    go_wp2_with fail
    go_ret2
    exact ⟨_, rfl, OwnRows.nil _ _ _, Below.refl _ _⟩


end Go.Proofs.Ytggodllfaggjiaa.trn
