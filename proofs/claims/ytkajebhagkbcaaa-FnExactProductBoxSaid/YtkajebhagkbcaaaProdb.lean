/- ProductBox of the program. -/
import Derived.Test.YtkajebhagkbcaaaProd
namespace Go.Proofs.Ytkajebhagkbcaaa.prod
open Go.RowKit Go.Deep Go.Proofs.Ytkajebhagkbcaaa.base
open Go.Proofs.Ytkajebhagkbcaaa.ints (ret_int infoInt infoInts)
open Go.Proofs.Ytkajebhagkbcaaa.rws (total)
open Go.Proofs.Ytkajebhagkbcaaa.val (okSizes okBox)
open Go.Proofs.Ytkajebhagkbcaaa.play (within withinB withinB_yes withinB_no)

set_option maxRecDepth 100000 in
set_option maxHeartbeats 4000000 in
theorem impl_any (v u : Value) (fs ss : List Int) (m : Int) (w : World) (h : Ints w v fs) (h' : Ints w u ss) (hn : fs.length ≤ 1048576) (hn' : ss.length ≤ 1048576) :
    Calls Try.prog 26 #[v, u, .int .i64 m] w fun e w' => ∃ r, e = .returned (.tuple #[.agg #[.int .i64 (res fs ss m).x, .int .i64 (res fs ss m).y, .int .i64 (res fs ss m).wh, r], .bool (res fs ss m).ok]) ∧ OwnRows w' w.heap.size w'.heap.size r (res fs ss m).rows ∧ Below w.heap.size w w' := by
  have HF := Lib.hid h
  have HS := Lib.hid h'
  obtain ⟨A, _, _, cap, rfl, _⟩ := h.form
  obtain ⟨A', _, _, cap', rfl, _⟩ := h'.form
  clear h h'
  have B0 := Lib.hid (below_al (below_al (below_al (below_al (Below.refl w.heap.size w) (.cells #[.slice A fs.length cap] 30)) (.cells #[.slice A' ss.length cap'] 30)) (.cells #[.int .i64 m] 3)) (.cells #[.int .i64 0, .int .i64 0, .int .i64 0, .slice none 0 0] 24))
  have R0 : Hid (Blk ((((w.alloc (.cells #[.slice A fs.length cap] 30)).alloc (.cells #[.slice A' ss.length cap'] 30)).alloc (.cells #[.int .i64 m] 3)).alloc (.cells #[.int .i64 0, .int .i64 0, .int .i64 0, .slice none 0 0] 24)) (w.heap.size + 1 + 1 + 1) 24 #[.int .i64 0, .int .i64 0, .int .i64 0, .slice none 0 0]) := Lib.hid (by
    have := Blk.new (((w.alloc (.cells #[.slice A fs.length cap] 30)).alloc (.cells #[.slice A' ss.length cap'] 30)).alloc (.cells #[.int .i64 m] 3)) 24 #[.int .i64 0, .int .i64 0, .int .i64 0, .slice none 0 0]
    simpa using this)
  have P0 : Hid (((((w.alloc (.cells #[.slice A fs.length cap] 30)).alloc (.cells #[.slice A' ss.length cap'] 30)).alloc (.cells #[.int .i64 m] 3)).alloc (.cells #[.int .i64 0, .int .i64 0, .int .i64 0, .slice none 0 0] 24)).cell? ⟨w.heap.size, 0, none⟩ = some (.slice A fs.length cap)) := Lib.hid (cell_of_one ((((Blk.new w 30 #[.slice A fs.length cap]).alloc _).alloc _).alloc _))
  have P1 : Hid (((((w.alloc (.cells #[.slice A fs.length cap] 30)).alloc (.cells #[.slice A' ss.length cap'] 30)).alloc (.cells #[.int .i64 m] 3)).alloc (.cells #[.int .i64 0, .int .i64 0, .int .i64 0, .slice none 0 0] 24)).cell? ⟨w.heap.size + 1, 0, none⟩ = some (.slice A' ss.length cap')) := Lib.hid (by
    have := ((Blk.new (w.alloc (.cells #[.slice A fs.length cap] 30)) 30 #[.slice A' ss.length cap']).alloc (.cells #[.int .i64 m] 3)).alloc (.cells #[.int .i64 0, .int .i64 0, .int .i64 0, .slice none 0 0] 24)
    simpa using cell_of_one this)
  have P2 : Hid (((((w.alloc (.cells #[.slice A fs.length cap] 30)).alloc (.cells #[.slice A' ss.length cap'] 30)).alloc (.cells #[.int .i64 m] 3)).alloc (.cells #[.int .i64 0, .int .i64 0, .int .i64 0, .slice none 0 0] 24)).cell? ⟨w.heap.size + 1 + 1, 0, none⟩ = some (.int .i64 m)) := Lib.hid (by
    have := (Blk.new ((w.alloc (.cells #[.slice A fs.length cap] 30)).alloc (.cells #[.slice A' ss.length cap'] 30)) 3 #[.int .i64 m]).alloc (.cells #[.int .i64 0, .int .i64 0, .int .i64 0, .slice none 0 0] 24)
    simpa using cell_of_one this)
  have F0 := Lib.hid (HF.out.below B0.out)
  have S0 := Lib.hid (HS.out.below B0.out)
  have cf : ∀ (q : Nat), Hid (Calls Try.prog 65 #[.slice A fs.length cap, .int .i64 (fs.length : Int), .int .i64 0, .int .i64 m] (((((w.alloc (.cells #[.slice A fs.length cap] 30)).alloc (.cells #[.slice A' ss.length cap'] 30)).alloc (.cells #[.int .i64 m] 3)).alloc (.cells #[.int .i64 0, .int .i64 0, .int .i64 0, .slice none 0 0] 24)).drewN q) fun e w' => e = .returned (.bool (withinB fs.length 0 m fs)) ∧ ((((w.alloc (.cells #[.slice A fs.length cap] 30)).alloc (.cells #[.slice A' ss.length cap'] 30)).alloc (.cells #[.int .i64 m] 3)).alloc (.cells #[.int .i64 0, .int .i64 0, .int .i64 0, .slice none 0 0] 24)).drewN q = w') := fun q => Lib.hid (play.impl_within _ fs _ 0 m _ (F0.out.below (below_drewN (Below.refl _ _) q)))
  have cs : ∀ (q : Nat), Hid (Calls Try.prog 65 #[.slice A' ss.length cap', .int .i64 (ss.length : Int), .int .i64 0, .int .i64 m] (((((w.alloc (.cells #[.slice A fs.length cap] 30)).alloc (.cells #[.slice A' ss.length cap'] 30)).alloc (.cells #[.int .i64 m] 3)).alloc (.cells #[.int .i64 0, .int .i64 0, .int .i64 0, .slice none 0 0] 24)).drewN q) fun e w' => e = .returned (.bool (withinB ss.length 0 m ss)) ∧ ((((w.alloc (.cells #[.slice A fs.length cap] 30)).alloc (.cells #[.slice A' ss.length cap'] 30)).alloc (.cells #[.int .i64 m] 3)).alloc (.cells #[.int .i64 0, .int .i64 0, .int .i64 0, .slice none 0 0] 24)).drewN q = w') := fun q => Lib.hid (play.impl_within _ ss _ 0 m _ (S0.out.below (below_drewN (Below.refl _ _) q)))
  have CF := Lib.hid cf
  have CS := Lib.hid cs
  clear cf cs
  by_cases hs : okSizes fs.length ss.length
  · have HSZ := Lib.hid hs
    by_cases h1 : 1 ≤ m
    · have d1 : decide (m < 1) = false := by simp; omega
      by_cases h2 : m ≤ 31
      · have d2 : decide (31 < m) = false := by simp; omega
        by_cases h3 : within fs.length 0 m fs
        · have e3 := withinB_yes h3
          have E3 := Lib.hid e3
          by_cases h4 : within ss.length 0 m ss
          · have E4 := Lib.hid (withinB_yes h4)
            have hall : all fs ss m := ⟨⟨h1, h2⟩, ⟨⟨by have := hs.1; omega, by have := hs.1; omega⟩, h3.2⟩, ⟨⟨by have := hs.2; omega, by have := hs.2; omega⟩, h4.2⟩⟩
            have HE := Lib.hid (res_yes hall)
            have HALL := Lib.hid hall
            obtain ⟨q1, q2⟩ := sq_bd h1 h2
            have k5 : IntKind.i64.wrap (m * m) = m * m := IntWalk.i64_in _ (by omega)
            have HMK := Lib.hid (fun q => make_any w.heap.size (w.heap.size + 1) (w.heap.size + 1 + 1) fs.length ss.length (m * m) (N fs ss m) (((((w.alloc (.cells #[.slice A fs.length cap] 30)).alloc (.cells #[.slice A' ss.length cap'] 30)).alloc (.cells #[.int .i64 m] 3)).alloc (.cells #[.int .i64 0, .int .i64 0, .int .i64 0, .slice none 0 0] 24)).drewN q) hall.2.1.1.2 hall.2.2.1.2 (fun i j W hi hj hb => by
              have hb' : Below ((((w.alloc (.cells #[.slice A fs.length cap] 30)).alloc (.cells #[.slice A' ss.length cap'] 30)).alloc (.cells #[.int .i64 m] 3)).alloc (.cells #[.int .i64 0, .int .i64 0, .int .i64 0, .slice none 0 0] 24)).heap.size ((((w.alloc (.cells #[.slice A fs.length cap] 30)).alloc (.cells #[.slice A' ss.length cap'] 30)).alloc (.cells #[.int .i64 m] 3)).alloc (.cells #[.int .i64 0, .int .i64 0, .int .i64 0, .slice none 0 0] 24)) W := (below_tr (below_drewN (Below.refl _ _) q) hb)
              exact clo w.heap.size (w.heap.size + 1) (w.heap.size + 1 + 1) fs ss m i j _ _ W (below_cell hb' _ _ P0.out) (below_cell hb' _ _ P1.out) (below_cell hb' _ _ P2.out) (F0.out.below hb') (S0.out.below hb') HALL.out hi hj))
            have HT := Lib.hid (make.total_rowsOf (N fs ss m) _ (len9 hall))
            have HBX := Lib.hid (box_ok hall)
            clear hs h3 h4 e3 hall
            go_enter Try.func26, Try.ntmps26
            go_wp2_with fail
            go_quiet (fail)
            go_wp2_with fail
            refine (val.isizes_yes _ _ _ HSZ.out).mono ?_
            rintro e w' ⟨rfl, rfl⟩
            go_wp2_with fail
            refine ((CF.out _).out).mono ?_
            rintro e w' ⟨rfl, rfl⟩
            rw [E3.out]
            go_wp2_with fail
            refine ((CS.out _).out).mono ?_
            rintro e w' ⟨rfl, rfl⟩
            rw [E4.out]
            go_wp2_with fail
            refine (HMK.out _).mono ?_
            rintro e w1 ⟨r, rfl, hu, hb⟩
            have B1 := Lib.hid (below_tr (below_drewN B0.out _) hb)
            have R1 := Lib.hid (R0.out.below (below_tr (below_drewN (Below.refl _ _) _) hb))
            have U1 := Lib.hid (hu.mono (B' := w.heap.size + 1 + 1 + 1 + 1) (by simp [World.drewN]) (Nat.le_refl _))
            obtain ⟨ua, ul, uc, rfl⟩ := hu.rows.shape
            have hz := R1.out.lt
            clear hu hb HMK R0 P0 P1 P2 B0
            go_wp2_with fail
            refine (make.valid_yes _ _ _ _ _ w1 U1.out.rows HT.out HBX.out).mono ?_
            rintro e w2 ⟨rfl, hb⟩
            have B2 := Lib.hid (below_tr B1.out hb)
            have R2 := Lib.hid (R1.out.below hb)
            have U2 := Lib.hid (U1.out.keep hb)
            have hz2 := Lib.hid hb.size
            obtain ⟨r0, r1, r2, r3, r4⟩ := four_cells R2.out
            have rf : ∀ k, w2.frozen? ⟨w.heap.size + 1 + 1 + 1, k, none⟩ = false := fun k => Joins.unfrozen_of_block R2.out k
            clear hb B1 R1 U1
            go_wp2_with fail
            refine bodyPost_ret (v := .tuple #[.agg #[.int .i64 (fs.length : Int), .int .i64 (ss.length : Int), .int .i64 (m * m), .slice ua ul uc], .bool true]) (by simp [results, Try.results26, go_sem, r0, r1, r2, r3]) rfl ?_
            rw [HE.out]
            refine ⟨_, rfl, ?_, ?_⟩
            · refine (U2.out.wrote (S := fun p => p.block < w.heap.size + 1 + 1 + 1 + 1) ?_ (fun p hp => .inl hp)).mono (by omega) (by have := hz2.out; simpa [World.setCell] using this)
              repeat (first | exact Wrote.refl _ _ | refine Wrote.setCell ?_ (by simp) _)
            · repeat (refine Below.setCell ?_ (by simp <;> omega) _)
              exact B2.out
          · have E4 := Lib.hid (withinB_no h4)
            have HE := Lib.hid (res_no (fs := fs) (ss := ss) (m := m) (fun h => h4 ⟨rfl, h.2.2.2⟩))
            clear hs h3 h4 e3 R0 P0 P1 P2
            go_enter Try.func26, Try.ntmps26
            go_wp2_with fail
            go_quiet (fail)
            go_wp2_with fail
            refine (val.isizes_yes _ _ _ HSZ.out).mono ?_
            rintro e w' ⟨rfl, rfl⟩
            go_wp2_with fail
            refine ((CF.out _).out).mono ?_
            rintro e w' ⟨rfl, rfl⟩
            rw [E3.out]
            go_wp2_with fail
            refine ((CS.out _).out).mono ?_
            rintro e w' ⟨rfl, rfl⟩
            rw [E4.out]
            go_wp2_with fail
            refine bodyPost_ret (v := .tuple #[.agg #[.int .i64 0, .int .i64 0, .int .i64 0, .slice none 0 0], .bool false]) (by simp [results, Try.results26, go_sem]) rfl ?_
            rw [HE.out]
            refine ⟨_, rfl, OwnRows.nil _ _ _, ?_⟩
            exact Below.setCell (Below.setCell (Below.setCell (Below.setCell (below_drewN B0.out _) (by simp <;> omega) _) (by simp <;> omega) _) (by simp <;> omega) _) (by simp <;> omega) _
        · have E3 := Lib.hid (withinB_no h3)
          have HE := Lib.hid (res_no (fs := fs) (ss := ss) (m := m) (fun h => h3 ⟨rfl, h.2.1.2⟩))
          clear hs h3 R0 P0 P1 P2
          go_enter Try.func26, Try.ntmps26
          go_wp2_with fail
          go_quiet (fail)
          go_wp2_with fail
          refine (val.isizes_yes _ _ _ HSZ.out).mono ?_
          rintro e w' ⟨rfl, rfl⟩
          go_wp2_with fail
          refine ((CF.out _).out).mono ?_
          rintro e w' ⟨rfl, rfl⟩
          rw [E3.out]
          go_wp2_with fail
          refine bodyPost_ret (v := .tuple #[.agg #[.int .i64 0, .int .i64 0, .int .i64 0, .slice none 0 0], .bool false]) (by simp [results, Try.results26, go_sem]) rfl ?_
          rw [HE.out]
          refine ⟨_, rfl, OwnRows.nil _ _ _, ?_⟩
          exact Below.setCell (Below.setCell (Below.setCell (Below.setCell (below_drewN B0.out _) (by simp <;> omega) _) (by simp <;> omega) _) (by simp <;> omega) _) (by simp <;> omega) _
      · have d2 : decide (31 < m) = true := by simp; omega
        have HE := Lib.hid (res_no (fs := fs) (ss := ss) (m := m) (fun h => h2 h.1.2))
        clear hs R0 P0 P1 P2
        go_enter Try.func26, Try.ntmps26
        go_wp2_with fail
        go_quiet (fail)
        go_wp2_with fail
        refine (val.isizes_yes _ _ _ HSZ.out).mono ?_
        rintro e w' ⟨rfl, rfl⟩
        go_wp2_with fail
        refine bodyPost_ret (v := .tuple #[.agg #[.int .i64 0, .int .i64 0, .int .i64 0, .slice none 0 0], .bool false]) (by simp [results, Try.results26, go_sem]) rfl ?_
        rw [HE.out]
        refine ⟨_, rfl, OwnRows.nil _ _ _, ?_⟩
        exact Below.setCell (Below.setCell (Below.setCell (Below.setCell (below_drewN B0.out _) (by simp <;> omega) _) (by simp <;> omega) _) (by simp <;> omega) _) (by simp <;> omega) _
    · have d1 : decide (m < 1) = true := by simp; omega
      have HE := Lib.hid (res_no (fs := fs) (ss := ss) (m := m) (fun h => h1 h.1.1))
      clear hs R0 P0 P1 P2
      go_enter Try.func26, Try.ntmps26
      go_wp2_with fail
      go_quiet (fail)
      go_wp2_with fail
      refine (val.isizes_yes _ _ _ HSZ.out).mono ?_
      rintro e w' ⟨rfl, rfl⟩
      go_wp2_with fail
      refine bodyPost_ret (v := .tuple #[.agg #[.int .i64 0, .int .i64 0, .int .i64 0, .slice none 0 0], .bool false]) (by simp [results, Try.results26, go_sem]) rfl ?_
      rw [HE.out]
      refine ⟨_, rfl, OwnRows.nil _ _ _, ?_⟩
      exact Below.setCell (Below.setCell (Below.setCell (Below.setCell (below_drewN B0.out _) (by simp <;> omega) _) (by simp <;> omega) _) (by simp <;> omega) _) (by simp <;> omega) _
  · have HE := Lib.hid (res_no (fs := fs) (ss := ss) (m := m) (fun h => hs ⟨by have := h.2.1.1; omega, by have := h.2.2.1; omega⟩))
    have HSZ := Lib.hid hs
    clear hs R0 P0 P1 P2
    go_enter Try.func26, Try.ntmps26
    go_wp2_with fail
    go_quiet (fail)
    go_wp2_with fail
    refine (val.isizes_no _ _ _ HSZ.out).mono ?_
    rintro e w' ⟨rfl, rfl⟩
    go_wp2_with fail
    refine bodyPost_ret (v := .tuple #[.agg #[.int .i64 0, .int .i64 0, .int .i64 0, .slice none 0 0], .bool false]) (by simp [results, Try.results26, go_sem]) rfl ?_
    rw [HE.out]
    refine ⟨_, rfl, OwnRows.nil _ _ _, ?_⟩
    exact Below.setCell (Below.setCell (Below.setCell (Below.setCell (below_drewN B0.out _) (by simp <;> omega) _) (by simp <;> omega) _) (by simp <;> omega) _) (by simp <;> omega) _

end Go.Proofs.Ytkajebhagkbcaaa.prod
