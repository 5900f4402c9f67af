/- l8Run of the model, runTalk of the program. -/
import Derived.Test.YtggodllfaggjiaaRunm
import Derived.Test.YtggodllfaggjiaaTki
import Derived.Test.YtggodllfaggjiaaApl
import Derived.Test.YtggodllfaggjiaaMk
namespace Go.Proofs.Ytggodllfaggjiaa.run
open Go.RowKit Go.Deep Go.Proofs.Ytggodllfaggjiaa.base
open Go.Proofs.Ytggodllfaggjiaa.ints (ret_int infoInt)
open Go.Proofs.Ytggodllfaggjiaa.talk (TV)
open Go.Proofs.Ytggodllfaggjiaa.prt (two_cells)
open Go.Proofs.Ytggodllfaggjiaa.scene (three_cells)
open Go.Proofs.Ytggodllfaggjiaa.tkv
open Go.Proofs.Ytggodllfaggjiaa.runm

/-- the rows of a Talk, and their bits -/
theorem row_at {w : World} {v : Value} {row : List Int} {n : Nat} (h : Ints w v row) (hw : play.within n 0 1 row) (hn : 0 < n) :
    ∃ b o cap, v = .slice (some ⟨b, o, none⟩) n cap ∧ ∀ c, c < n → w.cell? ⟨b, o + c, none⟩ = some (.int .i64 (row.getD c 0)) ∧ (row.getD c 0 = 0 ∨ row.getD c 0 = 1) := by
  obtain ⟨A, b, o, cap, e, _, _, hA, hc⟩ := h.form
  have hl : row.length = n := by have := hw.1; omega
  refine ⟨b, o, cap, by rw [e, hA (by omega), hl], fun c hcn => ?_⟩
  have hcl : c < row.length := by omega
  have e2 : row.getD c 0 = row[c] := by simp [List.getD, hcl]
  rw [e2]
  exact ⟨hc c hcl, by have := hw.2 c hcl; omega⟩


set_option maxRecDepth 100000 in
set_option maxHeartbeats 4000000 in
theorem spec_run (sv : Value) (ss : List Int) (u : Value) (xss : List (List Int)) (nv : Value) (ps : List (Int × Int)) (R C i j : Nat) (w : World) (h : TV w sv ss u xss nv ps) (hok : okTalk ss xss ps R C) (hi : i < R) (hj : j < C) :
    Calls Try.prog 66 #[.agg #[sv, u, nv], .int .i64 i, .int .i64 j] w fun e w' => ∃ u', e = .returned (.tuple #[u', .int .i64 (-1 - (fin ss xss ps i j).2)]) ∧ OwnInts w' w.heap.size w'.heap.size u' (fin ss xss ps i j).1 ∧ Below w.heap.size w w' := by
  obtain ⟨i0, hi0, hz0, hz1, hz2⟩ := info_parts infoInt
  obtain ⟨A, cap, rfl⟩ : ∃ A c, sv = .slice A ss.length c := by obtain ⟨A, c, hv, _⟩ := h.ints; exact ⟨A, c, by rw [hv, len_i64s]⟩
  obtain ⟨U, cap2, rfl⟩ : ∃ A c, u = .slice A xss.length c := by obtain ⟨A, b, o, cap, R, hu, _⟩ := h.rows.form; exact ⟨A, cap, hu⟩
  obtain ⟨N, cap3, rfl⟩ : ∃ A c, nv = .slice A ps.length c := by obtain ⟨A, c, hv, _⟩ := h.prs; exact ⟨A, c, hv⟩
  obtain ⟨W0, hW0⟩ : ∃ W0, W0 = (w.alloc (.cells #[.slice A ss.length cap, .slice U xss.length cap2, .slice N ps.length cap3] 34)) := ⟨_, rfl⟩
  have B0 : Hid (Below w.heap.size w W0) := Lib.hid (by rw [hW0]; exact below_al (Below.refl w.heap.size w) _)
  obtain ⟨b, o, cap', d, q, cap2', g, p, cap3', F, e1, e2, e3, hS, hX, hP⟩ := cells (h.below B0.out) hok.ge hok.says hok.next
  injection e1 with e1 f1 g1
  injection e2 with e2 f2 g2
  injection e3 with e3 f3 g3
  subst e1; subst e2; subst e3; subst g1; subst g2; subst g3
  clear f2 f3
  try clear f1
  have KT : Hid (Blk W0 w.heap.size 34 #[.slice (some ⟨b, o, none⟩) ss.length cap, .slice (some ⟨d, q, none⟩) xss.length cap2, .slice (some ⟨g, p, none⟩) ps.length cap3]) := Lib.hid (by rw [hW0]; exact Blk.new _ _ _)
  have Z0 : Hid (W0.heap.size = w.heap.size + 1) := Lib.hid (by rw [hW0]; simp)
  have HST : Hid (Below W0.heap.size W0 (W0.alloc (.cells #[] 3)) ∧ (W0.alloc (.cells #[] 3)).ownsRow W0.heap.size 3 1 (.slice (some ⟨w.heap.size + 1, 0, none⟩) 0 0) 0 (i64s [])) := Lib.hid ⟨below_al (Below.refl _ _) _, by
    rw [← Z0.out]
    have := World.ownsRow_made (base := W0.heap.size) (e := 3) (size := 1) W0 #[] 0 (Nat.le_refl _) (Nat.zero_le _) rfl
    simpa [i64s] using this⟩
  have HW0 := Lib.hid hW0
  have HOK := Lib.hid hok
  have XS := Lib.hid hS
  have XX := Lib.hid hX
  have XP := Lib.hid hP
  have HX := Lib.hid hok.says
  have HN0 := Lib.hid hok.next
  have HI := Lib.hid hi
  have HJ := Lib.hid hj
  have HA0 := Lib.hid (At.start hok i j)
  have iz0 := fun W => tki.iy0 (i : Int) (j : Int) W
  have iz1 := fun W => tki.iy1 (i : Int) (j : Int) W
  clear h hok hS hX hP hi hj hW0
  go_enter Try.func66, Try.ntmps66
  go_wp2_with fail
  have e0 : (w.alloc (.cells #[.slice (some ⟨b, o, none⟩) ss.length cap, .slice (some ⟨d, q, none⟩) xss.length cap2, .slice (some ⟨g, p, none⟩) ps.length cap3] 34)) = W0 := HW0.out.symm
  go_loopw [8, 9, 10] (fun v s z10 wr => ∃ z : Int, s = .int .i64 z ∧ (∃ z, z10 = z) ∧ ∃ l, Hid (At ss xss ps i j l z) ∧ Hid (Below W0.heap.size W0 wr ∧ wr.ownsRow W0.heap.size 3 1 v l.length (i64s l))) (fun _ s _ _ => meas ss.length (intOf s))
  case atStart => exact ⟨_, rfl, ⟨_, rfl⟩, [], HA0.out, by first | exact HST.out | (rw [← HW0.out]; exact HST.out)⟩
  case round =>
    clear HST HA0 e0
    obtain ⟨z, rfl, ⟨z10, rfl⟩, l, hat, hST⟩ := hrel
    obtain ⟨wo, rfl⟩ : ∃ wo : World, wo = wr := ⟨_, rfl⟩
    have BW := Lib.hid (below_tr (by exact B0.out) hST.out.1)
    obtain ⟨c0, c1, c2, c3⟩ := three_cells (KT.out.below hST.out.1)
    by_cases hz : 0 ≤ z
    · obtain ⟨k, rfl⟩ : ∃ k : Nat, z = (k : Int) := ⟨z.toNat, by omega⟩
      have hlt : k < ss.length := by have := hat.out.good.2; omega
      have dz : decide ((0 : Int) ≤ (k : Int)) = true := by simp
      have hkz : (k : Int) < (ss.length : Int) := by omega
      have hkx : (k : Int) < (xss.length : Int) := by have := HX.out; omega
      have hkp : (k : Int) < (ps.length : Int) := by have := HN0.out; omega
      have hstep := HOK.out.step k hlt
      have s0 := below_cell hST.out.1 _ _ (XS.out k hlt)
      have x0 := below_cell hST.out.1 _ _ (XX.out k hlt).1
      have p0 := below_cell hST.out.1 _ _ (XP.out k hlt).1
      have p1 := below_cell hST.out.1 _ _ (XP.out k hlt).2
      have hsd0 : side R C ss[k] = if ss[k] = 1 then C else R := rfl
      have hpos : 0 < side R C ss[k] := by have := HI.out; have := HJ.out; rw [hsd0]; split <;> omega
      obtain ⟨rb, ro, rc, hF, hrow⟩ := row_at (XX.out k hlt).2 hstep.row hpos
      rw [hF] at x0
      have hlen := hat.out.len HOK.out
      have HLEN := Lib.hid hlen
      have hsp := hstep.spk
      have hgs : ss.getD k 0 = ss[k] := by simp [List.getD, hlt]
      have HBT : Hid (∀ b, (xss.getD k []).getD (if ss[k] = 1 then j else i) 0 = b → ∀ z, nextAt ps k b = z → At ss xss ps i j (l ++ [b]) z ∧ meas ss.length z < meas ss.length (k : Int)) := Lib.hid (fun b hb z hz => by
        refine ⟨hat.out.step HOK.out hlt (by unfold bitAt; rw [hgs]; exact hb) hz, ?_⟩
        have := next_ok HOK.out hlt b
        rw [hz] at this
        exact meas_lt hlt this.1 this.2)
      have HROW := Lib.hid hrow
      obtain ⟨sp, hspe⟩ : ∃ sp, ss[k] = sp := ⟨_, rfl⟩
      rw [hspe] at s0 hsp HBT x0 hpos hsd0 HROW
      obtain ⟨pa, hpa⟩ : ∃ z, (ps.getD k (0, 0)).1 = z := ⟨_, rfl⟩
      obtain ⟨pb, hpb⟩ : ∃ z, (ps.getD k (0, 0)).2 = z := ⟨_, rfl⟩
      have HPA : Hid (nextAt ps k 0 = pa) := Lib.hid (by unfold nextAt; rw [if_neg (by omega)]; exact hpa)
      have HPB : Hid (nextAt ps k 1 = pb) := Lib.hid (by unfold nextAt; rw [if_pos rfl]; exact hpb)
      have EPA := Lib.hid hpa
      have EPB := Lib.hid hpb
      rw [hpa] at p0
      rw [hpb] at p1
      clear hF hrow hstep hlen hat hpa hpb hspe hgs hz
      rcases hsp with rfl | rfl
      · have hsd : side R C 0 = R := by rw [hsd0]; simp
        rw [hsd] at x0 HROW
        have hlt2 : (i : Int) < (R : Int) := by have := HI.out; omega
        obtain ⟨y0, hb⟩ := HROW.out i HI.out
        replace y0 := below_cell hST.out.1 _ _ y0
        have HBT := Lib.hid (fun (b : Int) (hb : (xss.getD k []).getD i 0 = b) => HBT.out b (by rw [if_neg (by omega)]; exact hb))
        obtain ⟨bt, hbt⟩ : ∃ b, (xss.getD k []).getD i 0 = b := ⟨_, rfl⟩
        have HBT := Lib.hid (HBT.out bt hbt)
        rw [hbt] at y0 hb
        clear hsd hsd0 hpos hbt
        rcases hb with rfl | rfl
        · obtain ⟨hat2, hms⟩ := HBT.out pa HPA.out
          have HAT := Lib.hid hat2
          have HMS := Lib.hid hms
          clear hat2 hms
          go_wp2_with fail
          go_quiet (fail)
          have hown := Lib.hid (fun n => app.owns_below hST.out.2 (below_al (below_drewN (Below.refl wo.heap.size wo) n) (.cells #[.int .i64 0] 3)))
          have BN := Lib.hid (fun n => (show Below W0.heap.size W0 ((wo.drewN n).alloc (.cells #[.int .i64 0] 3)) from below_tr hST.out.1 (below_al (below_drewN (Below.refl _ _) n) _)))
          have hsz := hST.out.1.size
          go_wp2_with (at_builtin; go_must (refine wpList_append_own _ rfl (.tmp 30) (.tmp 32) 27 rfl W0.heap.size 3 i0 (.int .i64 0) 1 8 Try.underlying27 hi0 hz0 hz1 hz2 rfl (by decide) _ _ _ rfl (hown.out _) ⟨wo.heap.size, 0, none⟩ 1 1 [.int .i64 0] rfl rfl ?c1 ?c2 ?c3 ?c4 ?c5 ?_))
          try (case c1 => exact app.one_at (wo.drewN _) _ _)
          case c2 => first | rfl | (intro u hu; simp at hu; subst hu; rfl)
          case c3 => have := HLEN.out; unfold maxLen; omega
          case c4 => have := HLEN.out; omega
          try (case c5 => first | omega | (simp; omega))
          intro v' w3 hown' hgrow _
          have BS := Lib.hid ((BN.out _).grown hgrow (BN.out _).size (fun q hq => ((hown.out 0).lt q hq).1))
          have OS : Hid (w3.ownsRow W0.heap.size 3 1 v' (l ++ [0]).length (i64s (l ++ [0]))) := Lib.hid (by rw [List.length_append, ← app.i64s_snoc]; exact hown')
          replace p0 := below_cell BS.out _ _ (XP.out k hlt).1
          rw [EPA.out] at p0
          replace p1 := below_cell BS.out _ _ (XP.out k hlt).2
          rw [EPB.out] at p1
          clear hown' hgrow hown BN
          clear c0 c1 c2 c3
          obtain ⟨c0, c1, c2, c3⟩ := three_cells (KT.out.below BS.out)
          go_wp2_with fail
          go_roundw
          case rel => exact ⟨_, rfl, ⟨_, rfl⟩, l ++ [0], HAT.out, BS.out, OS.out⟩
          case measure => exact HMS.out
        · obtain ⟨hat2, hms⟩ := HBT.out pb HPB.out
          have HAT := Lib.hid hat2
          have HMS := Lib.hid hms
          clear hat2 hms
          go_wp2_with fail
          go_quiet (fail)
          have hown := Lib.hid (fun n => app.owns_below hST.out.2 (below_al (below_drewN (Below.refl wo.heap.size wo) n) (.cells #[.int .i64 1] 3)))
          have BN := Lib.hid (fun n => (show Below W0.heap.size W0 ((wo.drewN n).alloc (.cells #[.int .i64 1] 3)) from below_tr hST.out.1 (below_al (below_drewN (Below.refl _ _) n) _)))
          have hsz := hST.out.1.size
          go_wp2_with (at_builtin; go_must (refine wpList_append_own _ rfl (.tmp 30) (.tmp 32) 27 rfl W0.heap.size 3 i0 (.int .i64 0) 1 8 Try.underlying27 hi0 hz0 hz1 hz2 rfl (by decide) _ _ _ rfl (hown.out _) ⟨wo.heap.size, 0, none⟩ 1 1 [.int .i64 1] rfl rfl ?c1 ?c2 ?c3 ?c4 ?c5 ?_))
          try (case c1 => exact app.one_at (wo.drewN _) _ _)
          case c2 => first | rfl | (intro u hu; simp at hu; subst hu; rfl)
          case c3 => have := HLEN.out; unfold maxLen; omega
          case c4 => have := HLEN.out; omega
          try (case c5 => first | omega | (simp; omega))
          intro v' w3 hown' hgrow _
          have BS := Lib.hid ((BN.out _).grown hgrow (BN.out _).size (fun q hq => ((hown.out 0).lt q hq).1))
          have OS : Hid (w3.ownsRow W0.heap.size 3 1 v' (l ++ [1]).length (i64s (l ++ [1]))) := Lib.hid (by rw [List.length_append, ← app.i64s_snoc]; exact hown')
          replace p0 := below_cell BS.out _ _ (XP.out k hlt).1
          rw [EPA.out] at p0
          replace p1 := below_cell BS.out _ _ (XP.out k hlt).2
          rw [EPB.out] at p1
          clear hown' hgrow hown BN
          clear c0 c1 c2 c3
          obtain ⟨c0, c1, c2, c3⟩ := three_cells (KT.out.below BS.out)
          go_wp2_with fail
          go_roundw
          case rel => exact ⟨_, rfl, ⟨_, rfl⟩, l ++ [1], HAT.out, BS.out, OS.out⟩
          case measure => exact HMS.out
      · have hsd : side R C 1 = C := by rw [hsd0]; simp
        rw [hsd] at x0 HROW
        have hlt2 : (j : Int) < (C : Int) := by have := HJ.out; omega
        obtain ⟨y0, hb⟩ := HROW.out j HJ.out
        replace y0 := below_cell hST.out.1 _ _ y0
        have HBT := Lib.hid (fun (b : Int) (hb : (xss.getD k []).getD j 0 = b) => HBT.out b (by rw [if_pos rfl]; exact hb))
        obtain ⟨bt, hbt⟩ : ∃ b, (xss.getD k []).getD j 0 = b := ⟨_, rfl⟩
        have HBT := Lib.hid (HBT.out bt hbt)
        rw [hbt] at y0 hb
        clear hsd hsd0 hpos hbt
        rcases hb with rfl | rfl
        · obtain ⟨hat2, hms⟩ := HBT.out pa HPA.out
          have HAT := Lib.hid hat2
          have HMS := Lib.hid hms
          clear hat2 hms
          go_wp2_with fail
          go_quiet (fail)
          have hown := Lib.hid (fun n => app.owns_below hST.out.2 (below_al (below_drewN (Below.refl wo.heap.size wo) n) (.cells #[.int .i64 0] 3)))
          have BN := Lib.hid (fun n => (show Below W0.heap.size W0 ((wo.drewN n).alloc (.cells #[.int .i64 0] 3)) from below_tr hST.out.1 (below_al (below_drewN (Below.refl _ _) n) _)))
          have hsz := hST.out.1.size
          go_wp2_with (at_builtin; go_must (refine wpList_append_own _ rfl (.tmp 30) (.tmp 32) 27 rfl W0.heap.size 3 i0 (.int .i64 0) 1 8 Try.underlying27 hi0 hz0 hz1 hz2 rfl (by decide) _ _ _ rfl (hown.out _) ⟨wo.heap.size, 0, none⟩ 1 1 [.int .i64 0] rfl rfl ?c1 ?c2 ?c3 ?c4 ?c5 ?_))
          try (case c1 => exact app.one_at (wo.drewN _) _ _)
          case c2 => first | rfl | (intro u hu; simp at hu; subst hu; rfl)
          case c3 => have := HLEN.out; unfold maxLen; omega
          case c4 => have := HLEN.out; omega
          try (case c5 => first | omega | (simp; omega))
          intro v' w3 hown' hgrow _
          have BS := Lib.hid ((BN.out _).grown hgrow (BN.out _).size (fun q hq => ((hown.out 0).lt q hq).1))
          have OS : Hid (w3.ownsRow W0.heap.size 3 1 v' (l ++ [0]).length (i64s (l ++ [0]))) := Lib.hid (by rw [List.length_append, ← app.i64s_snoc]; exact hown')
          replace p0 := below_cell BS.out _ _ (XP.out k hlt).1
          rw [EPA.out] at p0
          replace p1 := below_cell BS.out _ _ (XP.out k hlt).2
          rw [EPB.out] at p1
          clear hown' hgrow hown BN
          clear c0 c1 c2 c3
          obtain ⟨c0, c1, c2, c3⟩ := three_cells (KT.out.below BS.out)
          go_wp2_with fail
          go_roundw
          case rel => exact ⟨_, rfl, ⟨_, rfl⟩, l ++ [0], HAT.out, BS.out, OS.out⟩
          case measure => exact HMS.out
        · obtain ⟨hat2, hms⟩ := HBT.out pb HPB.out
          have HAT := Lib.hid hat2
          have HMS := Lib.hid hms
          clear hat2 hms
          go_wp2_with fail
          go_quiet (fail)
          have hown := Lib.hid (fun n => app.owns_below hST.out.2 (below_al (below_drewN (Below.refl wo.heap.size wo) n) (.cells #[.int .i64 1] 3)))
          have BN := Lib.hid (fun n => (show Below W0.heap.size W0 ((wo.drewN n).alloc (.cells #[.int .i64 1] 3)) from below_tr hST.out.1 (below_al (below_drewN (Below.refl _ _) n) _)))
          have hsz := hST.out.1.size
          go_wp2_with (at_builtin; go_must (refine wpList_append_own _ rfl (.tmp 30) (.tmp 32) 27 rfl W0.heap.size 3 i0 (.int .i64 0) 1 8 Try.underlying27 hi0 hz0 hz1 hz2 rfl (by decide) _ _ _ rfl (hown.out _) ⟨wo.heap.size, 0, none⟩ 1 1 [.int .i64 1] rfl rfl ?c1 ?c2 ?c3 ?c4 ?c5 ?_))
          try (case c1 => exact app.one_at (wo.drewN _) _ _)
          case c2 => first | rfl | (intro u hu; simp at hu; subst hu; rfl)
          case c3 => have := HLEN.out; unfold maxLen; omega
          case c4 => have := HLEN.out; omega
          try (case c5 => first | omega | (simp; omega))
          intro v' w3 hown' hgrow _
          have BS := Lib.hid ((BN.out _).grown hgrow (BN.out _).size (fun q hq => ((hown.out 0).lt q hq).1))
          have OS : Hid (w3.ownsRow W0.heap.size 3 1 v' (l ++ [1]).length (i64s (l ++ [1]))) := Lib.hid (by rw [List.length_append, ← app.i64s_snoc]; exact hown')
          replace p0 := below_cell BS.out _ _ (XP.out k hlt).1
          rw [EPA.out] at p0
          replace p1 := below_cell BS.out _ _ (XP.out k hlt).2
          rw [EPB.out] at p1
          clear hown' hgrow hown BN
          clear c0 c1 c2 c3
          obtain ⟨c0, c1, c2, c3⟩ := three_cells (KT.out.below BS.out)
          go_wp2_with fail
          go_roundw
          case rel => exact ⟨_, rfl, ⟨_, rfl⟩, l ++ [1], HAT.out, BS.out, OS.out⟩
          case measure => exact HMS.out
    · have dz : decide ((0 : Int) ≤ z) = false := by simp [hz]
      obtain ⟨el, ez⟩ := hat.out.stop (by omega)
      have HO := Lib.hid (app.ints_of_owns hST.out.2)
      have hz0 := Lib.hid Z0.out
      have hsz := hST.out.1.size
      have HEQ : Hid (z = -1 ∨ z = -2) := Lib.hid (by rw [ez]; exact fin_end HOK.out i j)
      have EL := Lib.hid el
      have EZ := Lib.hid ez
      clear el ez hat hz
      obtain ⟨xa, xl, xc, rfl⟩ := make.shape hST.out.2
      have hw : wrap64 (-1 - z) = -1 - z := IntWalk.wrap64_in _ (by have := HEQ.out; omega)
      go_wp2_with fail
      go_ret2
      refine ⟨.slice xa xl xc, ?_, ?_, BW.out⟩
      · rw [← EZ.out]; exact congrArg (fun q => Ending.returned (.tuple #[.slice xa xl xc, .int .i64 q])) hw
      · rw [← EL.out]; exact HO.out.mono (by have := hz0.out; omega) (Nat.le_refl _)



set_option maxRecDepth 100000 in
set_option maxHeartbeats 4000000 in
theorem impl_run (sv : Value) (ss : List Int) (u : Value) (xss : List (List Int)) (nv : Value) (ps : List (Int × Int)) (R C i j : Nat) (w : World) (h : TV w sv ss u xss nv ps) (hok : okTalk ss xss ps R C) (hi : i < R) (hj : j < C) :
    Calls Try.prog 68 #[.agg #[sv, u, nv], .int .i64 i, .int .i64 j] w fun e w' => ∃ u', e = .returned (.tuple #[u', .int .i64 (-1 - (fin ss xss ps i j).2)]) ∧ OwnInts w' w.heap.size w'.heap.size u' (fin ss xss ps i j).1 ∧ Below w.heap.size w w' := by
  obtain ⟨i0, hi0, hz0, hz1, hz2⟩ := info_parts infoInt
  obtain ⟨A, cap, rfl⟩ : ∃ A c, sv = .slice A ss.length c := by obtain ⟨A, c, hv, _⟩ := h.ints; exact ⟨A, c, by rw [hv, len_i64s]⟩
  obtain ⟨U, cap2, rfl⟩ : ∃ A c, u = .slice A xss.length c := by obtain ⟨A, b, o, cap, R, hu, _⟩ := h.rows.form; exact ⟨A, cap, hu⟩
  obtain ⟨N, cap3, rfl⟩ : ∃ A c, nv = .slice A ps.length c := by obtain ⟨A, c, hv, _⟩ := h.prs; exact ⟨A, c, hv⟩
  obtain ⟨W0, hW0⟩ : ∃ W0, W0 = ((w.alloc (.cells #[.slice A ss.length cap, .slice U xss.length cap2, .slice N ps.length cap3] 34)).alloc (.cells #[.int .i64 (i : Int), .int .i64 (j : Int)] 86)) := ⟨_, rfl⟩
  have B0 : Hid (Below w.heap.size w W0) := Lib.hid (by rw [hW0]; exact below_al (below_al (Below.refl w.heap.size w) _) _)
  obtain ⟨b, o, cap', d, q, cap2', g, p, cap3', F, e1, e2, e3, hS, hX, hP⟩ := cells (h.below B0.out) hok.ge hok.says hok.next
  injection e1 with e1 f1 g1
  injection e2 with e2 f2 g2
  injection e3 with e3 f3 g3
  subst e1; subst e2; subst e3; subst g1; subst g2; subst g3
  clear f2 f3
  try clear f1
  have KT : Hid (Blk W0 w.heap.size 34 #[.slice (some ⟨b, o, none⟩) ss.length cap, .slice (some ⟨d, q, none⟩) xss.length cap2, .slice (some ⟨g, p, none⟩) ps.length cap3]) := Lib.hid (by rw [hW0]; exact (Blk.new _ _ _).alloc _)
  have KN : Hid (Blk W0 (w.heap.size + 1) 86 #[.int .i64 (i : Int), .int .i64 (j : Int)]) := Lib.hid (by rw [hW0]; have := Blk.new (w.alloc (.cells #[.slice (some ⟨b, o, none⟩) ss.length cap, .slice (some ⟨d, q, none⟩) xss.length cap2, .slice (some ⟨g, p, none⟩) ps.length cap3] 34)) 86 #[.int .i64 (i : Int), .int .i64 (j : Int)]; simpa using this)
  have Z0 : Hid (W0.heap.size = w.heap.size + 1 + 1) := Lib.hid (by rw [hW0]; simp)
  have HST : Hid (Below W0.heap.size W0 W0 ∧ W0.ownsRow W0.heap.size 3 1 (.slice none 0 0) 0 (i64s [])) := Lib.hid ⟨Below.refl _ _, ⟨by simp [i64s], .inl ⟨rfl, rfl⟩⟩⟩
  have HW0 := Lib.hid hW0
  have HOK := Lib.hid hok
  have XS := Lib.hid hS
  have XX := Lib.hid hX
  have XP := Lib.hid hP
  have HX := Lib.hid hok.says
  have HN0 := Lib.hid hok.next
  have HI := Lib.hid hi
  have HJ := Lib.hid hj
  have HA0 := Lib.hid (At.start hok i j)
  have iz0 := fun W => tki.iy0 (i : Int) (j : Int) W
  have iz1 := fun W => tki.iy1 (i : Int) (j : Int) W
  clear h hok hS hX hP hi hj hW0
  go_enter Try.func68, Try.ntmps68
  go_wp2_with fail
  have e0 : ((w.alloc (.cells #[.slice (some ⟨b, o, none⟩) ss.length cap, .slice (some ⟨d, q, none⟩) xss.length cap2, .slice (some ⟨g, p, none⟩) ps.length cap3] 34)).alloc (.cells #[.int .i64 (i : Int), .int .i64 (j : Int)] 86)) = W0 := HW0.out.symm
  go_loopw [9, 10, 11] (fun v s z10 wr => ∃ z : Int, s = .int .i64 z ∧ (∃ z, z10 = z) ∧ ∃ l, Hid (At ss xss ps i j l z) ∧ Hid (Below W0.heap.size W0 wr ∧ wr.ownsRow W0.heap.size 3 1 v l.length (i64s l))) (fun _ s _ _ => meas ss.length (intOf s))
  case atStart => exact ⟨_, rfl, ⟨_, rfl⟩, [], HA0.out, by rw [← HW0.out]; exact HST.out⟩
  case round =>
    clear HST HA0 e0
    obtain ⟨z, rfl, ⟨z10, rfl⟩, l, hat, hST⟩ := hrel
    obtain ⟨wo, rfl⟩ : ∃ wo : World, wo = wr := ⟨_, rfl⟩
    have BW := Lib.hid (below_tr (by exact B0.out) hST.out.1)
    obtain ⟨c0, c1, c2, c3⟩ := three_cells (KT.out.below hST.out.1)
    obtain ⟨n0, n1, n2⟩ := two_cells (KN.out.below hST.out.1)
    by_cases hz : 0 ≤ z
    · obtain ⟨k, rfl⟩ : ∃ k : Nat, z = (k : Int) := ⟨z.toNat, by omega⟩
      have hlt : k < ss.length := by have := hat.out.good.2; omega
      have dz : decide ((0 : Int) ≤ (k : Int)) = true := by simp
      have hkz : (k : Int) < (ss.length : Int) := by omega
      have hkx : (k : Int) < (xss.length : Int) := by have := HX.out; omega
      have hkp : (k : Int) < (ps.length : Int) := by have := HN0.out; omega
      have hstep := HOK.out.step k hlt
      have s0 := below_cell hST.out.1 _ _ (XS.out k hlt)
      have x0 := below_cell hST.out.1 _ _ (XX.out k hlt).1
      have p0 := below_cell hST.out.1 _ _ (XP.out k hlt).1
      have p1 := below_cell hST.out.1 _ _ (XP.out k hlt).2
      have hsd0 : side R C ss[k] = if ss[k] = 1 then C else R := rfl
      have hpos : 0 < side R C ss[k] := by have := HI.out; have := HJ.out; rw [hsd0]; split <;> omega
      obtain ⟨rb, ro, rc, hF, hrow⟩ := row_at (XX.out k hlt).2 hstep.row hpos
      rw [hF] at x0
      have hlen := hat.out.len HOK.out
      have HLEN := Lib.hid hlen
      have hsp := hstep.spk
      have hgs : ss.getD k 0 = ss[k] := by simp [List.getD, hlt]
      have HBT : Hid (∀ b, (xss.getD k []).getD (if ss[k] = 1 then j else i) 0 = b → ∀ z, nextAt ps k b = z → At ss xss ps i j (l ++ [b]) z ∧ meas ss.length z < meas ss.length (k : Int)) := Lib.hid (fun b hb z hz => by
        refine ⟨hat.out.step HOK.out hlt (by unfold bitAt; rw [hgs]; exact hb) hz, ?_⟩
        have := next_ok HOK.out hlt b
        rw [hz] at this
        exact meas_lt hlt this.1 this.2)
      have HROW := Lib.hid hrow
      obtain ⟨sp, hspe⟩ : ∃ sp, ss[k] = sp := ⟨_, rfl⟩
      rw [hspe] at s0 hsp HBT x0 hpos hsd0 HROW
      obtain ⟨pa, hpa⟩ : ∃ z, (ps.getD k (0, 0)).1 = z := ⟨_, rfl⟩
      obtain ⟨pb, hpb⟩ : ∃ z, (ps.getD k (0, 0)).2 = z := ⟨_, rfl⟩
      have HPA : Hid (nextAt ps k 0 = pa) := Lib.hid (by unfold nextAt; rw [if_neg (by omega)]; exact hpa)
      have HPB : Hid (nextAt ps k 1 = pb) := Lib.hid (by unfold nextAt; rw [if_pos rfl]; exact hpb)
      have EPA := Lib.hid hpa
      have EPB := Lib.hid hpb
      rw [hpa] at p0
      rw [hpb] at p1
      clear hF hrow hstep hlen hat hpa hpb hspe hgs hz
      rcases hsp with rfl | rfl
      · have hsd : side R C 0 = R := by rw [hsd0]; simp
        rw [hsd] at x0 HROW
        have hlt2 : (i : Int) < (R : Int) := by have := HI.out; omega
        obtain ⟨y0, hb⟩ := HROW.out i HI.out
        replace y0 := below_cell hST.out.1 _ _ y0
        have HBT := Lib.hid (fun (b : Int) (hb : (xss.getD k []).getD i 0 = b) => HBT.out b (by rw [if_neg (by omega)]; exact hb))
        obtain ⟨bt, hbt⟩ : ∃ b, (xss.getD k []).getD i 0 = b := ⟨_, rfl⟩
        have HBT := Lib.hid (HBT.out bt hbt)
        rw [hbt] at y0 hb
        clear hsd hsd0 hpos hbt
        rcases hb with rfl | rfl
        · obtain ⟨hat2, hms⟩ := HBT.out pa HPA.out
          have HAT := Lib.hid hat2
          have HMS := Lib.hid hms
          clear hat2 hms
          go_wp2_with fail
          go_quiet (fail)
          have hown := Lib.hid (fun n => app.owns_below hST.out.2 (below_al (below_drewN (Below.refl wo.heap.size wo) n) (.cells #[.int .i64 0] 3)))
          have BN := Lib.hid (fun n => (show Below W0.heap.size W0 ((wo.drewN n).alloc (.cells #[.int .i64 0] 3)) from below_tr hST.out.1 (below_al (below_drewN (Below.refl _ _) n) _)))
          have hsz := hST.out.1.size
          go_wp2_with (at_builtin; go_must (refine wpList_append_own _ rfl (.tmp 31) (.tmp 33) 27 rfl W0.heap.size 3 i0 (.int .i64 0) 1 8 Try.underlying27 hi0 hz0 hz1 hz2 rfl (by decide) _ _ _ rfl (hown.out _) ⟨wo.heap.size, 0, none⟩ 1 1 [.int .i64 0] rfl rfl ?c1 ?c2 ?c3 ?c4 ?c5 ?_))
          try (case c1 => exact app.one_at (wo.drewN _) _ _)
          case c2 => first | rfl | (intro u hu; simp at hu; subst hu; rfl)
          case c3 => have := HLEN.out; unfold maxLen; omega
          case c4 => have := HLEN.out; omega
          try (case c5 => first | omega | (simp; omega))
          intro v' w3 hown' hgrow _
          have BS := Lib.hid ((BN.out _).grown hgrow (BN.out _).size (fun q hq => ((hown.out 0).lt q hq).1))
          have OS : Hid (w3.ownsRow W0.heap.size 3 1 v' (l ++ [0]).length (i64s (l ++ [0]))) := Lib.hid (by rw [List.length_append, ← app.i64s_snoc]; exact hown')
          replace p0 := below_cell BS.out _ _ (XP.out k hlt).1
          rw [EPA.out] at p0
          replace p1 := below_cell BS.out _ _ (XP.out k hlt).2
          rw [EPB.out] at p1
          clear hown' hgrow hown BN
          clear c0 c1 c2 c3
          obtain ⟨c0, c1, c2, c3⟩ := three_cells (KT.out.below BS.out)
          go_wp2_with fail
          go_roundw
          case rel => exact ⟨_, rfl, ⟨_, rfl⟩, l ++ [0], HAT.out, BS.out, OS.out⟩
          case measure => exact HMS.out
        · obtain ⟨hat2, hms⟩ := HBT.out pb HPB.out
          have HAT := Lib.hid hat2
          have HMS := Lib.hid hms
          clear hat2 hms
          go_wp2_with fail
          go_quiet (fail)
          have hown := Lib.hid (fun n => app.owns_below hST.out.2 (below_al (below_drewN (Below.refl wo.heap.size wo) n) (.cells #[.int .i64 1] 3)))
          have BN := Lib.hid (fun n => (show Below W0.heap.size W0 ((wo.drewN n).alloc (.cells #[.int .i64 1] 3)) from below_tr hST.out.1 (below_al (below_drewN (Below.refl _ _) n) _)))
          have hsz := hST.out.1.size
          go_wp2_with (at_builtin; go_must (refine wpList_append_own _ rfl (.tmp 31) (.tmp 33) 27 rfl W0.heap.size 3 i0 (.int .i64 0) 1 8 Try.underlying27 hi0 hz0 hz1 hz2 rfl (by decide) _ _ _ rfl (hown.out _) ⟨wo.heap.size, 0, none⟩ 1 1 [.int .i64 1] rfl rfl ?c1 ?c2 ?c3 ?c4 ?c5 ?_))
          try (case c1 => exact app.one_at (wo.drewN _) _ _)
          case c2 => first | rfl | (intro u hu; simp at hu; subst hu; rfl)
          case c3 => have := HLEN.out; unfold maxLen; omega
          case c4 => have := HLEN.out; omega
          try (case c5 => first | omega | (simp; omega))
          intro v' w3 hown' hgrow _
          have BS := Lib.hid ((BN.out _).grown hgrow (BN.out _).size (fun q hq => ((hown.out 0).lt q hq).1))
          have OS : Hid (w3.ownsRow W0.heap.size 3 1 v' (l ++ [1]).length (i64s (l ++ [1]))) := Lib.hid (by rw [List.length_append, ← app.i64s_snoc]; exact hown')
          replace p0 := below_cell BS.out _ _ (XP.out k hlt).1
          rw [EPA.out] at p0
          replace p1 := below_cell BS.out _ _ (XP.out k hlt).2
          rw [EPB.out] at p1
          clear hown' hgrow hown BN
          clear c0 c1 c2 c3
          obtain ⟨c0, c1, c2, c3⟩ := three_cells (KT.out.below BS.out)
          go_wp2_with fail
          go_roundw
          case rel => exact ⟨_, rfl, ⟨_, rfl⟩, l ++ [1], HAT.out, BS.out, OS.out⟩
          case measure => exact HMS.out
      · have hsd : side R C 1 = C := by rw [hsd0]; simp
        rw [hsd] at x0 HROW
        have hlt2 : (j : Int) < (C : Int) := by have := HJ.out; omega
        obtain ⟨y0, hb⟩ := HROW.out j HJ.out
        replace y0 := below_cell hST.out.1 _ _ y0
        have HBT := Lib.hid (fun (b : Int) (hb : (xss.getD k []).getD j 0 = b) => HBT.out b (by rw [if_pos rfl]; exact hb))
        obtain ⟨bt, hbt⟩ : ∃ b, (xss.getD k []).getD j 0 = b := ⟨_, rfl⟩
        have HBT := Lib.hid (HBT.out bt hbt)
        rw [hbt] at y0 hb
        clear hsd hsd0 hpos hbt
        rcases hb with rfl | rfl
        · obtain ⟨hat2, hms⟩ := HBT.out pa HPA.out
          have HAT := Lib.hid hat2
          have HMS := Lib.hid hms
          clear hat2 hms
          go_wp2_with fail
          go_quiet (fail)
          have hown := Lib.hid (fun n => app.owns_below hST.out.2 (below_al (below_drewN (Below.refl wo.heap.size wo) n) (.cells #[.int .i64 0] 3)))
          have BN := Lib.hid (fun n => (show Below W0.heap.size W0 ((wo.drewN n).alloc (.cells #[.int .i64 0] 3)) from below_tr hST.out.1 (below_al (below_drewN (Below.refl _ _) n) _)))
          have hsz := hST.out.1.size
          go_wp2_with (at_builtin; go_must (refine wpList_append_own _ rfl (.tmp 31) (.tmp 33) 27 rfl W0.heap.size 3 i0 (.int .i64 0) 1 8 Try.underlying27 hi0 hz0 hz1 hz2 rfl (by decide) _ _ _ rfl (hown.out _) ⟨wo.heap.size, 0, none⟩ 1 1 [.int .i64 0] rfl rfl ?c1 ?c2 ?c3 ?c4 ?c5 ?_))
          try (case c1 => exact app.one_at (wo.drewN _) _ _)
          case c2 => first | rfl | (intro u hu; simp at hu; subst hu; rfl)
          case c3 => have := HLEN.out; unfold maxLen; omega
          case c4 => have := HLEN.out; omega
          try (case c5 => first | omega | (simp; omega))
          intro v' w3 hown' hgrow _
          have BS := Lib.hid ((BN.out _).grown hgrow (BN.out _).size (fun q hq => ((hown.out 0).lt q hq).1))
          have OS : Hid (w3.ownsRow W0.heap.size 3 1 v' (l ++ [0]).length (i64s (l ++ [0]))) := Lib.hid (by rw [List.length_append, ← app.i64s_snoc]; exact hown')
          replace p0 := below_cell BS.out _ _ (XP.out k hlt).1
          rw [EPA.out] at p0
          replace p1 := below_cell BS.out _ _ (XP.out k hlt).2
          rw [EPB.out] at p1
          clear hown' hgrow hown BN
          clear c0 c1 c2 c3
          obtain ⟨c0, c1, c2, c3⟩ := three_cells (KT.out.below BS.out)
          go_wp2_with fail
          go_roundw
          case rel => exact ⟨_, rfl, ⟨_, rfl⟩, l ++ [0], HAT.out, BS.out, OS.out⟩
          case measure => exact HMS.out
        · obtain ⟨hat2, hms⟩ := HBT.out pb HPB.out
          have HAT := Lib.hid hat2
          have HMS := Lib.hid hms
          clear hat2 hms
          go_wp2_with fail
          go_quiet (fail)
          have hown := Lib.hid (fun n => app.owns_below hST.out.2 (below_al (below_drewN (Below.refl wo.heap.size wo) n) (.cells #[.int .i64 1] 3)))
          have BN := Lib.hid (fun n => (show Below W0.heap.size W0 ((wo.drewN n).alloc (.cells #[.int .i64 1] 3)) from below_tr hST.out.1 (below_al (below_drewN (Below.refl _ _) n) _)))
          have hsz := hST.out.1.size
          go_wp2_with (at_builtin; go_must (refine wpList_append_own _ rfl (.tmp 31) (.tmp 33) 27 rfl W0.heap.size 3 i0 (.int .i64 0) 1 8 Try.underlying27 hi0 hz0 hz1 hz2 rfl (by decide) _ _ _ rfl (hown.out _) ⟨wo.heap.size, 0, none⟩ 1 1 [.int .i64 1] rfl rfl ?c1 ?c2 ?c3 ?c4 ?c5 ?_))
          try (case c1 => exact app.one_at (wo.drewN _) _ _)
          case c2 => first | rfl | (intro u hu; simp at hu; subst hu; rfl)
          case c3 => have := HLEN.out; unfold maxLen; omega
          case c4 => have := HLEN.out; omega
          try (case c5 => first | omega | (simp; omega))
          intro v' w3 hown' hgrow _
          have BS := Lib.hid ((BN.out _).grown hgrow (BN.out _).size (fun q hq => ((hown.out 0).lt q hq).1))
          have OS : Hid (w3.ownsRow W0.heap.size 3 1 v' (l ++ [1]).length (i64s (l ++ [1]))) := Lib.hid (by rw [List.length_append, ← app.i64s_snoc]; exact hown')
          replace p0 := below_cell BS.out _ _ (XP.out k hlt).1
          rw [EPA.out] at p0
          replace p1 := below_cell BS.out _ _ (XP.out k hlt).2
          rw [EPB.out] at p1
          clear hown' hgrow hown BN
          clear c0 c1 c2 c3
          obtain ⟨c0, c1, c2, c3⟩ := three_cells (KT.out.below BS.out)
          go_wp2_with fail
          go_roundw
          case rel => exact ⟨_, rfl, ⟨_, rfl⟩, l ++ [1], HAT.out, BS.out, OS.out⟩
          case measure => exact HMS.out
    · have dz : decide ((0 : Int) ≤ z) = false := by simp [hz]
      obtain ⟨el, ez⟩ := hat.out.stop (by omega)
      have HO := Lib.hid (app.ints_of_owns hST.out.2)
      have hz0 := Lib.hid Z0.out
      have hsz := hST.out.1.size
      have HEQ : Hid (z = -1 ∨ z = -2) := Lib.hid (by rw [ez]; exact fin_end HOK.out i j)
      have EL := Lib.hid el
      have EZ := Lib.hid ez
      clear el ez hat hz
      obtain ⟨xa, xl, xc, rfl⟩ := make.shape hST.out.2
      go_wp2_with fail
      refine (tki.num_at z _ HEQ.out).mono ?_
      rintro e w' ⟨rfl, rfl⟩
      go_wp2_with fail
      go_ret2
      refine ⟨.slice xa xl xc, ?_, ?_, BW.out⟩
      · rw [← EZ.out]; rfl
      · rw [← EL.out]; exact HO.out.mono (by have := hz0.out; omega) (Nat.le_refl _)


end Go.Proofs.Ytggodllfaggjiaa.run
