/- MixtureBox of the program. -/
import Derived.Test.YtggodllfaggjiacMxc
namespace Go.Proofs.Ytggodllfaggjiac.mxb
open Go.RowKit Go.Deep Go.Proofs.Ytggodllfaggjiac.base
open Go.Proofs.Ytggodllfaggjiac.val (okSizes okBox)
open Go.Proofs.Ytggodllfaggjiac.play (within withinB withinB_yes withinB_no)


set_option maxRecDepth 20000 in
set_option maxHeartbeats 4000000 in
theorem impl_any (x y : Int) (v : Value) (ss : List Int) (w : World) (h : Ints w v ss) :
    Calls Try.prog 57 #[.int .i64 x, .int .i64 y, v] w fun e w' => ∃ r, e = .returned (.tuple #[.agg #[.int .i64 (res x y ss).x, .int .i64 (res x y ss).y, .int .i64 (res x y ss).wh, r], .bool (res x y ss).ok]) ∧ OwnRows w' w.heap.size w'.heap.size r (res x y ss).rows ∧ Below w.heap.size w w' := by
  have HF := Lib.hid h
  obtain ⟨A, _, _, cap, rfl, _⟩ := h.form
  clear h
  have B0 := Lib.hid (below_al (below_al (below_al (Below.refl w.heap.size w) (.cells #[.int .i64 x] 3)) (.cells #[.slice A ss.length cap] 25)) (.cells #[.int .i64 0, .int .i64 0, .int .i64 0, .slice none 0 0] 29))
  have R0 : Hid (Blk (((w.alloc (.cells #[.int .i64 x] 3)).alloc (.cells #[.slice A ss.length cap] 25)).alloc (.cells #[.int .i64 0, .int .i64 0, .int .i64 0, .slice none 0 0] 29)) (w.heap.size + 1 + 1) 29 #[.int .i64 0, .int .i64 0, .int .i64 0, .slice none 0 0]) := Lib.hid (by
    have := Blk.new ((w.alloc (.cells #[.int .i64 x] 3)).alloc (.cells #[.slice A ss.length cap] 25)) 29 #[.int .i64 0, .int .i64 0, .int .i64 0, .slice none 0 0]
    simpa using this)
  have P0 : Hid ((((w.alloc (.cells #[.int .i64 x] 3)).alloc (.cells #[.slice A ss.length cap] 25)).alloc (.cells #[.int .i64 0, .int .i64 0, .int .i64 0, .slice none 0 0] 29)).cell? ⟨w.heap.size, 0, none⟩ = some (.int .i64 x)) := Lib.hid (cell_of_one (((Blk.new w 3 #[.int .i64 x]).alloc _).alloc _))
  have P1 : Hid ((((w.alloc (.cells #[.int .i64 x] 3)).alloc (.cells #[.slice A ss.length cap] 25)).alloc (.cells #[.int .i64 0, .int .i64 0, .int .i64 0, .slice none 0 0] 29)).cell? ⟨w.heap.size + 1, 0, none⟩ = some (.slice A ss.length cap)) := Lib.hid (by
    have := (Blk.new (w.alloc (.cells #[.int .i64 x] 3)) 25 #[.slice A ss.length cap]).alloc (.cells #[.int .i64 0, .int .i64 0, .int .i64 0, .slice none 0 0] 29)
    simpa using cell_of_one this)
  have F0 := Lib.hid (HF.out.below B0.out)
  have HPO := Lib.hid (fun W => plays.impl_any x y W)
  by_cases hs : okSizes x y
  · rw [plays.res_yes hs] at HPO
    obtain ⟨X, rfl⟩ : ∃ X : Nat, x = X := ⟨x.toNat, by have := hs.1.1; omega⟩
    obtain ⟨Y, rfl⟩ : ∃ Y : Nat, y = Y := ⟨y.toNat, by have := hs.2.1; omega⟩
    have hX := hs.1.2
    have hY := hs.2.2
    have HS := Lib.hid hs
    have HXY : Hid (X ≤ 3 ∧ Y ≤ 3) := Lib.hid ⟨by omega, by omega⟩
    rw [show ((X : Int) + (Y : Int)).toNat = X + Y by omega] at HPO
    obtain ⟨m, hm⟩ : ∃ m, 2 ^ (X + Y) = m := ⟨_, rfl⟩
    have hm64 : m ≤ 64 := by rw [← hm]; exact plays.two_pow (by omega)
    have HM := Lib.hid hm
    have HLP : Hid ((plays.all (X + Y)).length = m) := Lib.hid (by rw [← hm]; exact plays.len_upto _ _)
    clear hs hm hX hY HF
    have p0 := P0.out
    go_enter Try.func57, Try.ntmps57
    go_wp2_with fail
    clear p0
    refine (HPO.out _).mono ?_
    rintro e w1 ⟨u, rfl, hu, hb⟩
    have HU := Lib.hid hu.rows
    obtain ⟨UA, ucap, rfl⟩ : ∃ A c, u = .slice A m c := by obtain ⟨A, b, o, cap, R, hu', _⟩ := hu.rows.form; exact ⟨A, cap, by rw [hu', HLP.out]⟩
    have B1 := Lib.hid (below_al (below_tr B0.out hb) (.cells #[.slice UA m ucap] 22))
    have R1 := Lib.hid ((R0.out.below hb).alloc (.cells #[.slice UA m ucap] 22))
    have hb2 := below_al hb (.cells #[.slice UA m ucap] 22)
    have p0 := below_cell hb2 _ _ P0.out
    have p1 := below_cell hb2 _ _ P1.out
    have Q0 := Lib.hid p0
    have Q1 := Lib.hid p1
    have p2 := cell_of_one (Blk.new w1 22 #[.slice UA m ucap])
    have Q2 := Lib.hid p2
    have F1 := Lib.hid (F0.out.below hb2)
    have U1 := Lib.hid (HU.out.below (below_al (Below.refl _ _) (.cells #[.slice UA m ucap] 22)))
    have HLW := Lib.hid (show w.heap.size + 1 + 1 < w1.heap.size from (R0.out.below hb).lt)
    have HWI := Lib.hid (fun W hW => play.impl_within _ ss (m : Int) 0 1000 W (F1.out.below hW))
    clear hu hb hb2 HPO HU P0 P1 R0 B0 F0
    by_cases hw : within (m : Int) 0 1000 ss
    · have HL : Hid ((ss.length : Int) = (m : Int)) := Lib.hid hw.1
      have HLS : Hid (ss.length = m) := Lib.hid (by have := hw.1; omega)
      have HIN : Hid (inR ss) := Lib.hid hw.2
      rw [withinB_yes hw] at HWI
      clear hw
      go_wp2_with fail
      refine (HWI.out _ (Below.refl _ _)).mono ?_
      rintro e w' ⟨rfl, rfl⟩
      obtain ⟨FA, fb, fo, fc, hF, _, _, hFA, hcs⟩ := F1.out.form
      injection hF with hF1 _ hF2
      subst hF1
      subst hF2
      have HCS := Lib.hid hcs
      have HFA := Lib.hid hFA
      clear HWI hcs hFA
      have hml : (ss.length : Int) ≤ 9223372036854775807 := by have := HL.out; omega
      go_wp2_with fail
      go_loopw [10, 12, 31] (fun sm z12 i wr => ∃ k : Nat, k ≤ ss.length ∧ i = .int .i64 k ∧ sm = .int .i64 (ss.take k).sum ∧ (∃ z, z12 = z) ∧ (w1.alloc (.cells #[.slice UA m ucap] 22)) = wr) (fun _ _ i _ => ss.length - (intOf i).toNat)
      case atStart => exact ⟨0, Nat.zero_le _, rfl, rfl, ⟨_, rfl⟩, rfl⟩
      case round =>
        obtain ⟨k, hk, rfl, rfl, ⟨z12, rfl⟩, rfl⟩ := hrel
        by_cases hlt : k < ss.length
        · have hkz : (k : Int) < (ss.length : Int) := by omega
          have HLT := Lib.hid hlt
          obtain rfl := HFA.out (by omega)
          have g0 := HCS.out k hlt
          have HS1 : Hid ((ss.take (k + 1)).sum = (ss.take k).sum + ss[k]) := Lib.hid (take_sum hlt)
          have hbd := sum_bd k (by omega) (fun j g _ => HIN.out j g)
          have hin := HIN.out k hlt
          have kw : IntKind.i64.wrap ((ss.take k).sum + ss[k]) = (ss.take k).sum + ss[k] := IntWalk.i64_in _ (by have := HL.out; omega)
          clear hbd hin
          generalize ss[k] = n at *
          generalize (ss.take k).sum = q at *
          go_wp2_with fail
          clear kw g0
          go_roundw
          case rel => exact ⟨k + 1, by have := HLT.out; omega, by go_num, by rw [HS1.out], ⟨_, rfl⟩, by first | rfl | trivial⟩
          case measure => have := HLT.out; simp [intOf]; omega
        · have hkz : ¬ (k : Int) < (ss.length : Int) := by omega
          obtain rfl : k = ss.length := by omega
          rw [List.take_length]
          have HMK := Lib.hid (make_any w1.heap.size w.heap.size (w.heap.size + 1) X Y ss.sum (N X Y ss) (w1.alloc (.cells #[.slice UA m ucap] 22)) HXY.out.1 HXY.out.2 (fun i j W hi hj hb =>
            clo w1.heap.size w.heap.size (w.heap.size + 1) X Y ss i j _ _ W (below_cell hb _ _ Q2.out) (below_cell hb _ _ Q0.out) (below_cell hb _ _ Q1.out) (U1.out.below hb) (F1.out.below hb) (by rw [HLS.out, HM.out]) HIN.out HXY.out.1 HXY.out.2 hi hj))
          have HT := Lib.hid (make.total_rowsOf (N X Y ss) (X * Y) (Nat.mul_le_mul HXY.out.1 HXY.out.2))
          have HWX := Lib.hid (show w.heap.size + 1 + 1 + 1 ≤ (w1.alloc (.cells #[.slice UA m ucap] 22)).heap.size by have := HLW.out; simp; omega)
          go_wp2_with fail
          refine HMK.out.mono ?_
          rintro e w3 ⟨u, rfl, hu, hb⟩
          have B3 := Lib.hid (below_tr B1.out hb)
          have R3 := Lib.hid (R1.out.below hb)
          have U3 := Lib.hid (hu.mono (B' := w.heap.size + 1 + 1 + 1) HWX.out (Nat.le_refl _))
          obtain ⟨ua, ul, uc, rfl⟩ := hu.rows.shape
          clear hu hb HMK R1 B1 p0 p1 p2 Q0 Q1 Q2
          go_wp2_with fail
          by_cases h3 : 1 ≤ ss.sum ∧ ss.sum ≤ 1000
          · have hal : okShares X Y ss := ⟨HS.out, HIN.out, by rw [HLS.out, ← HM.out]; congr 1, h3⟩
            have HV := Lib.hid (make.valid_yes X Y ss.sum _ _ w3 U3.out.rows HT.out (box_ok hal))
            have HE := Lib.hid (res_yes hal)
            clear hal h3
            refine HV.out.mono ?_
            rintro e w4 ⟨rfl, hb⟩
            have B4 := Lib.hid (below_tr B3.out hb)
            have R4 := Lib.hid (R3.out.below hb)
            have U4 := Lib.hid (U3.out.keep hb)
            have hz2 := Lib.hid hb.size
            obtain ⟨r0, r1, r2, r3, r4⟩ := four_cells R4.out
            have rf : ∀ k, w4.frozen? ⟨w.heap.size + 1 + 1, k, none⟩ = false := fun k => Joins.unfrozen_of_block R4.out k
            clear hb B3 R3 U3 HV
            go_wp2_with fail
            refine bodyPost_ret (v := .tuple #[.agg #[.int .i64 (X : Int), .int .i64 (Y : Int), .int .i64 ss.sum, .slice ua ul uc], .bool true]) (by simp [results, Try.results57, go_sem, r0, r1, r2, r3]) rfl ?_
            rw [HE.out]
            refine ⟨_, rfl, ?_, ?_⟩
            · rw [show ((X : Int) * (Y : Int)).toNat = X * Y from by rw [← Int.natCast_mul, Int.toNat_natCast]]
              refine (U4.out.wrote (S := fun p => p.block < w.heap.size + 1 + 1 + 1) ?_ (fun p hp => .inl hp)).mono (by omega) (by have := hz2.out; simpa [World.setCell] using this)
              repeat (first | exact Wrote.refl _ _ | refine Wrote.setCell ?_ (by simp) _)
            · repeat (refine Below.setCell ?_ (by simp <;> omega) _)
              exact B4.out
          · have HV := Lib.hid (make.valid_no X Y ss.sum _ _ w3 U3.out.rows HT.out (fun h' => h3 h'.2.1))
            have HE := Lib.hid (res_no (x := (X : Int)) (y := (Y : Int)) (ss := ss) (fun h => h3 h.2.2.2))
            refine HV.out.mono ?_
            rintro e w4 ⟨rfl, hb⟩
            have B4 := Lib.hid (below_tr B3.out hb)
            have R4 := Lib.hid (R3.out.below hb)
            obtain ⟨r0, r1, r2, r3, r4⟩ := four_cells R4.out
            have rf : ∀ k, w4.frozen? ⟨w.heap.size + 1 + 1, k, none⟩ = false := fun k => Joins.unfrozen_of_block R4.out k
            clear hb B3 R3 U3 HV h3
            go_wp2_with fail
            refine bodyPost_ret (v := .tuple #[.agg #[.int .i64 0, .int .i64 0, .int .i64 0, .slice none 0 0], .bool false]) (by simp [results, Try.results57, go_sem, r0, r1, r2, r3]) rfl ?_
            rw [HE.out]
            refine ⟨_, rfl, OwnRows.nil _ _ _, ?_⟩
            repeat (first | (with_reducible exact B4.out) | (with_reducible refine Below.setCell ?_ (by simp <;> omega) _) | refine Below.setCell ?_ (by simp <;> omega) _)
    · have HE := Lib.hid (res_no (x := (X : Int)) (y := (Y : Int)) (ss := ss) (fun h => hw ⟨by have := h.2.2.1; rw [show ((X : Int) + (Y : Int)).toNat = X + Y by omega, HM.out] at this; omega, h.2.1⟩))
      rw [withinB_no hw] at HWI
      clear hw
      go_wp2_with fail
      refine (HWI.out _ (Below.refl _ _)).mono ?_
      rintro e w' ⟨rfl, rfl⟩
      obtain ⟨r0, r1, r2, r3, r4⟩ := four_cells R1.out
      have rf : ∀ k, (w1.alloc (.cells #[.slice UA m ucap] 22)).frozen? ⟨w.heap.size + 1 + 1, k, none⟩ = false := fun k => Joins.unfrozen_of_block R1.out k
      go_wp2_with fail
      refine bodyPost_ret (v := .tuple #[.agg #[.int .i64 0, .int .i64 0, .int .i64 0, .slice none 0 0], .bool false]) (by simp [results, Try.results57, go_sem, r0, r1, r2, r3]) rfl ?_
      rw [HE.out]
      refine ⟨_, rfl, OwnRows.nil _ _ _, ?_⟩
      repeat (first | (with_reducible exact B1.out) | (with_reducible refine Below.setCell ?_ (by simp <;> omega) _) | refine Below.setCell ?_ (by simp <;> omega) _)
  · rw [plays.res_no hs] at HPO
    have HE := Lib.hid (res_no (x := x) (y := y) (ss := ss) (fun h => hs h.1))
    have p0 := P0.out
    clear hs HF F0 P1
    go_enter Try.func57, Try.ntmps57
    go_wp2_with fail
    clear p0
    refine (HPO.out _).mono ?_
    rintro e w1 ⟨u, rfl, hu, hb⟩
    obtain ⟨va, vl, vc, rfl⟩ := hu.rows.shape
    have B1 := Lib.hid (below_al (below_tr B0.out hb) (.cells #[.slice va vl vc] 22))
    have R1 := Lib.hid ((R0.out.below hb).alloc (.cells #[.slice va vl vc] 22))
    obtain ⟨r0, r1, r2, r3, r4⟩ := four_cells R1.out
    have rf : ∀ k, (w1.alloc (.cells #[.slice va vl vc] 22)).frozen? ⟨w.heap.size + 1 + 1, k, none⟩ = false := fun k => Joins.unfrozen_of_block R1.out k
    clear hu hb HPO R0 B0
    go_wp2_with fail
    refine bodyPost_ret (v := .tuple #[.agg #[.int .i64 0, .int .i64 0, .int .i64 0, .slice none 0 0], .bool false]) (by simp [results, Try.results57, go_sem, r0, r1, r2, r3]) rfl ?_
    rw [HE.out]
    refine ⟨_, rfl, OwnRows.nil _ _ _, ?_⟩
    repeat (first | (with_reducible exact B1.out) | (with_reducible refine Below.setCell ?_ (by simp <;> omega) _) | refine Below.setCell ?_ (by simp <;> omega) _)


end Go.Proofs.Ytggodllfaggjiac.mxb
