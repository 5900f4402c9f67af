/- Valid Talks: what one is; l8Size, l8Talk, l8Valid, IsTalk of the model. -/
import Derived.Test.YtggodllfaggjiaaTalk
import Derived.Test.YtggodllfaggjiaaTask
namespace Go.Proofs.Ytggodllfaggjiaa.tkv
open Go.RowKit Go.Deep Go.Proofs.Ytggodllfaggjiaa.base
open Go.Proofs.Ytggodllfaggjiaa.val (ret_b)
open Go.Proofs.Ytggodllfaggjiaa.play (within withinB withinB_yes withinB_no ret_bb)
open Go.Proofs.Ytggodllfaggjiaa.talk (TV)
open Go.Proofs.Ytggodllfaggjiaa.scene (three_cells)

/-- how long the list of a step is -/
def side (R C : Nat) (sp : Int) : Nat := if sp = 1 then C else R
/-- what may follow step s of n -/
def okNext (n s : Nat) (z : Int) : Prop := -2 ≤ z ∧ z ≤ (n : Int) - 1 ∧ (0 ≤ z → (s : Int) < z)
structure okStep (n R C : Nat) (sp : Int) (row : List Int) (p : Int × Int) (s : Nat) : Prop where
  spk : sp = 0 ∨ sp = 1
  row : within (side R C sp) 0 1 row
  one : okNext n s p.1
  two : okNext n s p.2
/-- what a Talk is, of a size -/
structure okTalk (ss : List Int) (xss : List (List Int)) (ps : List (Int × Int)) (R C : Nat) : Prop where
  ge : 1 ≤ ss.length
  le : ss.length ≤ 32
  says : xss.length = ss.length
  next : ps.length = ss.length
  step : ∀ k (h : k < ss.length), okStep ss.length R C ss[k] (xss.getD k []) (ps.getD k (0, 0)) k
open Classical in
noncomputable def talkB (ss : List Int) (xss : List (List Int)) (ps : List (Int × Int)) (R C : Nat) : Bool := if okTalk ss xss ps R C then true else false
theorem talkB_yes {ss : List Int} {xss : List (List Int)} {ps : List (Int × Int)} {R C : Nat} (h : okTalk ss xss ps R C) : talkB ss xss ps R C = true := if_pos h
theorem talkB_no {ss : List Int} {xss : List (List Int)} {ps : List (Int × Int)} {R C : Nat} (h : ¬ okTalk ss xss ps R C) : talkB ss xss ps R C = false := if_neg h
theorem getx {xss : List (List Int)} {k : Nat} (h : k < xss.length) : xss.getD k [] = xss[k] := by simp [List.getD, h]
theorem getp {ps : List (Int × Int)} {k : Nat} (h : k < ps.length) : ps.getD k (0, 0) = ps[k] := by simp [List.getD, h]

/-- a Talk's cells, its three lists as long -/
theorem cells {w : World} {sv u nv : Value} {ss : List Int} {xss : List (List Int)} {ps : List (Int × Int)} (h : TV w sv ss u xss nv ps) (hp : 1 ≤ ss.length) (hx : xss.length = ss.length) (hn : ps.length = ss.length) :
    ∃ (b o cap d q cap2 g p cap3 : Nat) (F : Nat → Value), sv = .slice (some ⟨b, o, none⟩) ss.length cap ∧ u = .slice (some ⟨d, q, none⟩) ss.length cap2 ∧ nv = .slice (some ⟨g, p, none⟩) ss.length cap3 ∧
      (∀ k (hk : k < ss.length), w.cell? ⟨b, o + k, none⟩ = some (.int .i64 ss[k])) ∧
      (∀ k, k < ss.length → w.cell? ⟨d, q + k, none⟩ = some (F k) ∧ Ints w (F k) (xss.getD k [])) ∧
      (∀ k, k < ss.length → w.cell? ⟨g, p + k * 2, none⟩ = some (.int .i64 (ps.getD k (0, 0)).1) ∧ w.cell? ⟨g, p + k * 2 + 1, none⟩ = some (.int .i64 (ps.getD k (0, 0)).2)) := by
  obtain ⟨A, b, o, cap, e1, _, _, hA, hc⟩ := h.ints.form
  obtain ⟨U, d, q, cap2, F, e2, _, _, hU, hr⟩ := h.rows.form
  obtain ⟨N, g, p, cap3, e3, _, _, hN, hq⟩ := h.prs.form
  refine ⟨b, o, cap, d, q, cap2, g, p, cap3, F, by rw [e1, hA (by omega)], by rw [e2, hU (by omega), hx], by rw [e3, hN (by omega), hn], hc, fun k hk => ?_, fun k hk => ?_⟩
  · rw [getx (by omega)]; exact hr k (by omega)
  · rw [getp (by omega)]; exact hq k (by omega)


theorem spec_size (x y : Int) (w : World) (r : Bool) (h : r = decide (1 ≤ x ∧ x ≤ 4 ∧ 1 ≤ y ∧ y ≤ 4)) :
    Calls Try.prog 60 #[.int .i64 x, .int .i64 y] w fun e w' => e = .returned (.bool r) ∧ w = w' := by
  subst h
  by_cases h1 : 1 ≤ x ∧ x ≤ 4
  · by_cases h2 : 1 ≤ y ∧ y ≤ 4
    · have HE : Hid (decide (1 ≤ x ∧ x ≤ 4 ∧ 1 ≤ y ∧ y ≤ 4) = true) := Lib.hid (by simp [h1, h2])
      rw [HE.out]
      go_enter Try.func60, Try.ntmps60
      go_wp2_with fail
      refine (val.in_yes _ _ _ _ h1.1 h1.2).mono ?_
      rintro e w' ⟨rfl, rfl⟩
      go_wp2_with fail
      refine (val.in_yes _ _ _ _ h2.1 h2.2).mono ?_
      rintro e w' ⟨rfl, rfl⟩
      go_wp2_with fail
      go_ret
      exact ⟨rfl, rfl⟩
    · have HE : Hid (decide (1 ≤ x ∧ x ≤ 4 ∧ 1 ≤ y ∧ y ≤ 4) = false) := Lib.hid (by simp; omega)
      rw [HE.out]
      have hb : y < 1 ∨ 4 < y := by omega
      clear h2
      go_enter Try.func60, Try.ntmps60
      go_wp2_with fail
      refine (val.in_yes _ _ _ _ h1.1 h1.2).mono ?_
      rintro e w' ⟨rfl, rfl⟩
      go_wp2_with fail
      refine (val.in_no _ _ _ _ hb).mono ?_
      rintro e w' ⟨rfl, rfl⟩
      clear hb
      go_wp2_with fail
      go_ret
      exact ⟨rfl, rfl⟩
  · have HE : Hid (decide (1 ≤ x ∧ x ≤ 4 ∧ 1 ≤ y ∧ y ≤ 4) = false) := Lib.hid (by simp; omega)
    rw [HE.out]
    have hb : x < 1 ∨ 4 < x := by omega
    clear h1
    go_enter Try.func60, Try.ntmps60
    go_wp2_with fail
    refine (val.in_no _ _ _ _ hb).mono ?_
    rintro e w' ⟨rfl, rfl⟩
    clear hb
    go_wp2_with fail
    go_ret
    exact ⟨rfl, rfl⟩



set_option maxRecDepth 100000 in
set_option maxHeartbeats 4000000 in
theorem spec_steps (sv : Value) (ss : List Int) (u : Value) (xss : List (List Int)) (nv : Value) (ps : List (Int × Int)) (R C : Nat) (w : World) (h : TV w sv ss u xss nv ps) :
    Calls Try.prog 61 #[.agg #[sv, u, nv], .int .i64 R, .int .i64 C] w fun e w' => e = .returned (.bool (talkB ss xss ps R C)) ∧ Below w.heap.size w w' := by
  obtain ⟨A, cap, rfl⟩ : ∃ A c, sv = .slice A ss.length c := by obtain ⟨A, c, hv, _⟩ := h.ints; exact ⟨A, c, by rw [hv, len_i64s]⟩
  obtain ⟨U, cap2, rfl⟩ : ∃ A c, u = .slice A xss.length c := by obtain ⟨A, b, o, cap, R, hu, _⟩ := h.rows.form; exact ⟨A, cap, hu⟩
  obtain ⟨N, cap3, rfl⟩ : ∃ A c, nv = .slice A ps.length c := by obtain ⟨A, c, hv, _⟩ := h.prs; exact ⟨A, c, hv⟩
  have H := Lib.hid (h.below (below_al (Below.refl w.heap.size w) (.cells #[.slice A ss.length cap, .slice U xss.length cap2, .slice N ps.length cap3] 34)))
  have BE := Lib.hid (below_al (Below.refl w.heap.size w) (.cells #[.slice A ss.length cap, .slice U xss.length cap2, .slice N ps.length cap3] 34))
  obtain ⟨c0, c1, c2, c3⟩ := three_cells (Blk.new w 34 #[.slice A ss.length cap, .slice U xss.length cap2, .slice N ps.length cap3])
  clear h
  by_cases hl : 1 ≤ ss.length ∧ ss.length ≤ 32
  · have l1 : (1 : Int) ≤ (ss.length : Int) := by omega
    have l2 : (ss.length : Int) ≤ 32 := by omega
    by_cases hx : xss.length = ss.length
    · have dx : ((xss.length : Int) != (ss.length : Int)) = false := by simp [hx]
      by_cases hn : ps.length = ss.length
      · have dn : ((ps.length : Int) != (ss.length : Int)) = false := by simp [hn]
        obtain ⟨b, o, cap', d, q, cap2', g, p, cap3', F, e1, e2, e3, hS, hX, hP⟩ := cells H.out hl.1 hx hn
        injection e1 with e1 f1 g1
        injection e2 with e2 f2 g2
        injection e3 with e3 f3 g3
        subst e1; subst e2; subst e3; subst g1; subst g2; subst g3
        clear f2 f3
        try clear f1
        have HL := Lib.hid hl
        have HX := Lib.hid hx
        have HN0 := Lib.hid hn
        have XS := Lib.hid hS
        have XX := Lib.hid hX
        have XP := Lib.hid hP
        clear hl hx hn hS hX hP H
        go_enter Try.func61, Try.ntmps61
        go_wp2_with fail
        with_reducible refine (val.in_yes _ _ _ _ l1 l2).mono ?_
        rintro e w' ⟨rfl, rfl⟩
        go_wp2_with fail
        go_loopw [6, 8, 9, 10, 11] (fun r s z9 z10 z11 wr => ∃ k : Nat, k ≤ ss.length ∧ s = .int .i64 k ∧ r = .bool false ∧ (∃ z, z9 = z) ∧ (∃ z, z10 = z) ∧ (∃ z, z11 = z) ∧ Hid (∀ j (h : j < ss.length), j < k → okStep ss.length R C ss[j] (xss.getD j []) (ps.getD j (0, 0)) j) ∧ wr = (w.alloc (.cells #[.slice (some ⟨b, o, none⟩) ss.length cap, .slice (some ⟨d, q, none⟩) xss.length cap2, .slice (some ⟨g, p, none⟩) ps.length cap3] 34))) (fun _ s _ _ _ _ => ss.length - (intOf s).toNat)
        case atStart => exact ⟨0, Nat.zero_le _, rfl, rfl, ⟨_, rfl⟩, ⟨_, rfl⟩, ⟨_, rfl⟩, fun j _ hj => by omega, rfl⟩
        case round =>
          obtain ⟨k, hk, rfl, rfl, ⟨z9, rfl⟩, ⟨z10, rfl⟩, ⟨z11, rfl⟩, hH, rfl⟩ := hrel
          by_cases hlt : k < ss.length
          · have hkz : (k : Int) < (ss.length : Int) := by omega
            have hkx : (k : Int) < (xss.length : Int) := by have := HX.out; omega
            have hkp : (k : Int) < (ps.length : Int) := by have := HN0.out; omega
            have s0 := XS.out k hlt
            obtain ⟨x0, x1⟩ := XX.out k hlt
            obtain ⟨p0, p1⟩ := XP.out k hlt
            have HB := Lib.hid (fun (n : Nat) => play.spec_bits _ (xss.getD k []) n _ x1)
            have HG : Hid (¬ okStep ss.length R C ss[k] (xss.getD k []) (ps.getD k (0, 0)) k → ¬ okTalk ss xss ps R C) := Lib.hid (fun h h2 => h (h2.step k hlt))
            have HST : Hid (okStep ss.length R C ss[k] (xss.getD k []) (ps.getD k (0, 0)) k → ∀ j (h : j < ss.length), j < k + 1 → okStep ss.length R C ss[j] (xss.getD j []) (ps.getD j (0, 0)) j) := Lib.hid (fun h j hj hj' => by
              by_cases e : j = k
              · subst e; exact h
              · exact hH.out j hj (by omega))
            obtain ⟨sp, hsp⟩ : ∃ z, ss[k] = z := ⟨_, rfl⟩
            obtain ⟨pa, hpa⟩ : ∃ z, (ps.getD k (0, 0)).1 = z := ⟨_, rfl⟩
            obtain ⟨pb, hpb⟩ : ∃ z, (ps.getD k (0, 0)).2 = z := ⟨_, rfl⟩
            rw [hsp] at s0 HG HST
            rw [hpa] at p0
            rw [hpb] at p1
            have HPA := Lib.hid hpa
            have HPB := Lib.hid hpb
            generalize ps.getD k (0, 0) = pp at *
            generalize xss.getD k [] = row at *
            obtain ⟨Fk, hFk⟩ : ∃ z, F k = z := ⟨_, rfl⟩
            rw [hFk] at x0 x1 HB
            obtain ⟨ra, rn, rc, rfl⟩ := x1.shape
            clear x1 hH hsp hpa hpb hFk
            by_cases h0 : sp = 0 ∨ sp = 1
            · rcases h0 with rfl | rfl
              · have ds : ((0 : Int) == 1) = false := by decide
                have hsd : Hid (side R C 0 = R) := Lib.hid (by simp [side])
                have HB := Lib.hid (HB.out R)
                by_cases hw : within R 0 1 row
                · rw [withinB_yes hw] at HB
                  have HW := Lib.hid hw
                  clear hw
                  go_wp2_with fail
                  refine (val.in_yes 0 0 1 _ (by omega) (by omega)).mono ?_
                  rintro e w' ⟨rfl, rfl⟩
                  go_wp2_with fail
                  refine HB.out.mono ?_
                  rintro e w' ⟨rfl, rfl⟩
                  go_wp2_with fail
                  go_loopw [6, 10, 11] (fun r s z11 wr => ∃ j : Nat, j ≤ 2 ∧ s = .int .i64 j ∧ r = .bool false ∧ (∃ z, z11 = z) ∧ Hid (0 < j → okNext ss.length k pa) ∧ Hid (1 < j → okNext ss.length k pb) ∧ wr = (w.alloc (.cells #[.slice (some ⟨b, o, none⟩) ss.length cap, .slice (some ⟨d, q, none⟩) xss.length cap2, .slice (some ⟨g, p, none⟩) ps.length cap3] 34))) (fun _ s _ _ => 2 - (intOf s).toNat)
                  case atStart => exact ⟨0, by omega, rfl, rfl, ⟨_, rfl⟩, fun h => absurd h (by omega), fun h => absurd h (by omega), rfl⟩
                  case round =>
                    obtain ⟨j, hj, rfl, rfl, ⟨z11, rfl⟩, h1, h2, rfl⟩ := hrel
                    rcases (by omega : j = 0 ∨ j = 1 ∨ j = 2) with rfl | rfl | rfl
                    · by_cases hin : -2 ≤ pa ∧ pa ≤ (ss.length : Int) - 1
                      · obtain ⟨i1, i2⟩ := hin
                        by_cases hz : 0 ≤ pa
                        · have dz : decide (0 ≤ pa) = true := by simp [hz]
                          by_cases hlk : pa ≤ (k : Int)
                          · have dk : decide (pa ≤ (k : Int)) = true := by simp [hlk]
                            have HN := Lib.hid (HG.out (fun h => by have h5 := h.one; rw [HPA.out] at h5; have := h5.2.2 hz; omega))
                            clear hz hlk
                            go_wp2_with fail
                            with_reducible refine (val.in_yes _ _ _ _ i1 i2).mono ?_
                            rintro e w' ⟨rfl, rfl⟩
                            go_wp2_with fail
                            go_ret
                            exact ⟨ret_b (talkB_no HN.out).symm, BE.out⟩
                          · have dk : decide (pa ≤ (k : Int)) = false := by simp; omega
                            have HNX : Hid (okNext ss.length k pa) := Lib.hid ⟨i1, i2, fun _ => by omega⟩
                            clear hz hlk
                            go_wp2_with fail
                            with_reducible refine (val.in_yes _ _ _ _ i1 i2).mono ?_
                            rintro e w' ⟨rfl, rfl⟩
                            go_wp2_with fail
                            go_roundw
                            case rel => exact ⟨1, by omega, by go_num, rfl, ⟨_, rfl⟩, fun _ => HNX.out, fun h => absurd h (by omega), by first | rfl | trivial⟩
                            case measure => simp [intOf]
                        · have dz : decide (0 ≤ pa) = false := by simp; omega
                          have HNX : Hid (okNext ss.length k pa) := Lib.hid ⟨i1, i2, fun h => absurd h hz⟩
                          clear hz
                          go_wp2_with fail
                          with_reducible refine (val.in_yes _ _ _ _ i1 i2).mono ?_
                          rintro e w' ⟨rfl, rfl⟩
                          go_wp2_with fail
                          go_roundw
                          case rel => exact ⟨1, by omega, by go_num, rfl, ⟨_, rfl⟩, fun _ => HNX.out, fun h => absurd h (by omega), by first | rfl | trivial⟩
                          case measure => simp [intOf]
                      · have hb : pa < -2 ∨ (ss.length : Int) - 1 < pa := by omega
                        have HN := Lib.hid (HG.out (fun h => by have h5 := h.one; rw [HPA.out] at h5; have := h5.1; have := h5.2.1; omega))
                        clear hin
                        go_wp2_with fail
                        with_reducible refine (val.in_no _ _ _ _ hb).mono ?_
                        rintro e w' ⟨rfl, rfl⟩
                        clear hb
                        go_wp2_with fail
                        go_ret
                        exact ⟨ret_b (talkB_no HN.out).symm, BE.out⟩
                    · by_cases hin : -2 ≤ pb ∧ pb ≤ (ss.length : Int) - 1
                      · obtain ⟨i1, i2⟩ := hin
                        by_cases hz : 0 ≤ pb
                        · have dz : decide (0 ≤ pb) = true := by simp [hz]
                          by_cases hlk : pb ≤ (k : Int)
                          · have dk : decide (pb ≤ (k : Int)) = true := by simp [hlk]
                            have HN := Lib.hid (HG.out (fun h => by have h5 := h.two; rw [HPB.out] at h5; have := h5.2.2 hz; omega))
                            clear hz hlk
                            go_wp2_with fail
                            with_reducible refine (val.in_yes _ _ _ _ i1 i2).mono ?_
                            rintro e w' ⟨rfl, rfl⟩
                            go_wp2_with fail
                            go_ret
                            exact ⟨ret_b (talkB_no HN.out).symm, BE.out⟩
                          · have dk : decide (pb ≤ (k : Int)) = false := by simp; omega
                            have HNX : Hid (okNext ss.length k pb) := Lib.hid ⟨i1, i2, fun _ => by omega⟩
                            clear hz hlk
                            go_wp2_with fail
                            with_reducible refine (val.in_yes _ _ _ _ i1 i2).mono ?_
                            rintro e w' ⟨rfl, rfl⟩
                            go_wp2_with fail
                            go_roundw
                            case rel => exact ⟨2, by omega, by go_num, rfl, ⟨_, rfl⟩, fun _ => h1.out (by omega), fun _ => HNX.out, by first | rfl | trivial⟩
                            case measure => simp [intOf]
                        · have dz : decide (0 ≤ pb) = false := by simp; omega
                          have HNX : Hid (okNext ss.length k pb) := Lib.hid ⟨i1, i2, fun h => absurd h hz⟩
                          clear hz
                          go_wp2_with fail
                          with_reducible refine (val.in_yes _ _ _ _ i1 i2).mono ?_
                          rintro e w' ⟨rfl, rfl⟩
                          go_wp2_with fail
                          go_roundw
                          case rel => exact ⟨2, by omega, by go_num, rfl, ⟨_, rfl⟩, fun _ => h1.out (by omega), fun _ => HNX.out, by first | rfl | trivial⟩
                          case measure => simp [intOf]
                      · have hb : pb < -2 ∨ (ss.length : Int) - 1 < pb := by omega
                        have HN := Lib.hid (HG.out (fun h => by have h5 := h.two; rw [HPB.out] at h5; have := h5.1; have := h5.2.1; omega))
                        clear hin
                        go_wp2_with fail
                        with_reducible refine (val.in_no _ _ _ _ hb).mono ?_
                        rintro e w' ⟨rfl, rfl⟩
                        clear hb
                        go_wp2_with fail
                        go_ret
                        exact ⟨ret_b (talkB_no HN.out).symm, BE.out⟩
                    · have HO := Lib.hid (HST.out ⟨.inl rfl, by rw [hsd.out]; exact HW.out, by rw [HPA.out]; exact h1.out (by omega), by rw [HPB.out]; exact h2.out (by omega)⟩)
                      go_wp2_with fail
                      go_roundw
                      case rel => exact ⟨k + 1, by omega, by go_num, rfl, ⟨_, rfl⟩, ⟨_, rfl⟩, ⟨_, rfl⟩, HO.out, by first | rfl | trivial⟩
                      case measure => simp [intOf]; omega
                · rw [withinB_no hw] at HB
                  have HN := Lib.hid (HG.out (fun h => hw (by have h5 := h.row; rw [hsd.out] at h5; exact h5)))
                  clear hw
                  go_wp2_with fail
                  refine (val.in_yes 0 0 1 _ (by omega) (by omega)).mono ?_
                  rintro e w' ⟨rfl, rfl⟩
                  go_wp2_with fail
                  refine HB.out.mono ?_
                  rintro e w' ⟨rfl, rfl⟩
                  go_wp2_with fail
                  go_ret
                  exact ⟨ret_b (talkB_no HN.out).symm, BE.out⟩
              · have ds : ((1 : Int) == 1) = true := by decide
                have hsd : Hid (side R C 1 = C) := Lib.hid (by simp [side])
                have HB := Lib.hid (HB.out C)
                by_cases hw : within C 0 1 row
                · rw [withinB_yes hw] at HB
                  have HW := Lib.hid hw
                  clear hw
                  go_wp2_with fail
                  refine (val.in_yes 1 0 1 _ (by omega) (by omega)).mono ?_
                  rintro e w' ⟨rfl, rfl⟩
                  go_wp2_with fail
                  refine HB.out.mono ?_
                  rintro e w' ⟨rfl, rfl⟩
                  go_wp2_with fail
                  go_loopw [6, 10, 11] (fun r s z11 wr => ∃ j : Nat, j ≤ 2 ∧ s = .int .i64 j ∧ r = .bool false ∧ (∃ z, z11 = z) ∧ Hid (0 < j → okNext ss.length k pa) ∧ Hid (1 < j → okNext ss.length k pb) ∧ wr = (w.alloc (.cells #[.slice (some ⟨b, o, none⟩) ss.length cap, .slice (some ⟨d, q, none⟩) xss.length cap2, .slice (some ⟨g, p, none⟩) ps.length cap3] 34))) (fun _ s _ _ => 2 - (intOf s).toNat)
                  case atStart => exact ⟨0, by omega, rfl, rfl, ⟨_, rfl⟩, fun h => absurd h (by omega), fun h => absurd h (by omega), rfl⟩
                  case round =>
                    obtain ⟨j, hj, rfl, rfl, ⟨z11, rfl⟩, h1, h2, rfl⟩ := hrel
                    rcases (by omega : j = 0 ∨ j = 1 ∨ j = 2) with rfl | rfl | rfl
                    · by_cases hin : -2 ≤ pa ∧ pa ≤ (ss.length : Int) - 1
                      · obtain ⟨i1, i2⟩ := hin
                        by_cases hz : 0 ≤ pa
                        · have dz : decide (0 ≤ pa) = true := by simp [hz]
                          by_cases hlk : pa ≤ (k : Int)
                          · have dk : decide (pa ≤ (k : Int)) = true := by simp [hlk]
                            have HN := Lib.hid (HG.out (fun h => by have h5 := h.one; rw [HPA.out] at h5; have := h5.2.2 hz; omega))
                            clear hz hlk
                            go_wp2_with fail
                            with_reducible refine (val.in_yes _ _ _ _ i1 i2).mono ?_
                            rintro e w' ⟨rfl, rfl⟩
                            go_wp2_with fail
                            go_ret
                            exact ⟨ret_b (talkB_no HN.out).symm, BE.out⟩
                          · have dk : decide (pa ≤ (k : Int)) = false := by simp; omega
                            have HNX : Hid (okNext ss.length k pa) := Lib.hid ⟨i1, i2, fun _ => by omega⟩
                            clear hz hlk
                            go_wp2_with fail
                            with_reducible refine (val.in_yes _ _ _ _ i1 i2).mono ?_
                            rintro e w' ⟨rfl, rfl⟩
                            go_wp2_with fail
                            go_roundw
                            case rel => exact ⟨1, by omega, by go_num, rfl, ⟨_, rfl⟩, fun _ => HNX.out, fun h => absurd h (by omega), by first | rfl | trivial⟩
                            case measure => simp [intOf]
                        · have dz : decide (0 ≤ pa) = false := by simp; omega
                          have HNX : Hid (okNext ss.length k pa) := Lib.hid ⟨i1, i2, fun h => absurd h hz⟩
                          clear hz
                          go_wp2_with fail
                          with_reducible refine (val.in_yes _ _ _ _ i1 i2).mono ?_
                          rintro e w' ⟨rfl, rfl⟩
                          go_wp2_with fail
                          go_roundw
                          case rel => exact ⟨1, by omega, by go_num, rfl, ⟨_, rfl⟩, fun _ => HNX.out, fun h => absurd h (by omega), by first | rfl | trivial⟩
                          case measure => simp [intOf]
                      · have hb : pa < -2 ∨ (ss.length : Int) - 1 < pa := by omega
                        have HN := Lib.hid (HG.out (fun h => by have h5 := h.one; rw [HPA.out] at h5; have := h5.1; have := h5.2.1; omega))
                        clear hin
                        go_wp2_with fail
                        with_reducible refine (val.in_no _ _ _ _ hb).mono ?_
                        rintro e w' ⟨rfl, rfl⟩
                        clear hb
                        go_wp2_with fail
                        go_ret
                        exact ⟨ret_b (talkB_no HN.out).symm, BE.out⟩
                    · by_cases hin : -2 ≤ pb ∧ pb ≤ (ss.length : Int) - 1
                      · obtain ⟨i1, i2⟩ := hin
                        by_cases hz : 0 ≤ pb
                        · have dz : decide (0 ≤ pb) = true := by simp [hz]
                          by_cases hlk : pb ≤ (k : Int)
                          · have dk : decide (pb ≤ (k : Int)) = true := by simp [hlk]
                            have HN := Lib.hid (HG.out (fun h => by have h5 := h.two; rw [HPB.out] at h5; have := h5.2.2 hz; omega))
                            clear hz hlk
                            go_wp2_with fail
                            with_reducible refine (val.in_yes _ _ _ _ i1 i2).mono ?_
                            rintro e w' ⟨rfl, rfl⟩
                            go_wp2_with fail
                            go_ret
                            exact ⟨ret_b (talkB_no HN.out).symm, BE.out⟩
                          · have dk : decide (pb ≤ (k : Int)) = false := by simp; omega
                            have HNX : Hid (okNext ss.length k pb) := Lib.hid ⟨i1, i2, fun _ => by omega⟩
                            clear hz hlk
                            go_wp2_with fail
                            with_reducible refine (val.in_yes _ _ _ _ i1 i2).mono ?_
                            rintro e w' ⟨rfl, rfl⟩
                            go_wp2_with fail
                            go_roundw
                            case rel => exact ⟨2, by omega, by go_num, rfl, ⟨_, rfl⟩, fun _ => h1.out (by omega), fun _ => HNX.out, by first | rfl | trivial⟩
                            case measure => simp [intOf]
                        · have dz : decide (0 ≤ pb) = false := by simp; omega
                          have HNX : Hid (okNext ss.length k pb) := Lib.hid ⟨i1, i2, fun h => absurd h hz⟩
                          clear hz
                          go_wp2_with fail
                          with_reducible refine (val.in_yes _ _ _ _ i1 i2).mono ?_
                          rintro e w' ⟨rfl, rfl⟩
                          go_wp2_with fail
                          go_roundw
                          case rel => exact ⟨2, by omega, by go_num, rfl, ⟨_, rfl⟩, fun _ => h1.out (by omega), fun _ => HNX.out, by first | rfl | trivial⟩
                          case measure => simp [intOf]
                      · have hb : pb < -2 ∨ (ss.length : Int) - 1 < pb := by omega
                        have HN := Lib.hid (HG.out (fun h => by have h5 := h.two; rw [HPB.out] at h5; have := h5.1; have := h5.2.1; omega))
                        clear hin
                        go_wp2_with fail
                        with_reducible refine (val.in_no _ _ _ _ hb).mono ?_
                        rintro e w' ⟨rfl, rfl⟩
                        clear hb
                        go_wp2_with fail
                        go_ret
                        exact ⟨ret_b (talkB_no HN.out).symm, BE.out⟩
                    · have HO := Lib.hid (HST.out ⟨.inr rfl, by rw [hsd.out]; exact HW.out, by rw [HPA.out]; exact h1.out (by omega), by rw [HPB.out]; exact h2.out (by omega)⟩)
                      go_wp2_with fail
                      go_roundw
                      case rel => exact ⟨k + 1, by omega, by go_num, rfl, ⟨_, rfl⟩, ⟨_, rfl⟩, ⟨_, rfl⟩, HO.out, by first | rfl | trivial⟩
                      case measure => simp [intOf]; omega
                · rw [withinB_no hw] at HB
                  have HN := Lib.hid (HG.out (fun h => hw (by have h5 := h.row; rw [hsd.out] at h5; exact h5)))
                  clear hw
                  go_wp2_with fail
                  refine (val.in_yes 1 0 1 _ (by omega) (by omega)).mono ?_
                  rintro e w' ⟨rfl, rfl⟩
                  go_wp2_with fail
                  refine HB.out.mono ?_
                  rintro e w' ⟨rfl, rfl⟩
                  go_wp2_with fail
                  go_ret
                  exact ⟨ret_b (talkB_no HN.out).symm, BE.out⟩
            · have ds : (sp == 1) = false := by simp; omega
              have hb : sp < 0 ∨ 1 < sp := by omega
              have HN := Lib.hid (HG.out (fun h => h0 h.spk))
              clear h0
              go_wp2_with fail
              with_reducible refine (val.in_no _ _ _ _ hb).mono ?_
              rintro e w' ⟨rfl, rfl⟩
              clear hb
              go_wp2_with fail
              go_ret
              exact ⟨ret_b (talkB_no HN.out).symm, BE.out⟩
          · have hkz : ¬ (k : Int) < (ss.length : Int) := by omega
            have HO : Hid (okTalk ss xss ps R C) := Lib.hid ⟨HL.out.1, HL.out.2, HX.out, HN0.out, fun j hj => hH.out j hj (by omega)⟩
            go_wp2_with fail
            go_ret
            exact ⟨ret_b (talkB_yes HO.out).symm, BE.out⟩
      · have dn : ((ps.length : Int) != (ss.length : Int)) = true := by simp; omega
        have HN : Hid (¬ okTalk ss xss ps R C) := Lib.hid (fun h => hn h.next)
        clear hl hx hn H
        go_enter Try.func61, Try.ntmps61
        go_wp2_with fail
        with_reducible refine (val.in_yes _ _ _ _ l1 l2).mono ?_
        rintro e w' ⟨rfl, rfl⟩
        go_wp2_with fail
        go_ret
        exact ⟨ret_b (talkB_no HN.out).symm, BE.out⟩
    · have dx : ((xss.length : Int) != (ss.length : Int)) = true := by simp; omega
      have HN : Hid (¬ okTalk ss xss ps R C) := Lib.hid (fun h => hx h.says)
      clear hl hx H
      go_enter Try.func61, Try.ntmps61
      go_wp2_with fail
      with_reducible refine (val.in_yes _ _ _ _ l1 l2).mono ?_
      rintro e w' ⟨rfl, rfl⟩
      go_wp2_with fail
      go_ret
      exact ⟨ret_b (talkB_no HN.out).symm, BE.out⟩
  · have hb : (ss.length : Int) < 1 ∨ 32 < (ss.length : Int) := by omega
    have HN : Hid (¬ okTalk ss xss ps R C) := Lib.hid (fun h => hl ⟨h.ge, h.le⟩)
    clear hl H
    go_enter Try.func61, Try.ntmps61
    go_wp2_with fail
    with_reducible refine (val.in_no _ _ _ _ hb).mono ?_
    rintro e w' ⟨rfl, rfl⟩
    clear hb
    go_wp2_with fail
    go_ret
    exact ⟨ret_b (talkB_no HN.out).symm, BE.out⟩


end Go.Proofs.Ytggodllfaggjiaa.tkv
