/- Valid Talks: isBit, endAt, numberAt, hasSteps of the program. -/
import Derived.Test.YtggodllfaggjiaaTkv
import Derived.BigQuiet
namespace Go.Proofs.Ytggodllfaggjiaa.tki
open Go.RowKit Go.Deep Go.Proofs.Ytggodllfaggjiaa.base
open Go.Proofs.Ytggodllfaggjiaa.val (ret_b)
open Go.Proofs.Ytggodllfaggjiaa.ints (ret_int)
open Go.Proofs.Ytggodllfaggjiaa.play (within withinB withinB_yes withinB_no ret_bb)
open Go.Proofs.Ytggodllfaggjiaa.talk (TV)
open Go.Proofs.Ytggodllfaggjiaa.prt (two_cells)
open Go.Proofs.Ytggodllfaggjiaa.scene (three_cells)
open Go.Proofs.Ytggodllfaggjiaa.tkv


theorem bit_yes (x : Int) (w : World) (h : x = 0 ∨ x = 1) : Calls Try.prog 81 #[.int .i64 x] w fun e w' => e = .returned (.bool true) ∧ w = w' := by
  rcases h with rfl | rfl
  · go_enter Try.func81, Try.ntmps81
    go_wp2_with fail
    go_ret
    exact ⟨rfl, rfl⟩
  · go_enter Try.func81, Try.ntmps81
    go_wp2_with fail
    go_ret
    exact ⟨rfl, rfl⟩
theorem bit_no (x : Int) (w : World) (h : ¬ (x = 0 ∨ x = 1)) : Calls Try.prog 81 #[.int .i64 x] w fun e w' => e = .returned (.bool false) ∧ w = w' := by
  have d0 : (x == 0) = false := by simp; omega
  have d1 : (x == 1) = false := by simp; omega
  clear h
  go_enter Try.func81, Try.ntmps81
  go_wp2_with fail
  go_ret
  exact ⟨rfl, rfl⟩


theorem end0 (w : World) : Calls Try.prog 91 #[.int .i64 0] w fun e w' => e = .returned (.int .i64 (-1)) ∧ w = w' := by
  go_enter Try.func91, Try.ntmps91
  go_wp2_with fail
  go_ret
  exact ⟨rfl, rfl⟩
theorem end1 (w : World) : Calls Try.prog 91 #[.int .i64 1] w fun e w' => e = .returned (.int .i64 (-2)) ∧ w = w' := by
  go_enter Try.func91, Try.ntmps91
  go_wp2_with fail
  go_ret
  exact ⟨rfl, rfl⟩


theorem num_at (z : Int) (w : World) (h : z = -1 ∨ z = -2) : Calls Try.prog 92 #[.int .i64 z] w fun e w' => e = .returned (.int .i64 (-1 - z)) ∧ w = w' := by
  rcases h with rfl | rfl
  · go_enter Try.func92, Try.ntmps92
    go_wp2_with fail
    go_ret
    exact ⟨rfl, rfl⟩
  · go_enter Try.func92, Try.ntmps92
    go_wp2_with fail
    go_ret
    exact ⟨rfl, rfl⟩

theorem ix0 (a b : Int) (W : World) : (Instr.index 86 (.agg #[.int .i64 a, .int .i64 b]) (.int .i64 ((0 : Nat) : Int))).run Try.prog W = .ok (.int .i64 a) W := by kernel_rfl
theorem iy0 (a b : Int) (W : World) : (Instr.index 86 (.agg #[.int .i64 a, .int .i64 b]) (.int .i64 0)).run Try.prog W = .ok (.int .i64 a) W := by kernel_rfl
theorem iy1 (a b : Int) (W : World) : (Instr.index 86 (.agg #[.int .i64 a, .int .i64 b]) (.int .i64 1)).run Try.prog W = .ok (.int .i64 b) W := by kernel_rfl
theorem ix1 (a b : Int) (W : World) : (Instr.index 86 (.agg #[.int .i64 a, .int .i64 b]) (.int .i64 ((1 : Nat) : Int))).run Try.prog W = .ok (.int .i64 b) W := by kernel_rfl


set_option maxRecDepth 100000 in
set_option maxHeartbeats 4000000 in
theorem impl_steps (sv : Value) (ss : List Int) (u : Value) (xss : List (List Int)) (nv : Value) (ps : List (Int × Int)) (R C : Nat) (w : World) (h : TV w sv ss u xss nv ps) :
    Calls Try.prog 63 #[.agg #[sv, u, nv], .int .i64 R, .int .i64 C] w fun e w' => e = .returned (.bool (talkB ss xss ps R C)) ∧ Below w.heap.size w w' := by
  obtain ⟨A, cap, rfl⟩ : ∃ A c, sv = .slice A ss.length c := by obtain ⟨A, c, hv, _⟩ := h.ints; exact ⟨A, c, by rw [hv, len_i64s]⟩
  obtain ⟨U, cap2, rfl⟩ : ∃ A c, u = .slice A xss.length c := by obtain ⟨A, b, o, cap, R, hu, _⟩ := h.rows.form; exact ⟨A, cap, hu⟩
  obtain ⟨N, cap3, rfl⟩ : ∃ A c, nv = .slice A ps.length c := by obtain ⟨A, c, hv, _⟩ := h.prs; exact ⟨A, c, hv⟩
  have BE := Lib.hid (below_al (Below.refl w.heap.size w) (.cells #[.slice A ss.length cap, .slice U xss.length cap2, .slice N ps.length cap3] 34))
  obtain ⟨c0, c1, c2, c3⟩ := three_cells (Blk.new w 34 #[.slice A ss.length cap, .slice U xss.length cap2, .slice N ps.length cap3])
  have H := Lib.hid h
  clear h
  by_cases hl0 : 1 ≤ ss.length
  · have l1 : decide ((ss.length : Int) < 1) = false := by simp; omega
    by_cases hl1 : ss.length ≤ 32
    · have l2 : decide ((32 : Int) < (ss.length : Int)) = false := by simp; omega
      have l3 : (ss.length : Int) ≤ 32 := by omega
      have hl := And.intro hl0 hl1
      by_cases hx : xss.length = ss.length
      · have dx : ((xss.length : Int) != (ss.length : Int)) = false := by simp [hx]
        by_cases hn : ps.length = ss.length
        · have dn : ((ps.length : Int) != (ss.length : Int)) = false := by simp [hn]
          obtain ⟨b, o, cap', d, q, cap2', g, p, cap3', F, e1, e2, e3, hS, hX, hP⟩ := cells (H.out.below (below_al BE.out (.cells #[.int .i64 (R : Int), .int .i64 (C : Int)] 86))) hl.1 hx hn
          injection e1 with e1 f1 g1
          injection e2 with e2 f2 g2
          injection e3 with e3 f3 g3
          subst e1; subst e2; subst e3; subst g1; subst g2; subst g3
          clear f2 f3
          try clear f1
          have HL := Lib.hid hl
          have HX := Lib.hid hx
          have HN0 := Lib.hid hn
          have XS := Lib.hid hS
          have XX := Lib.hid hX
          have XP := Lib.hid hP
          have BE2 := Lib.hid (fun (n : Nat) => below_drewN (below_al BE.out (.cells #[.int .i64 (R : Int), .int .i64 (C : Int)] 86)) n)
          have KT : Hid (Blk ((w.alloc (.cells #[.slice (some ⟨b, o, none⟩) ss.length cap, .slice (some ⟨d, q, none⟩) xss.length cap2, .slice (some ⟨g, p, none⟩) ps.length cap3] 34)).alloc (.cells #[.int .i64 (R : Int), .int .i64 (C : Int)] 86)) w.heap.size 34 #[.slice (some ⟨b, o, none⟩) ss.length cap, .slice (some ⟨d, q, none⟩) xss.length cap2, .slice (some ⟨g, p, none⟩) ps.length cap3] ∧ Blk ((w.alloc (.cells #[.slice (some ⟨b, o, none⟩) ss.length cap, .slice (some ⟨d, q, none⟩) xss.length cap2, .slice (some ⟨g, p, none⟩) ps.length cap3] 34)).alloc (.cells #[.int .i64 (R : Int), .int .i64 (C : Int)] 86)) (w.heap.size + 1) 86 #[.int .i64 (R : Int), .int .i64 (C : Int)]) := Lib.hid ⟨(Blk.new _ _ _).alloc _, by have := Blk.new (w.alloc (.cells #[.slice (some ⟨b, o, none⟩) ss.length cap, .slice (some ⟨d, q, none⟩) xss.length cap2, .slice (some ⟨g, p, none⟩) ps.length cap3] 34)) 86 #[.int .i64 (R : Int), .int .i64 (C : Int)]; simpa using this⟩
          clear hl hl0 hl1 hx hn hS hX hP H
          go_enter Try.func63, Try.ntmps63
          go_wp2_with fail
          clear c0 c1 c2 c3
          obtain ⟨c0, c1, c2, c3⟩ := three_cells KT.out.1
          obtain ⟨t0, t1, t2⟩ := two_cells KT.out.2
          go_loopw [6, 9, 10, 12, 42] (fun r z9 z10 z12 s wr => ∃ k : Nat, k ≤ ss.length ∧ s = .int .i64 k ∧ r = .bool false ∧ (∃ z, z9 = z) ∧ (∃ z, z10 = z) ∧ (∃ z, z12 = z) ∧ Hid (∀ j (h : j < ss.length), j < k → okStep ss.length R C ss[j] (xss.getD j []) (ps.getD j (0, 0)) j) ∧ ∃ n, wr = ((w.alloc (.cells #[.slice (some ⟨b, o, none⟩) ss.length cap, .slice (some ⟨d, q, none⟩) xss.length cap2, .slice (some ⟨g, p, none⟩) ps.length cap3] 34)).alloc (.cells #[.int .i64 (R : Int), .int .i64 (C : Int)] 86)).drewN n) (fun _ _ _ _ s _ => ss.length - (intOf s).toNat)
          case atStart => exact ⟨0, Nat.zero_le _, rfl, rfl, ⟨_, rfl⟩, ⟨_, rfl⟩, ⟨_, rfl⟩, fun j _ hj => by omega, 0, rfl⟩
          case round =>
            obtain ⟨k, hk, rfl, rfl, ⟨z9, rfl⟩, ⟨z10, rfl⟩, ⟨z12, rfl⟩, hH, n, rfl⟩ := hrel
            by_cases hlt : k < ss.length
            · have hkz : (k : Int) < (ss.length : Int) := by omega
              have hkx : (k : Int) < (xss.length : Int) := by have := HX.out; omega
              have hkp : (k : Int) < (ps.length : Int) := by have := HN0.out; omega
              have s0 := XS.out k hlt
              obtain ⟨x0, x1⟩ := XX.out k hlt
              obtain ⟨p0, p1⟩ := XP.out k hlt
              have HB := Lib.hid (fun (n q : Nat) => play.impl_bits _ (xss.getD k []) n _ (x1.below (below_drewN (Below.refl _ _) q)))
              have HG : Hid (¬ okStep ss.length R C ss[k] (xss.getD k []) (ps.getD k (0, 0)) k → ¬ okTalk ss xss ps R C) := Lib.hid (fun h h2 => h (h2.step k hlt))
              have HST : Hid (okStep ss.length R C ss[k] (xss.getD k []) (ps.getD k (0, 0)) k → ∀ j (h : j < ss.length), j < k + 1 → okStep ss.length R C ss[j] (xss.getD j []) (ps.getD j (0, 0)) j) := Lib.hid (fun h j hj hj' => by
                by_cases e : j = k
                · subst e; exact h
                · exact hH.out j hj (by omega))
              obtain ⟨sp, hsp⟩ : ∃ z, ss[k] = z := ⟨_, rfl⟩
              obtain ⟨pa, hpa⟩ : ∃ z, (ps.getD k (0, 0)).1 = z := ⟨_, rfl⟩
              obtain ⟨pb, hpb⟩ : ∃ z, (ps.getD k (0, 0)).2 = z := ⟨_, rfl⟩
              rw [hsp] at s0 HG HST
              rw [hpa] at p0
              rw [hpb] at p1
              have HPA := Lib.hid hpa
              have HPB := Lib.hid hpb
              generalize ps.getD k (0, 0) = pp at *
              generalize xss.getD k [] = row at *
              obtain ⟨Fk, hFk⟩ : ∃ z, F k = z := ⟨_, rfl⟩
              rw [hFk] at x0 x1 HB
              obtain ⟨ra, rn, rc, rfl⟩ := x1.shape
              clear x1 hH hsp hpa hpb hFk
              by_cases h0 : sp = 0 ∨ sp = 1
              · rcases h0 with rfl | rfl
                · have hsd : Hid (side R C 0 = R) := Lib.hid (by simp [side])
                  have HB := Lib.hid (HB.out R)
                  by_cases hw : within R 0 1 row
                  · rw [withinB_yes hw] at HB
                    have HW := Lib.hid hw
                    clear hw
                    go_wp2_with fail
                    go_quiet (first | (go_at_call 81; go_must (exact ints.quiet_at_same (bit_yes 0 _ (by omega)))) | (go_at_call 58; go_must (exact ints.quiet_at_same (HB.out _))))
                    go_wp2_with fail
                    go_loopw [6, 12, 67] (fun r z12 s wr => ∃ j : Nat, j ≤ 2 ∧ s = .int .i64 j ∧ r = .bool false ∧ (∃ z, z12 = z) ∧ Hid (0 < j → okNext ss.length k pa) ∧ Hid (1 < j → okNext ss.length k pb) ∧ ∃ n, wr = ((w.alloc (.cells #[.slice (some ⟨b, o, none⟩) ss.length cap, .slice (some ⟨d, q, none⟩) xss.length cap2, .slice (some ⟨g, p, none⟩) ps.length cap3] 34)).alloc (.cells #[.int .i64 (R : Int), .int .i64 (C : Int)] 86)).drewN n) (fun _ _ s _ => 2 - (intOf s).toNat)
                    case atStart => exact ⟨0, by omega, rfl, rfl, ⟨_, rfl⟩, fun h => absurd h (by omega), fun h => absurd h (by omega), by first | exact ⟨_, rfl⟩ | exact ⟨_, World.drewN_drewN _ _ _⟩⟩
                    case round =>
                      obtain ⟨j, hj, rfl, rfl, ⟨z12, rfl⟩, h1, h2, n, rfl⟩ := hrel
                      rcases (by omega : j = 0 ∨ j = 1 ∨ j = 2) with rfl | rfl | rfl
                      · have ixx := ix0 pa pb
                        have iyy := iy0 pa pb
                        by_cases hA : pa = -1
                        · have d1 : (pa != -1) = false := by simp [hA]
                          have HNX : Hid (okNext ss.length k pa) := Lib.hid (by rw [hA]; exact ⟨by omega, by have := HL.out.1; omega, fun h => absurd h (by omega)⟩)
                          clear hA
                          go_wp2_with fail
                          refine (end0 _).mono ?_
                          rintro e w' ⟨rfl, rfl⟩
                          go_wp2_with fail
                          go_roundw
                          case rel => exact ⟨1, by omega, by go_num, rfl, ⟨_, rfl⟩, fun _ => HNX.out, fun h => absurd h (by omega), _, rfl⟩
                          case measure => simp [intOf]
                        · have d1 : (pa != -1) = true := by simp [hA]
                          by_cases hB : pa = -2
                          · have d2 : (pa != -2) = false := by simp [hB]
                            have HNX : Hid (okNext ss.length k pa) := Lib.hid (by rw [hB]; exact ⟨by omega, by have := HL.out.1; omega, fun h => absurd h (by omega)⟩)
                            clear hA hB
                            go_wp2_with fail
                            refine (end0 _).mono ?_
                            rintro e w' ⟨rfl, rfl⟩
                            go_wp2_with fail
                            refine (end1 _).mono ?_
                            rintro e w' ⟨rfl, rfl⟩
                            go_wp2_with fail
                            go_roundw
                            case rel => exact ⟨1, by omega, by go_num, rfl, ⟨_, rfl⟩, fun _ => HNX.out, fun h => absurd h (by omega), _, rfl⟩
                            case measure => simp [intOf]
                          · have d2 : (pa != -2) = true := by simp [hB]
                            by_cases hlk : pa ≤ (k : Int)
                            · have dk : decide (pa ≤ (k : Int)) = true := by simp [hlk]
                              have HN := Lib.hid (HG.out (fun h => by have h5 := h.one; rw [HPA.out] at h5; have := h5.1; have := h5.2.2; omega))
                              clear hA hB hlk
                              go_wp2_with fail
                              refine (end0 _).mono ?_
                              rintro e w' ⟨rfl, rfl⟩
                              go_wp2_with fail
                              refine (end1 _).mono ?_
                              rintro e w' ⟨rfl, rfl⟩
                              go_wp2_with fail
                              go_ret
                              exact ⟨ret_b (talkB_no HN.out).symm, BE2.out _⟩
                            · have dk : decide (pa ≤ (k : Int)) = false := by simp; omega
                              by_cases hgl : (ss.length : Int) ≤ pa
                              · have dg : decide ((ss.length : Int) ≤ pa) = true := by simp [hgl]
                                have HN := Lib.hid (HG.out (fun h => by have h5 := h.one; rw [HPA.out] at h5; have := h5.2.1; omega))
                                clear hA hB hlk hgl
                                go_wp2_with fail
                                refine (end0 _).mono ?_
                                rintro e w' ⟨rfl, rfl⟩
                                go_wp2_with fail
                                refine (end1 _).mono ?_
                                rintro e w' ⟨rfl, rfl⟩
                                go_wp2_with fail
                                go_ret
                                exact ⟨ret_b (talkB_no HN.out).symm, BE2.out _⟩
                              · have dg : decide ((ss.length : Int) ≤ pa) = false := by simp; omega
                                have HNX : Hid (okNext ss.length k pa) := Lib.hid ⟨by omega, by omega, fun _ => by omega⟩
                                clear hA hB hlk hgl
                                go_wp2_with fail
                                refine (end0 _).mono ?_
                                rintro e w' ⟨rfl, rfl⟩
                                go_wp2_with fail
                                refine (end1 _).mono ?_
                                rintro e w' ⟨rfl, rfl⟩
                                go_wp2_with fail
                                go_roundw
                                case rel => exact ⟨1, by omega, by go_num, rfl, ⟨_, rfl⟩, fun _ => HNX.out, fun h => absurd h (by omega), _, rfl⟩
                                case measure => simp [intOf]
                      · have ixx := ix1 pa pb
                        have iyy := iy1 pa pb
                        by_cases hA : pb = -1
                        · have d1 : (pb != -1) = false := by simp [hA]
                          have HNX : Hid (okNext ss.length k pb) := Lib.hid (by rw [hA]; exact ⟨by omega, by have := HL.out.1; omega, fun h => absurd h (by omega)⟩)
                          clear hA
                          go_wp2_with fail
                          refine (end0 _).mono ?_
                          rintro e w' ⟨rfl, rfl⟩
                          go_wp2_with fail
                          go_roundw
                          case rel => exact ⟨2, by omega, by go_num, rfl, ⟨_, rfl⟩, fun _ => h1.out (by omega), fun _ => HNX.out, _, rfl⟩
                          case measure => simp [intOf]
                        · have d1 : (pb != -1) = true := by simp [hA]
                          by_cases hB : pb = -2
                          · have d2 : (pb != -2) = false := by simp [hB]
                            have HNX : Hid (okNext ss.length k pb) := Lib.hid (by rw [hB]; exact ⟨by omega, by have := HL.out.1; omega, fun h => absurd h (by omega)⟩)
                            clear hA hB
                            go_wp2_with fail
                            refine (end0 _).mono ?_
                            rintro e w' ⟨rfl, rfl⟩
                            go_wp2_with fail
                            refine (end1 _).mono ?_
                            rintro e w' ⟨rfl, rfl⟩
                            go_wp2_with fail
                            go_roundw
                            case rel => exact ⟨2, by omega, by go_num, rfl, ⟨_, rfl⟩, fun _ => h1.out (by omega), fun _ => HNX.out, _, rfl⟩
                            case measure => simp [intOf]
                          · have d2 : (pb != -2) = true := by simp [hB]
                            by_cases hlk : pb ≤ (k : Int)
                            · have dk : decide (pb ≤ (k : Int)) = true := by simp [hlk]
                              have HN := Lib.hid (HG.out (fun h => by have h5 := h.two; rw [HPB.out] at h5; have := h5.1; have := h5.2.2; omega))
                              clear hA hB hlk
                              go_wp2_with fail
                              refine (end0 _).mono ?_
                              rintro e w' ⟨rfl, rfl⟩
                              go_wp2_with fail
                              refine (end1 _).mono ?_
                              rintro e w' ⟨rfl, rfl⟩
                              go_wp2_with fail
                              go_ret
                              exact ⟨ret_b (talkB_no HN.out).symm, BE2.out _⟩
                            · have dk : decide (pb ≤ (k : Int)) = false := by simp; omega
                              by_cases hgl : (ss.length : Int) ≤ pb
                              · have dg : decide ((ss.length : Int) ≤ pb) = true := by simp [hgl]
                                have HN := Lib.hid (HG.out (fun h => by have h5 := h.two; rw [HPB.out] at h5; have := h5.2.1; omega))
                                clear hA hB hlk hgl
                                go_wp2_with fail
                                refine (end0 _).mono ?_
                                rintro e w' ⟨rfl, rfl⟩
                                go_wp2_with fail
                                refine (end1 _).mono ?_
                                rintro e w' ⟨rfl, rfl⟩
                                go_wp2_with fail
                                go_ret
                                exact ⟨ret_b (talkB_no HN.out).symm, BE2.out _⟩
                              · have dg : decide ((ss.length : Int) ≤ pb) = false := by simp; omega
                                have HNX : Hid (okNext ss.length k pb) := Lib.hid ⟨by omega, by omega, fun _ => by omega⟩
                                clear hA hB hlk hgl
                                go_wp2_with fail
                                refine (end0 _).mono ?_
                                rintro e w' ⟨rfl, rfl⟩
                                go_wp2_with fail
                                refine (end1 _).mono ?_
                                rintro e w' ⟨rfl, rfl⟩
                                go_wp2_with fail
                                go_roundw
                                case rel => exact ⟨2, by omega, by go_num, rfl, ⟨_, rfl⟩, fun _ => h1.out (by omega), fun _ => HNX.out, _, rfl⟩
                                case measure => simp [intOf]
                      · have HO := Lib.hid (HST.out ⟨.inl rfl, by rw [hsd.out]; exact HW.out, by rw [HPA.out]; exact h1.out (by omega), by rw [HPB.out]; exact h2.out (by omega)⟩)
                        go_wp2_with fail
                        go_roundw
                        case rel => exact ⟨k + 1, by omega, by go_num, rfl, ⟨_, rfl⟩, ⟨_, rfl⟩, ⟨_, rfl⟩, HO.out, _, rfl⟩
                        case measure => simp [intOf]; omega
                  · rw [withinB_no hw] at HB
                    have HN := Lib.hid (HG.out (fun h => hw (by have h5 := h.row; rw [hsd.out] at h5; exact h5)))
                    clear hw
                    go_wp2_with fail
                    go_quiet (first | (go_at_call 81; go_must (exact ints.quiet_at_same (bit_yes 0 _ (by omega)))) | (go_at_call 58; go_must (exact ints.quiet_at_same (HB.out _))))
                    go_wp2_with fail
                    go_ret
                    exact ⟨ret_b (talkB_no HN.out).symm, by first | exact BE2.out _ | exact below_drewN (BE2.out _) _⟩
                · have hsd : Hid (side R C 1 = C) := Lib.hid (by simp [side])
                  have HB := Lib.hid (HB.out C)
                  by_cases hw : within C 0 1 row
                  · rw [withinB_yes hw] at HB
                    have HW := Lib.hid hw
                    clear hw
                    go_wp2_with fail
                    go_quiet (first | (go_at_call 81; go_must (exact ints.quiet_at_same (bit_yes 1 _ (by omega)))) | (go_at_call 58; go_must (exact ints.quiet_at_same (HB.out _))))
                    go_wp2_with fail
                    go_loopw [6, 12, 67] (fun r z12 s wr => ∃ j : Nat, j ≤ 2 ∧ s = .int .i64 j ∧ r = .bool false ∧ (∃ z, z12 = z) ∧ Hid (0 < j → okNext ss.length k pa) ∧ Hid (1 < j → okNext ss.length k pb) ∧ ∃ n, wr = ((w.alloc (.cells #[.slice (some ⟨b, o, none⟩) ss.length cap, .slice (some ⟨d, q, none⟩) xss.length cap2, .slice (some ⟨g, p, none⟩) ps.length cap3] 34)).alloc (.cells #[.int .i64 (R : Int), .int .i64 (C : Int)] 86)).drewN n) (fun _ _ s _ => 2 - (intOf s).toNat)
                    case atStart => exact ⟨0, by omega, rfl, rfl, ⟨_, rfl⟩, fun h => absurd h (by omega), fun h => absurd h (by omega), by first | exact ⟨_, rfl⟩ | exact ⟨_, World.drewN_drewN _ _ _⟩⟩
                    case round =>
                      obtain ⟨j, hj, rfl, rfl, ⟨z12, rfl⟩, h1, h2, n, rfl⟩ := hrel
                      rcases (by omega : j = 0 ∨ j = 1 ∨ j = 2) with rfl | rfl | rfl
                      · have ixx := ix0 pa pb
                        have iyy := iy0 pa pb
                        by_cases hA : pa = -1
                        · have d1 : (pa != -1) = false := by simp [hA]
                          have HNX : Hid (okNext ss.length k pa) := Lib.hid (by rw [hA]; exact ⟨by omega, by have := HL.out.1; omega, fun h => absurd h (by omega)⟩)
                          clear hA
                          go_wp2_with fail
                          refine (end0 _).mono ?_
                          rintro e w' ⟨rfl, rfl⟩
                          go_wp2_with fail
                          go_roundw
                          case rel => exact ⟨1, by omega, by go_num, rfl, ⟨_, rfl⟩, fun _ => HNX.out, fun h => absurd h (by omega), _, rfl⟩
                          case measure => simp [intOf]
                        · have d1 : (pa != -1) = true := by simp [hA]
                          by_cases hB : pa = -2
                          · have d2 : (pa != -2) = false := by simp [hB]
                            have HNX : Hid (okNext ss.length k pa) := Lib.hid (by rw [hB]; exact ⟨by omega, by have := HL.out.1; omega, fun h => absurd h (by omega)⟩)
                            clear hA hB
                            go_wp2_with fail
                            refine (end0 _).mono ?_
                            rintro e w' ⟨rfl, rfl⟩
                            go_wp2_with fail
                            refine (end1 _).mono ?_
                            rintro e w' ⟨rfl, rfl⟩
                            go_wp2_with fail
                            go_roundw
                            case rel => exact ⟨1, by omega, by go_num, rfl, ⟨_, rfl⟩, fun _ => HNX.out, fun h => absurd h (by omega), _, rfl⟩
                            case measure => simp [intOf]
                          · have d2 : (pa != -2) = true := by simp [hB]
                            by_cases hlk : pa ≤ (k : Int)
                            · have dk : decide (pa ≤ (k : Int)) = true := by simp [hlk]
                              have HN := Lib.hid (HG.out (fun h => by have h5 := h.one; rw [HPA.out] at h5; have := h5.1; have := h5.2.2; omega))
                              clear hA hB hlk
                              go_wp2_with fail
                              refine (end0 _).mono ?_
                              rintro e w' ⟨rfl, rfl⟩
                              go_wp2_with fail
                              refine (end1 _).mono ?_
                              rintro e w' ⟨rfl, rfl⟩
                              go_wp2_with fail
                              go_ret
                              exact ⟨ret_b (talkB_no HN.out).symm, BE2.out _⟩
                            · have dk : decide (pa ≤ (k : Int)) = false := by simp; omega
                              by_cases hgl : (ss.length : Int) ≤ pa
                              · have dg : decide ((ss.length : Int) ≤ pa) = true := by simp [hgl]
                                have HN := Lib.hid (HG.out (fun h => by have h5 := h.one; rw [HPA.out] at h5; have := h5.2.1; omega))
                                clear hA hB hlk hgl
                                go_wp2_with fail
                                refine (end0 _).mono ?_
                                rintro e w' ⟨rfl, rfl⟩
                                go_wp2_with fail
                                refine (end1 _).mono ?_
                                rintro e w' ⟨rfl, rfl⟩
                                go_wp2_with fail
                                go_ret
                                exact ⟨ret_b (talkB_no HN.out).symm, BE2.out _⟩
                              · have dg : decide ((ss.length : Int) ≤ pa) = false := by simp; omega
                                have HNX : Hid (okNext ss.length k pa) := Lib.hid ⟨by omega, by omega, fun _ => by omega⟩
                                clear hA hB hlk hgl
                                go_wp2_with fail
                                refine (end0 _).mono ?_
                                rintro e w' ⟨rfl, rfl⟩
                                go_wp2_with fail
                                refine (end1 _).mono ?_
                                rintro e w' ⟨rfl, rfl⟩
                                go_wp2_with fail
                                go_roundw
                                case rel => exact ⟨1, by omega, by go_num, rfl, ⟨_, rfl⟩, fun _ => HNX.out, fun h => absurd h (by omega), _, rfl⟩
                                case measure => simp [intOf]
                      · have ixx := ix1 pa pb
                        have iyy := iy1 pa pb
                        by_cases hA : pb = -1
                        · have d1 : (pb != -1) = false := by simp [hA]
                          have HNX : Hid (okNext ss.length k pb) := Lib.hid (by rw [hA]; exact ⟨by omega, by have := HL.out.1; omega, fun h => absurd h (by omega)⟩)
                          clear hA
                          go_wp2_with fail
                          refine (end0 _).mono ?_
                          rintro e w' ⟨rfl, rfl⟩
                          go_wp2_with fail
                          go_roundw
                          case rel => exact ⟨2, by omega, by go_num, rfl, ⟨_, rfl⟩, fun _ => h1.out (by omega), fun _ => HNX.out, _, rfl⟩
                          case measure => simp [intOf]
                        · have d1 : (pb != -1) = true := by simp [hA]
                          by_cases hB : pb = -2
                          · have d2 : (pb != -2) = false := by simp [hB]
                            have HNX : Hid (okNext ss.length k pb) := Lib.hid (by rw [hB]; exact ⟨by omega, by have := HL.out.1; omega, fun h => absurd h (by omega)⟩)
                            clear hA hB
                            go_wp2_with fail
                            refine (end0 _).mono ?_
                            rintro e w' ⟨rfl, rfl⟩
                            go_wp2_with fail
                            refine (end1 _).mono ?_
                            rintro e w' ⟨rfl, rfl⟩
                            go_wp2_with fail
                            go_roundw
                            case rel => exact ⟨2, by omega, by go_num, rfl, ⟨_, rfl⟩, fun _ => h1.out (by omega), fun _ => HNX.out, _, rfl⟩
                            case measure => simp [intOf]
                          · have d2 : (pb != -2) = true := by simp [hB]
                            by_cases hlk : pb ≤ (k : Int)
                            · have dk : decide (pb ≤ (k : Int)) = true := by simp [hlk]
                              have HN := Lib.hid (HG.out (fun h => by have h5 := h.two; rw [HPB.out] at h5; have := h5.1; have := h5.2.2; omega))
                              clear hA hB hlk
                              go_wp2_with fail
                              refine (end0 _).mono ?_
                              rintro e w' ⟨rfl, rfl⟩
                              go_wp2_with fail
                              refine (end1 _).mono ?_
                              rintro e w' ⟨rfl, rfl⟩
                              go_wp2_with fail
                              go_ret
                              exact ⟨ret_b (talkB_no HN.out).symm, BE2.out _⟩
                            · have dk : decide (pb ≤ (k : Int)) = false := by simp; omega
                              by_cases hgl : (ss.length : Int) ≤ pb
                              · have dg : decide ((ss.length : Int) ≤ pb) = true := by simp [hgl]
                                have HN := Lib.hid (HG.out (fun h => by have h5 := h.two; rw [HPB.out] at h5; have := h5.2.1; omega))
                                clear hA hB hlk hgl
                                go_wp2_with fail
                                refine (end0 _).mono ?_
                                rintro e w' ⟨rfl, rfl⟩
                                go_wp2_with fail
                                refine (end1 _).mono ?_
                                rintro e w' ⟨rfl, rfl⟩
                                go_wp2_with fail
                                go_ret
                                exact ⟨ret_b (talkB_no HN.out).symm, BE2.out _⟩
                              · have dg : decide ((ss.length : Int) ≤ pb) = false := by simp; omega
                                have HNX : Hid (okNext ss.length k pb) := Lib.hid ⟨by omega, by omega, fun _ => by omega⟩
                                clear hA hB hlk hgl
                                go_wp2_with fail
                                refine (end0 _).mono ?_
                                rintro e w' ⟨rfl, rfl⟩
                                go_wp2_with fail
                                refine (end1 _).mono ?_
                                rintro e w' ⟨rfl, rfl⟩
                                go_wp2_with fail
                                go_roundw
                                case rel => exact ⟨2, by omega, by go_num, rfl, ⟨_, rfl⟩, fun _ => h1.out (by omega), fun _ => HNX.out, _, rfl⟩
                                case measure => simp [intOf]
                      · have HO := Lib.hid (HST.out ⟨.inr rfl, by rw [hsd.out]; exact HW.out, by rw [HPA.out]; exact h1.out (by omega), by rw [HPB.out]; exact h2.out (by omega)⟩)
                        go_wp2_with fail
                        go_roundw
                        case rel => exact ⟨k + 1, by omega, by go_num, rfl, ⟨_, rfl⟩, ⟨_, rfl⟩, ⟨_, rfl⟩, HO.out, _, rfl⟩
                        case measure => simp [intOf]; omega
                  · rw [withinB_no hw] at HB
                    have HN := Lib.hid (HG.out (fun h => hw (by have h5 := h.row; rw [hsd.out] at h5; exact h5)))
                    clear hw
                    go_wp2_with fail
                    go_quiet (first | (go_at_call 81; go_must (exact ints.quiet_at_same (bit_yes 1 _ (by omega)))) | (go_at_call 58; go_must (exact ints.quiet_at_same (HB.out _))))
                    go_wp2_with fail
                    go_ret
                    exact ⟨ret_b (talkB_no HN.out).symm, by first | exact BE2.out _ | exact below_drewN (BE2.out _) _⟩
              · have HN := Lib.hid (HG.out (fun h => h0 h.spk))
                have HB0 := Lib.hid h0
                clear h0
                go_wp2_with fail
                go_quiet ((go_at_call 81; go_must (exact ints.quiet_at_same (bit_no sp _ HB0.out))))
                go_wp2_with fail
                go_ret
                exact ⟨ret_b (talkB_no HN.out).symm, by first | exact BE2.out _ | exact below_drewN (BE2.out _) _⟩
            · have hkz : ¬ (k : Int) < (ss.length : Int) := by omega
              have HO : Hid (okTalk ss xss ps R C) := Lib.hid ⟨HL.out.1, HL.out.2, HX.out, HN0.out, fun j hj => hH.out j hj (by omega)⟩
              go_wp2_with fail
              go_ret
              exact ⟨ret_b (talkB_yes HO.out).symm, BE2.out _⟩
        · have dn : ((ps.length : Int) != (ss.length : Int)) = true := by simp; omega
          have HN : Hid (¬ okTalk ss xss ps R C) := Lib.hid (fun h => hn h.next)
          clear hl hl0 hl1 hx hn H
          go_enter Try.func63, Try.ntmps63
          go_wp2_with fail
          go_ret
          exact ⟨ret_b (talkB_no HN.out).symm, BE.out⟩
      · have dx : ((xss.length : Int) != (ss.length : Int)) = true := by simp; omega
        have HN : Hid (¬ okTalk ss xss ps R C) := Lib.hid (fun h => hx h.says)
        clear hl hl0 hl1 hx H
        go_enter Try.func63, Try.ntmps63
        go_wp2_with fail
        go_ret
        exact ⟨ret_b (talkB_no HN.out).symm, BE.out⟩
    · have l2 : decide ((32 : Int) < (ss.length : Int)) = true := by simp; omega
      have HN : Hid (¬ okTalk ss xss ps R C) := Lib.hid (fun h => hl1 h.le)
      clear hl0 hl1 H
      go_enter Try.func63, Try.ntmps63
      go_wp2_with fail
      go_ret
      exact ⟨ret_b (talkB_no HN.out).symm, BE.out⟩
  · have l1 : decide ((ss.length : Int) < 1) = true := by simp; omega
    have HN : Hid (¬ okTalk ss xss ps R C) := Lib.hid (fun h => hl0 h.ge)
    clear hl0 H
    go_enter Try.func63, Try.ntmps63
    go_wp2_with fail
    go_ret
    exact ⟨ret_b (talkB_no HN.out).symm, BE.out⟩


end Go.Proofs.Ytggodllfaggjiaa.tki
