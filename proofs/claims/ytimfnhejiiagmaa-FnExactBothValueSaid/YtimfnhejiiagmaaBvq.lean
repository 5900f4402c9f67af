/- BothValue of the model. -/
import Derived.Test.YtimfnhejiiagmaaBvr
import Derived.Test.YtimfnhejiiagmaaGval
import Derived.Test.YtimfnhejiiagmaaApp
namespace Go.Proofs.Ytimfnhejiiagmaa.bvq
open Go.RowKit Go.Deep Go.Proofs.Ytimfnhejiiagmaa.base
open Go.Proofs.Ytimfnhejiiagmaa.ints (ret_int infoInt)
open Go.Proofs.Ytimfnhejiiagmaa.rws (total)
open Go.Proofs.Ytimfnhejiiagmaa.gval (okGame gameB gameB_yes gameB_no)
open Go.Proofs.Ytimfnhejiiagmaa.bvm Go.Proofs.Ytimfnhejiiagmaa.bvs Go.Proofs.Ytimfnhejiiagmaa.bvr

theorem and3 : ∀ m : Fin 256, bits .and .i64 ((m.val : Nat) : Int) 3 = ((m.val % 4 : Nat) : Int) := by decide +kernel
theorem dig (k i : Nat) (hk : k < 256) : bits .and .i64 ((k : Int) / 2 ^ (2 * i)) 3 = ((k / 2 ^ (2 * i) % 4 : Nat) : Int) := by
  have e : ((k : Int) / 2 ^ (2 * i)) = ((k / 2 ^ (2 * i) : Nat) : Int) := by simp
  have hl : k / 2 ^ (2 * i) < 256 := Nat.lt_of_le_of_lt (Nat.div_le_self _ _) hk
  rw [e, and3 ⟨_, hl⟩]

set_option maxRecDepth 100000 in
set_option maxHeartbeats 8000000 in
theorem spec_any (x y x' y' : Int) (v : Value) (ws : List Int) (u : Value) (xss : List (List Int)) (v' : Value) (vs : List Int) (u' : Value) (yss : List (List Int)) (w : World)
    (h : game.GV w v ws u xss) (h' : game.GV w v' vs u' yss) (hn : ws.length ≤ 1048576) (hm : total xss ≤ 1048576) (hn' : vs.length ≤ 1048576) (hm' : total yss ≤ 1048576) :
    Calls Try.prog 30 #[.agg #[.int .i64 x, .int .i64 y, v, u], .agg #[.int .i64 x', .int .i64 y', v', u']] w
      fun e w' => e = .returned (.tuple #[.int .i64 (res x y x' y' ws xss vs yss).1, .bool (res x y x' y' ws xss vs yss).2]) ∧ Below w.heap.size w w' := by
  have H1 := Lib.hid h
  have H2 := Lib.hid h'
  obtain ⟨i0, hi, hz0, hz1, hz2⟩ := info_parts infoInt
  obtain ⟨va, vn, vc, ua, un, uc, rfl, rfl⟩ := h.shape
  obtain ⟨va', vn', vc', ua', un', uc', rfl, rfl⟩ := h'.shape
  have F0 := Lib.hid (Gg.start w #[.int .i64 x, .int .i64 y, .slice va vn vc, .slice ua un uc] #[.int .i64 x', .int .i64 y', .slice va' vn' vc', .slice ua' un' uc'])
  have HC1 := Lib.hid (fun W (hW : Below w.heap.size w W) => gval.spec_any x y _ ws _ xss W (h.below hW) hn hm)
  have HC2 := Lib.hid (fun W (hW : Below w.heap.size w W) => gval.spec_any x' y' _ vs _ yss W (h'.below hW) hn' hm')
  obtain ⟨c0, c1, c2, c3, c4⟩ := four_cells F0.out.one
  obtain ⟨d0, d1, d2, d3, d4⟩ := four_cells F0.out.two
  clear h h'
  by_cases ok1 : okGame x y ws xss
  · rw [gameB_yes ok1] at HC1
    by_cases ok2 : okGame x' y' vs yss
    · rw [gameB_yes ok2] at HC2
      by_cases l1 : x ≤ 2
      · by_cases l2 : y ≤ 2
        · by_cases l3 : x' ≤ 2
          · by_cases l4 : y' ≤ 2
            · have hok : okTwo x y x' y' ws xss vs yss := ⟨ok1, ok2, l1, l2, l3, l4⟩
              rw [res_yes hok]
              obtain ⟨X1, rfl⟩ : ∃ X : Nat, x = X := ⟨x.toNat, by have := ok1.1.1; omega⟩
              obtain ⟨Y1, rfl⟩ : ∃ X : Nat, y = X := ⟨y.toNat, by have := ok1.1.2; omega⟩
              obtain ⟨X2, rfl⟩ : ∃ X : Nat, x' = X := ⟨x'.toNat, by have := ok2.1.1; omega⟩
              obtain ⟨Y2, rfl⟩ : ∃ X : Nat, y' = X := ⟨y'.toNat, by have := ok2.1.2; omega⟩
              simp only [Int.toNat_natCast]
              have hXX : X1 * X2 ≤ 4 := mul4 (by omega) (by omega)
              have hYY : Y1 * Y2 ≤ 4 := mul4 (by omega) (by omega)
              rw [same X1 Y1 X2 Y2 ws xss vs yss hXX]
              obtain ⟨N, hN⟩ : ∃ N : Nat, X1 * X2 = N := ⟨_, rfl⟩
              obtain ⟨c, hc⟩ : ∃ c : Nat, 2 ^ (2 * N) = c := ⟨_, rfl⟩
              have HC256 : Hid (c ≤ 256) := Lib.hid (by rw [← hc]; exact pow256 (by omega))
              have HYY := Lib.hid hYY
              obtain ⟨P, hP⟩ : ∃ P : Nat → Nat → Int, (fun k q => bvm.best X1 Y1 X2 Y2 ws xss vs yss (cA k) (cC k) q 4) = P := ⟨_, rfl⟩
              have HPB : Hid (∀ k n, n ≤ 4 → 0 ≤ worth.cum (P k) n ∧ worth.cum (P k) n ≤ 156816) := Lib.hid (fun k n hn4 => by subst hP; exact tot_bd X1 Y1 X2 Y2 ws xss vs yss ok1 ok2 hXX (cA k) (cC k) n hn4)
              obtain ⟨G, hG⟩ : ∃ G : Nat → Int, cod X1 Y1 X2 Y2 ws xss vs yss = G := ⟨_, rfl⟩
              have HGP : Hid (∀ k, G k = worth.cum (P k) (Y1 * Y2)) := Lib.hid (fun k => by subst hP hG; rfl)
              have HRE : Hid (∀ (k a b : Nat) (W : World) (fv : Value), Below w.heap.size w W → Ints W fv (dg N k) → a < Y1 → b < Y2 → Calls Try.prog 87 #[.agg #[.int .i64 (X1 : Int), .int .i64 (Y1 : Int), .slice va vn vc, .slice ua un uc], .agg #[.int .i64 (X2 : Int), .int .i64 (Y2 : Int), .slice va' vn' vc', .slice ua' un' uc'], fv, .int .i64 (a : Int), .int .i64 (b : Int)] W fun e w' => e = .returned (.int .i64 (P k (a * Y2 + b))) ∧ Below W.heap.size W w') := Lib.hid (fun k a b W fv hW hf ha hb => by
                subst hP
                rw [← hN] at hf
                exact replies X1 Y1 X2 Y2 _ ws _ xss _ vs _ yss fv k a b W (H1.out.below hW) (H2.out.below hW) hf hok ha hb)
              rw [hN, hc, hG]
              have hNi : (N : Int) = ((X1 * X2 : Nat) : Int) := by omega
              have HCS : Hid (((X1 : Int) = 1 ∧ (X2 : Int) = 1 ∧ (N : Int) = 1 ∧ (c : Int) = 4) ∨ ((X1 : Int) = 1 ∧ (X2 : Int) = 2 ∧ (N : Int) = 2 ∧ (c : Int) = 16) ∨ ((X1 : Int) = 2 ∧ (X2 : Int) = 1 ∧ (N : Int) = 2 ∧ (c : Int) = 16) ∨ ((X1 : Int) = 2 ∧ (X2 : Int) = 2 ∧ (N : Int) = 4 ∧ (c : Int) = 256)) := Lib.hid (by
                have h1 : X1 = 1 ∨ X1 = 2 := by have := ok1.1.1; omega
                have h2 : X2 = 1 ∨ X2 = 2 := by have := ok2.1.1; omega
                rcases h1 with rfl | rfl <;> rcases h2 with rfl | rfl <;> simp at hN <;> subst hN <;> simp at hc <;> subst hc <;> simp)
              have hN4 : (N : Int) ≤ 4 := by omega
              have g2 : decide (2 < (Y1 : Int)) = false := by simp; omega
              have g4 : decide (2 < (Y2 : Int)) = false := by simp; omega
              have hN4' : N ≤ 4 := by omega
              clear hN hNi hc hG hP ok1 ok2 hok hXX hYY l1 l3 H1 H2 c0 c1 c2 c3 c4 d0 d1 d2 d3 d4
              obtain ⟨x1, hx1⟩ : ∃ x1 : Int, (X1 : Int) = x1 := ⟨_, rfl⟩
              obtain ⟨x2, hx2⟩ : ∃ x2 : Int, (X2 : Int) = x2 := ⟨_, rfl⟩
              rw [hx1] at F0 HC1 HRE HCS ⊢
              rw [hx2] at F0 HC2 HRE HCS ⊢
              clear hx1 hx2
              obtain ⟨c0, c1, c2, c3, c4⟩ := four_cells F0.out.one
              obtain ⟨d0, d1, d2, d3, d4⟩ := four_cells F0.out.two
              have HCS := HCS.out
              rcases HCS with ⟨rfl, rfl, hnn, hcc⟩ | ⟨rfl, rfl, hnn, hcc⟩ | ⟨rfl, rfl, hnn, hcc⟩ | ⟨rfl, rfl, hnn, hcc⟩
              · skip
                go_enter Try.func30, Try.ntmps30
                go_wp2_with fail
                refine (HC1.out _ F0.out.below).mono ?_
                rintro e w1 ⟨rfl, hb⟩
                have F1 := Lib.hid (F0.out.keep hb)
                clear hb F0 HC1 c0 c1 c2 c3 c4 d0 d1 d2 d3 d4
                obtain ⟨d0, d1, d2, d3, d4⟩ := four_cells F1.out.two
                go_wp2_with fail
                refine (HC2.out _ F1.out.below).mono ?_
                rintro e w2 ⟨rfl, hb⟩
                have F2 := Lib.hid (F1.out.keep hb)
                clear hb F1 HC2 d0 d1 d2 d3 d4
                obtain ⟨c0, c1, c2, c3, c4⟩ := four_cells F2.out.one
                obtain ⟨d0, d1, d2, d3, d4⟩ := four_cells F2.out.two
                go_wp2_with fail
                clear c0 c1 c2 c3 c4 d0 d1 d2 d3 d4
                go_loopw [6, 7, 8, 9, 10, 11, 12] (fun s j z8 z9 z10 z11 z12 wr => ∃ k : Nat, ∃ t : Int, k ≤ c ∧ j = .int .i64 (k : Nat) ∧ s = .int .i64 t ∧ 0 ≤ t ∧ t ≤ 156816 ∧ (∃ z, z8 = z) ∧ (∃ z, z9 = z) ∧ (∃ z, z10 = z) ∧ (∃ z, z11 = z) ∧ (∃ z, z12 = z) ∧ Hid (t = mx G k) ∧ Hid (Gg w wr #[.int .i64 1, .int .i64 (Y1 : Int), .slice va vn vc, .slice ua un uc] #[.int .i64 1, .int .i64 (Y2 : Int), .slice va' vn' vc', .slice ua' un' uc'])) (fun _ j _ _ _ _ _ _ => c - (intOf j).toNat)
                case atStart => exact ⟨0, 0, Nat.zero_le _, rfl, rfl, by omega, by omega, ⟨_, rfl⟩, ⟨_, rfl⟩, ⟨_, rfl⟩, ⟨_, rfl⟩, ⟨_, rfl⟩, Lib.hid rfl, F2⟩
                case round =>
                  clear F2
                  obtain ⟨k, t, hk, rfl, rfl, ht0, ht1, ⟨z8, rfl⟩, ⟨z9, rfl⟩, ⟨z10, rfl⟩, ⟨z11, rfl⟩, ⟨z12, rfl⟩, hT, HFO⟩ := hrel
                  obtain ⟨wo, rfl⟩ : ∃ wi : World, wi = wr := ⟨_, rfl⟩
                  obtain ⟨c0, c1, c2, c3, c4⟩ := four_cells HFO.out.one
                  obtain ⟨d0, d1, d2, d3, d4⟩ := four_cells HFO.out.two
                  by_cases hlt : k < c
                  · have hkz : (k : Int) < 4 := by omega
                    have HLT := Lib.hid hlt
                    have o1 := below_al (Below.refl wo.heap.size wo) (.cells #[] 3)
                    have O3 : Hid ((wo.alloc (.cells #[] 3)).ownsRow wo.heap.size 3 1 (.slice (some ⟨wo.heap.size, 0, none⟩) 0 0) 0 (i64s (dg 0 k))) := Lib.hid (by
                      have := World.ownsRow_made (base := wo.heap.size) (e := 3) (size := 1) wo #[] 0 (Nat.le_refl _) (Nat.zero_le _) rfl
                      simpa [i64s, dg] using this)
                    have BW := Lib.hid o1
                    clear o1
                    go_wp2_with fail
                    clear c0 c1 c2 c3 c4 d0 d1 d2 d3 d4
                    go_loopw [8, 9] (fun v8 j wr => ∃ i : Nat, i ≤ N ∧ j = .int .i64 (i : Nat) ∧ Hid (wr.ownsRow wo.heap.size 3 1 v8 i (i64s (dg i k))) ∧ Hid (Below wo.heap.size wo wr)) (fun _ j _ => N - (intOf j).toNat)
                    case atStart => exact ⟨0, Nat.zero_le _, rfl, O3, BW⟩
                    case round =>
                      clear O3 BW
                      obtain ⟨i, hi', rfl, hO, hB⟩ := hrel
                      obtain ⟨wi, rfl⟩ : ∃ wi : World, wi = wr := ⟨_, rfl⟩
                      obtain ⟨c0, c1, c2, c3, c4⟩ := four_cells (HFO.out.keep hB.out).one
                      obtain ⟨d0, d1, d2, d3, d4⟩ := four_cells (HFO.out.keep hB.out).two
                      by_cases hli : i < N
                      · have hiz : (i : Int) < 1 := by omega
                        obtain ⟨yy, hy⟩ : ∃ yy, ((k / 2 ^ (2 * i) % 4 : Nat) : Int) = yy := ⟨_, rfl⟩
                        have hx : bits .and .i64 ((k : Int) / 2 ^ (2 * i)) 3 = yy := (dig k i (by have := HC256.out; omega)).trans hy
                        have HDS : Hid (dg (i + 1) k = dg i k ++ [yy]) := Lib.hid (by rw [← hy]; exact dg_succ i k)
                        have hwi : IntKind.i64.wrap (2 * (i : Int)) = 2 * (i : Int) := IntWalk.i64_in _ (by omega)
                        have h2i : (0 : Int) ≤ 2 * (i : Int) := by omega
                        have i4 : i ≤ 4 := by omega
                        have hsz := hB.out.size
                        clear hy
                        go_wp2_with (at_builtin; go_must (refine wpList_append_own _ rfl (.tmp 62) (.tmp 68) 34 rfl (wo.heap.size) 3 i0 (.int .i64 0) 1 8 Try.underlying34 hi hz0 hz1 hz2 rfl (by decide) _ _ _ rfl (hO.out.alloc _) ⟨wi.heap.size, 0, none⟩ 1 1 [.int .i64 yy] rfl rfl ?c1 ?c2 ?c3 ?c4 ?c5 ?_))
                        try (case c1 => first | exact app.one_at _ _ _ | (intro q u hq; have h5 := app.one_at wi (.int .i64 yy) 3 q u hq; simpa using h5))
                        case c2 => first | rfl | (intro u hu; simp at hu; subst hu; rfl)
                        case c3 => unfold maxLen; omega
                        case c4 => omega
                        try (case c5 => first | omega | (simp; omega))
                        intro v9 w9 hown hgrow _
                        have B9 := Lib.hid ((below_al hB.out _).grown hgrow (by simp; omega) (fun j hj => by have := (hO.out.lt j hj).1; omega))
                        have O9 := Lib.hid hown
                        rw [app.i64s_snoc] at O9
                        clear hown hgrow
                        clear hO hB c0 c1 c2 c3 c4 d0 d1 d2 d3 d4 hwi h2i
                        go_wp2_with fail
                        go_roundw
                        case rel => exact ⟨i + 1, by omega, by go_num, Lib.hid (by rw [HDS.out]; exact O9.out), B9⟩
                        case measure => simp [intOf]; omega
                      · have hiz : ¬ (i : Int) < 1 := by omega
                        obtain rfl : i = N := by omega
                        have HIN : Hid (Ints wi u8 (dg i k)) := Lib.hid (app.ints_of_owns hO.out).ints
                        obtain ⟨fa, fn, fc, rfl⟩ := HIN.out.shape
                        clear hO
                        go_wp2_with fail
                        clear c0 c1 c2 c3 c4 d0 d1 d2 d3 d4
                        go_loopw [10, 11, 12] (fun s j z12 wr => ∃ a : Nat, ∃ m : Int, a ≤ Y1 ∧ j = .int .i64 (a : Nat) ∧ s = .int .i64 m ∧ 0 ≤ m ∧ m ≤ 156816 ∧ (∃ z, z12 = z) ∧ Hid (m = worth.cum (P k) (a * Y2)) ∧ Hid (Below wi.heap.size wi wr)) (fun _ j _ _ => Y1 - (intOf j).toNat)
                        case atStart => exact ⟨0, 0, Nat.zero_le _, rfl, rfl, by omega, by omega, ⟨_, rfl⟩, Lib.hid (by rw [Nat.zero_mul]; rfl), Below.refl _ _⟩
                        case round =>
                          obtain ⟨a, m, ha, rfl, rfl, hm0, hm1, ⟨z12, rfl⟩, hM, hB2⟩ := hrel
                          obtain ⟨wa, rfl⟩ : ∃ wi : World, wi = wr := ⟨_, rfl⟩
                          have HFA := Lib.hid (HFO.out.keep (below_tr hB.out hB2.out))
                          obtain ⟨c0, c1, c2, c3, c4⟩ := four_cells HFA.out.one
                          obtain ⟨d0, d1, d2, d3, d4⟩ := four_cells HFA.out.two
                          by_cases hla : a < Y1
                          · have hka : (a : Int) < (Y1 : Int) := by omega
                            have HLA := Lib.hid hla
                            go_wp2_with fail
                            clear c0 c1 c2 c3 c4 d0 d1 d2 d3 d4
                            go_loopw [10, 12] (fun s j wr => ∃ b : Nat, ∃ m : Int, b ≤ Y2 ∧ j = .int .i64 (b : Nat) ∧ s = .int .i64 m ∧ 0 ≤ m ∧ m ≤ 156816 ∧ Hid (m = worth.cum (P k) (a * Y2 + b)) ∧ Hid (Below wi.heap.size wi wr)) (fun _ j _ => Y2 - (intOf j).toNat)
                            case atStart => exact ⟨0, m, Nat.zero_le _, rfl, rfl, hm0, hm1, hM, hB2⟩
                            case round =>
                              clear hM hm0 hm1 hB2 HFA
                              obtain ⟨b, m, hb, rfl, rfl, hm0, hm1, hM, hB2⟩ := hrel
                              obtain ⟨wb, rfl⟩ : ∃ wi : World, wi = wr := ⟨_, rfl⟩
                              have HFA := Lib.hid (HFO.out.keep (below_tr hB.out hB2.out))
                              obtain ⟨c0, c1, c2, c3, c4⟩ := four_cells HFA.out.one
                              obtain ⟨d0, d1, d2, d3, d4⟩ := four_cells HFA.out.two
                              by_cases hlb : b < Y2
                              · have hkb : (b : Int) < (Y2 : Int) := by omega
                                have HLB := Lib.hid hlb
                                have HCA := Lib.hid (HRE.out k a b wb _ HFA.out.below (HIN.out.below hB2.out) HLA.out hlb)
                                have hbb := HPB.out k (a * Y2 + (b + 1)) (by
                                  have g1 : a * Y2 + b < (a + 1) * Y2 := by rw [Nat.add_mul]; omega
                                  have g2 : (a + 1) * Y2 ≤ Y1 * Y2 := Nat.mul_le_mul_right _ (by have := HLA.out; omega)
                                  have := HYY.out
                                  omega)
                                obtain ⟨pz, hpz⟩ : ∃ pz, P k (a * Y2 + b) = pz := ⟨_, rfl⟩
                                have HS : Hid (m + pz = worth.cum (P k) (a * Y2 + (b + 1))) := Lib.hid (by rw [hM.out, ← hpz]; rfl)
                                rw [← HS.out] at hbb
                                rw [hpz] at HCA
                                have hwm : IntKind.i64.wrap (m + pz) = m + pz := IntWalk.i64_in _ (by omega)
                                clear hpz
                                go_wp2_with fail
                                refine HCA.out.mono ?_
                                rintro e w5 ⟨rfl, hb5⟩
                                have B5 := Lib.hid (below_tr hB2.out hb5)
                                clear hb5 c0 c1 c2 c3 c4 d0 d1 d2 d3 d4 HFA HCA hB2
                                go_wp2_with fail
                                go_roundw
                                case rel => exact ⟨b + 1, m + pz, by have := HLB.out; omega, by go_num, rfl, by omega, by omega, HS, B5⟩
                                case measure => have := HLB.out; simp [intOf]; omega
                              · have hkb : ¬ (b : Int) < (Y2 : Int) := by omega
                                obtain rfl : b = Y2 := by omega
                                have HM2 : Hid (m = worth.cum (P k) ((a + 1) * b)) := Lib.hid (by rw [Nat.add_mul, Nat.one_mul]; exact hM.out)
                                go_wp2_with fail
                                go_roundw
                                case rel => exact ⟨a + 1, m, by have := HLA.out; omega, by go_num, rfl, by omega, by omega, ⟨_, rfl⟩, HM2, hB2⟩
                                case measure => have := HLA.out; simp [intOf]; omega
                          · have hka : ¬ (a : Int) < (Y1 : Int) := by omega
                            obtain rfl : a = Y1 := by omega
                            have HGM : Hid (G k = m) := Lib.hid (by rw [HGP.out, hM.out])
                            by_cases hmx : t < m
                            · have HN := Lib.hid (mx_yes hT.out HGM.out hmx)
                              have HIF : Hid ((if t < m then m else t) = m) := Lib.hid (if_pos hmx)
                              go_wp2_with fail
                              refine (lmm.most_any t m _).mono ?_
                              rintro e w' ⟨rfl, rfl⟩
                              rw [HIF.out]
                              clear c0 c1 c2 c3 c4 d0 d1 d2 d3 d4
                              go_wp2_with fail
                              go_roundw
                              case rel => exact ⟨k + 1, m, by have := HLT.out; omega, by go_num, rfl, by omega, by omega, ⟨_, rfl⟩, ⟨_, rfl⟩, ⟨_, rfl⟩, ⟨_, rfl⟩, ⟨_, rfl⟩, HN, HFA⟩
                              case measure => have := HLT.out; simp [intOf]; omega
                            · have HN := Lib.hid (mx_no hT.out HGM.out hmx)
                              have HIF : Hid ((if t < m then m else t) = t) := Lib.hid (if_neg hmx)
                              go_wp2_with fail
                              refine (lmm.most_any t m _).mono ?_
                              rintro e w' ⟨rfl, rfl⟩
                              rw [HIF.out]
                              clear c0 c1 c2 c3 c4 d0 d1 d2 d3 d4
                              go_wp2_with fail
                              go_roundw
                              case rel => exact ⟨k + 1, t, by have := HLT.out; omega, by go_num, rfl, by omega, by omega, ⟨_, rfl⟩, ⟨_, rfl⟩, ⟨_, rfl⟩, ⟨_, rfl⟩, ⟨_, rfl⟩, HN, HFA⟩
                              case measure => have := HLT.out; simp [intOf]; omega
                  · have hkz : ¬ (k : Int) < 4 := by omega
                    obtain rfl : k = c := by omega
                    go_wp2_with fail
                    go_ret2
                    exact ⟨by rw [hT.out]; rfl, HFO.out.below⟩
              · skip
                go_enter Try.func30, Try.ntmps30
                go_wp2_with fail
                refine (HC1.out _ F0.out.below).mono ?_
                rintro e w1 ⟨rfl, hb⟩
                have F1 := Lib.hid (F0.out.keep hb)
                clear hb F0 HC1 c0 c1 c2 c3 c4 d0 d1 d2 d3 d4
                obtain ⟨d0, d1, d2, d3, d4⟩ := four_cells F1.out.two
                go_wp2_with fail
                refine (HC2.out _ F1.out.below).mono ?_
                rintro e w2 ⟨rfl, hb⟩
                have F2 := Lib.hid (F1.out.keep hb)
                clear hb F1 HC2 d0 d1 d2 d3 d4
                obtain ⟨c0, c1, c2, c3, c4⟩ := four_cells F2.out.one
                obtain ⟨d0, d1, d2, d3, d4⟩ := four_cells F2.out.two
                go_wp2_with fail
                clear c0 c1 c2 c3 c4 d0 d1 d2 d3 d4
                go_loopw [6, 7, 8, 9, 10, 11, 12] (fun s j z8 z9 z10 z11 z12 wr => ∃ k : Nat, ∃ t : Int, k ≤ c ∧ j = .int .i64 (k : Nat) ∧ s = .int .i64 t ∧ 0 ≤ t ∧ t ≤ 156816 ∧ (∃ z, z8 = z) ∧ (∃ z, z9 = z) ∧ (∃ z, z10 = z) ∧ (∃ z, z11 = z) ∧ (∃ z, z12 = z) ∧ Hid (t = mx G k) ∧ Hid (Gg w wr #[.int .i64 1, .int .i64 (Y1 : Int), .slice va vn vc, .slice ua un uc] #[.int .i64 2, .int .i64 (Y2 : Int), .slice va' vn' vc', .slice ua' un' uc'])) (fun _ j _ _ _ _ _ _ => c - (intOf j).toNat)
                case atStart => exact ⟨0, 0, Nat.zero_le _, rfl, rfl, by omega, by omega, ⟨_, rfl⟩, ⟨_, rfl⟩, ⟨_, rfl⟩, ⟨_, rfl⟩, ⟨_, rfl⟩, Lib.hid rfl, F2⟩
                case round =>
                  clear F2
                  obtain ⟨k, t, hk, rfl, rfl, ht0, ht1, ⟨z8, rfl⟩, ⟨z9, rfl⟩, ⟨z10, rfl⟩, ⟨z11, rfl⟩, ⟨z12, rfl⟩, hT, HFO⟩ := hrel
                  obtain ⟨wo, rfl⟩ : ∃ wi : World, wi = wr := ⟨_, rfl⟩
                  obtain ⟨c0, c1, c2, c3, c4⟩ := four_cells HFO.out.one
                  obtain ⟨d0, d1, d2, d3, d4⟩ := four_cells HFO.out.two
                  by_cases hlt : k < c
                  · have hkz : (k : Int) < 16 := by omega
                    have HLT := Lib.hid hlt
                    have o1 := below_al (Below.refl wo.heap.size wo) (.cells #[] 3)
                    have O3 : Hid ((wo.alloc (.cells #[] 3)).ownsRow wo.heap.size 3 1 (.slice (some ⟨wo.heap.size, 0, none⟩) 0 0) 0 (i64s (dg 0 k))) := Lib.hid (by
                      have := World.ownsRow_made (base := wo.heap.size) (e := 3) (size := 1) wo #[] 0 (Nat.le_refl _) (Nat.zero_le _) rfl
                      simpa [i64s, dg] using this)
                    have BW := Lib.hid o1
                    clear o1
                    go_wp2_with fail
                    clear c0 c1 c2 c3 c4 d0 d1 d2 d3 d4
                    go_loopw [8, 9] (fun v8 j wr => ∃ i : Nat, i ≤ N ∧ j = .int .i64 (i : Nat) ∧ Hid (wr.ownsRow wo.heap.size 3 1 v8 i (i64s (dg i k))) ∧ Hid (Below wo.heap.size wo wr)) (fun _ j _ => N - (intOf j).toNat)
                    case atStart => exact ⟨0, Nat.zero_le _, rfl, O3, BW⟩
                    case round =>
                      clear O3 BW
                      obtain ⟨i, hi', rfl, hO, hB⟩ := hrel
                      obtain ⟨wi, rfl⟩ : ∃ wi : World, wi = wr := ⟨_, rfl⟩
                      obtain ⟨c0, c1, c2, c3, c4⟩ := four_cells (HFO.out.keep hB.out).one
                      obtain ⟨d0, d1, d2, d3, d4⟩ := four_cells (HFO.out.keep hB.out).two
                      by_cases hli : i < N
                      · have hiz : (i : Int) < 2 := by omega
                        obtain ⟨yy, hy⟩ : ∃ yy, ((k / 2 ^ (2 * i) % 4 : Nat) : Int) = yy := ⟨_, rfl⟩
                        have hx : bits .and .i64 ((k : Int) / 2 ^ (2 * i)) 3 = yy := (dig k i (by have := HC256.out; omega)).trans hy
                        have HDS : Hid (dg (i + 1) k = dg i k ++ [yy]) := Lib.hid (by rw [← hy]; exact dg_succ i k)
                        have hwi : IntKind.i64.wrap (2 * (i : Int)) = 2 * (i : Int) := IntWalk.i64_in _ (by omega)
                        have h2i : (0 : Int) ≤ 2 * (i : Int) := by omega
                        have i4 : i ≤ 4 := by omega
                        have hsz := hB.out.size
                        clear hy
                        go_wp2_with (at_builtin; go_must (refine wpList_append_own _ rfl (.tmp 62) (.tmp 68) 34 rfl (wo.heap.size) 3 i0 (.int .i64 0) 1 8 Try.underlying34 hi hz0 hz1 hz2 rfl (by decide) _ _ _ rfl (hO.out.alloc _) ⟨wi.heap.size, 0, none⟩ 1 1 [.int .i64 yy] rfl rfl ?c1 ?c2 ?c3 ?c4 ?c5 ?_))
                        try (case c1 => first | exact app.one_at _ _ _ | (intro q u hq; have h5 := app.one_at wi (.int .i64 yy) 3 q u hq; simpa using h5))
                        case c2 => first | rfl | (intro u hu; simp at hu; subst hu; rfl)
                        case c3 => unfold maxLen; omega
                        case c4 => omega
                        try (case c5 => first | omega | (simp; omega))
                        intro v9 w9 hown hgrow _
                        have B9 := Lib.hid ((below_al hB.out _).grown hgrow (by simp; omega) (fun j hj => by have := (hO.out.lt j hj).1; omega))
                        have O9 := Lib.hid hown
                        rw [app.i64s_snoc] at O9
                        clear hown hgrow
                        clear hO hB c0 c1 c2 c3 c4 d0 d1 d2 d3 d4 hwi h2i
                        go_wp2_with fail
                        go_roundw
                        case rel => exact ⟨i + 1, by omega, by go_num, Lib.hid (by rw [HDS.out]; exact O9.out), B9⟩
                        case measure => simp [intOf]; omega
                      · have hiz : ¬ (i : Int) < 2 := by omega
                        obtain rfl : i = N := by omega
                        have HIN : Hid (Ints wi u8 (dg i k)) := Lib.hid (app.ints_of_owns hO.out).ints
                        obtain ⟨fa, fn, fc, rfl⟩ := HIN.out.shape
                        clear hO
                        go_wp2_with fail
                        clear c0 c1 c2 c3 c4 d0 d1 d2 d3 d4
                        go_loopw [10, 11, 12] (fun s j z12 wr => ∃ a : Nat, ∃ m : Int, a ≤ Y1 ∧ j = .int .i64 (a : Nat) ∧ s = .int .i64 m ∧ 0 ≤ m ∧ m ≤ 156816 ∧ (∃ z, z12 = z) ∧ Hid (m = worth.cum (P k) (a * Y2)) ∧ Hid (Below wi.heap.size wi wr)) (fun _ j _ _ => Y1 - (intOf j).toNat)
                        case atStart => exact ⟨0, 0, Nat.zero_le _, rfl, rfl, by omega, by omega, ⟨_, rfl⟩, Lib.hid (by rw [Nat.zero_mul]; rfl), Below.refl _ _⟩
                        case round =>
                          obtain ⟨a, m, ha, rfl, rfl, hm0, hm1, ⟨z12, rfl⟩, hM, hB2⟩ := hrel
                          obtain ⟨wa, rfl⟩ : ∃ wi : World, wi = wr := ⟨_, rfl⟩
                          have HFA := Lib.hid (HFO.out.keep (below_tr hB.out hB2.out))
                          obtain ⟨c0, c1, c2, c3, c4⟩ := four_cells HFA.out.one
                          obtain ⟨d0, d1, d2, d3, d4⟩ := four_cells HFA.out.two
                          by_cases hla : a < Y1
                          · have hka : (a : Int) < (Y1 : Int) := by omega
                            have HLA := Lib.hid hla
                            go_wp2_with fail
                            clear c0 c1 c2 c3 c4 d0 d1 d2 d3 d4
                            go_loopw [10, 12] (fun s j wr => ∃ b : Nat, ∃ m : Int, b ≤ Y2 ∧ j = .int .i64 (b : Nat) ∧ s = .int .i64 m ∧ 0 ≤ m ∧ m ≤ 156816 ∧ Hid (m = worth.cum (P k) (a * Y2 + b)) ∧ Hid (Below wi.heap.size wi wr)) (fun _ j _ => Y2 - (intOf j).toNat)
                            case atStart => exact ⟨0, m, Nat.zero_le _, rfl, rfl, hm0, hm1, hM, hB2⟩
                            case round =>
                              clear hM hm0 hm1 hB2 HFA
                              obtain ⟨b, m, hb, rfl, rfl, hm0, hm1, hM, hB2⟩ := hrel
                              obtain ⟨wb, rfl⟩ : ∃ wi : World, wi = wr := ⟨_, rfl⟩
                              have HFA := Lib.hid (HFO.out.keep (below_tr hB.out hB2.out))
                              obtain ⟨c0, c1, c2, c3, c4⟩ := four_cells HFA.out.one
                              obtain ⟨d0, d1, d2, d3, d4⟩ := four_cells HFA.out.two
                              by_cases hlb : b < Y2
                              · have hkb : (b : Int) < (Y2 : Int) := by omega
                                have HLB := Lib.hid hlb
                                have HCA := Lib.hid (HRE.out k a b wb _ HFA.out.below (HIN.out.below hB2.out) HLA.out hlb)
                                have hbb := HPB.out k (a * Y2 + (b + 1)) (by
                                  have g1 : a * Y2 + b < (a + 1) * Y2 := by rw [Nat.add_mul]; omega
                                  have g2 : (a + 1) * Y2 ≤ Y1 * Y2 := Nat.mul_le_mul_right _ (by have := HLA.out; omega)
                                  have := HYY.out
                                  omega)
                                obtain ⟨pz, hpz⟩ : ∃ pz, P k (a * Y2 + b) = pz := ⟨_, rfl⟩
                                have HS : Hid (m + pz = worth.cum (P k) (a * Y2 + (b + 1))) := Lib.hid (by rw [hM.out, ← hpz]; rfl)
                                rw [← HS.out] at hbb
                                rw [hpz] at HCA
                                have hwm : IntKind.i64.wrap (m + pz) = m + pz := IntWalk.i64_in _ (by omega)
                                clear hpz
                                go_wp2_with fail
                                refine HCA.out.mono ?_
                                rintro e w5 ⟨rfl, hb5⟩
                                have B5 := Lib.hid (below_tr hB2.out hb5)
                                clear hb5 c0 c1 c2 c3 c4 d0 d1 d2 d3 d4 HFA HCA hB2
                                go_wp2_with fail
                                go_roundw
                                case rel => exact ⟨b + 1, m + pz, by have := HLB.out; omega, by go_num, rfl, by omega, by omega, HS, B5⟩
                                case measure => have := HLB.out; simp [intOf]; omega
                              · have hkb : ¬ (b : Int) < (Y2 : Int) := by omega
                                obtain rfl : b = Y2 := by omega
                                have HM2 : Hid (m = worth.cum (P k) ((a + 1) * b)) := Lib.hid (by rw [Nat.add_mul, Nat.one_mul]; exact hM.out)
                                go_wp2_with fail
                                go_roundw
                                case rel => exact ⟨a + 1, m, by have := HLA.out; omega, by go_num, rfl, by omega, by omega, ⟨_, rfl⟩, HM2, hB2⟩
                                case measure => have := HLA.out; simp [intOf]; omega
                          · have hka : ¬ (a : Int) < (Y1 : Int) := by omega
                            obtain rfl : a = Y1 := by omega
                            have HGM : Hid (G k = m) := Lib.hid (by rw [HGP.out, hM.out])
                            by_cases hmx : t < m
                            · have HN := Lib.hid (mx_yes hT.out HGM.out hmx)
                              have HIF : Hid ((if t < m then m else t) = m) := Lib.hid (if_pos hmx)
                              go_wp2_with fail
                              refine (lmm.most_any t m _).mono ?_
                              rintro e w' ⟨rfl, rfl⟩
                              rw [HIF.out]
                              clear c0 c1 c2 c3 c4 d0 d1 d2 d3 d4
                              go_wp2_with fail
                              go_roundw
                              case rel => exact ⟨k + 1, m, by have := HLT.out; omega, by go_num, rfl, by omega, by omega, ⟨_, rfl⟩, ⟨_, rfl⟩, ⟨_, rfl⟩, ⟨_, rfl⟩, ⟨_, rfl⟩, HN, HFA⟩
                              case measure => have := HLT.out; simp [intOf]; omega
                            · have HN := Lib.hid (mx_no hT.out HGM.out hmx)
                              have HIF : Hid ((if t < m then m else t) = t) := Lib.hid (if_neg hmx)
                              go_wp2_with fail
                              refine (lmm.most_any t m _).mono ?_
                              rintro e w' ⟨rfl, rfl⟩
                              rw [HIF.out]
                              clear c0 c1 c2 c3 c4 d0 d1 d2 d3 d4
                              go_wp2_with fail
                              go_roundw
                              case rel => exact ⟨k + 1, t, by have := HLT.out; omega, by go_num, rfl, by omega, by omega, ⟨_, rfl⟩, ⟨_, rfl⟩, ⟨_, rfl⟩, ⟨_, rfl⟩, ⟨_, rfl⟩, HN, HFA⟩
                              case measure => have := HLT.out; simp [intOf]; omega
                  · have hkz : ¬ (k : Int) < 16 := by omega
                    obtain rfl : k = c := by omega
                    go_wp2_with fail
                    go_ret2
                    exact ⟨by rw [hT.out]; rfl, HFO.out.below⟩
              · skip
                go_enter Try.func30, Try.ntmps30
                go_wp2_with fail
                refine (HC1.out _ F0.out.below).mono ?_
                rintro e w1 ⟨rfl, hb⟩
                have F1 := Lib.hid (F0.out.keep hb)
                clear hb F0 HC1 c0 c1 c2 c3 c4 d0 d1 d2 d3 d4
                obtain ⟨d0, d1, d2, d3, d4⟩ := four_cells F1.out.two
                go_wp2_with fail
                refine (HC2.out _ F1.out.below).mono ?_
                rintro e w2 ⟨rfl, hb⟩
                have F2 := Lib.hid (F1.out.keep hb)
                clear hb F1 HC2 d0 d1 d2 d3 d4
                obtain ⟨c0, c1, c2, c3, c4⟩ := four_cells F2.out.one
                obtain ⟨d0, d1, d2, d3, d4⟩ := four_cells F2.out.two
                go_wp2_with fail
                clear c0 c1 c2 c3 c4 d0 d1 d2 d3 d4
                go_loopw [6, 7, 8, 9, 10, 11, 12] (fun s j z8 z9 z10 z11 z12 wr => ∃ k : Nat, ∃ t : Int, k ≤ c ∧ j = .int .i64 (k : Nat) ∧ s = .int .i64 t ∧ 0 ≤ t ∧ t ≤ 156816 ∧ (∃ z, z8 = z) ∧ (∃ z, z9 = z) ∧ (∃ z, z10 = z) ∧ (∃ z, z11 = z) ∧ (∃ z, z12 = z) ∧ Hid (t = mx G k) ∧ Hid (Gg w wr #[.int .i64 2, .int .i64 (Y1 : Int), .slice va vn vc, .slice ua un uc] #[.int .i64 1, .int .i64 (Y2 : Int), .slice va' vn' vc', .slice ua' un' uc'])) (fun _ j _ _ _ _ _ _ => c - (intOf j).toNat)
                case atStart => exact ⟨0, 0, Nat.zero_le _, rfl, rfl, by omega, by omega, ⟨_, rfl⟩, ⟨_, rfl⟩, ⟨_, rfl⟩, ⟨_, rfl⟩, ⟨_, rfl⟩, Lib.hid rfl, F2⟩
                case round =>
                  clear F2
                  obtain ⟨k, t, hk, rfl, rfl, ht0, ht1, ⟨z8, rfl⟩, ⟨z9, rfl⟩, ⟨z10, rfl⟩, ⟨z11, rfl⟩, ⟨z12, rfl⟩, hT, HFO⟩ := hrel
                  obtain ⟨wo, rfl⟩ : ∃ wi : World, wi = wr := ⟨_, rfl⟩
                  obtain ⟨c0, c1, c2, c3, c4⟩ := four_cells HFO.out.one
                  obtain ⟨d0, d1, d2, d3, d4⟩ := four_cells HFO.out.two
                  by_cases hlt : k < c
                  · have hkz : (k : Int) < 16 := by omega
                    have HLT := Lib.hid hlt
                    have o1 := below_al (Below.refl wo.heap.size wo) (.cells #[] 3)
                    have O3 : Hid ((wo.alloc (.cells #[] 3)).ownsRow wo.heap.size 3 1 (.slice (some ⟨wo.heap.size, 0, none⟩) 0 0) 0 (i64s (dg 0 k))) := Lib.hid (by
                      have := World.ownsRow_made (base := wo.heap.size) (e := 3) (size := 1) wo #[] 0 (Nat.le_refl _) (Nat.zero_le _) rfl
                      simpa [i64s, dg] using this)
                    have BW := Lib.hid o1
                    clear o1
                    go_wp2_with fail
                    clear c0 c1 c2 c3 c4 d0 d1 d2 d3 d4
                    go_loopw [8, 9] (fun v8 j wr => ∃ i : Nat, i ≤ N ∧ j = .int .i64 (i : Nat) ∧ Hid (wr.ownsRow wo.heap.size 3 1 v8 i (i64s (dg i k))) ∧ Hid (Below wo.heap.size wo wr)) (fun _ j _ => N - (intOf j).toNat)
                    case atStart => exact ⟨0, Nat.zero_le _, rfl, O3, BW⟩
                    case round =>
                      clear O3 BW
                      obtain ⟨i, hi', rfl, hO, hB⟩ := hrel
                      obtain ⟨wi, rfl⟩ : ∃ wi : World, wi = wr := ⟨_, rfl⟩
                      obtain ⟨c0, c1, c2, c3, c4⟩ := four_cells (HFO.out.keep hB.out).one
                      obtain ⟨d0, d1, d2, d3, d4⟩ := four_cells (HFO.out.keep hB.out).two
                      by_cases hli : i < N
                      · have hiz : (i : Int) < 2 := by omega
                        obtain ⟨yy, hy⟩ : ∃ yy, ((k / 2 ^ (2 * i) % 4 : Nat) : Int) = yy := ⟨_, rfl⟩
                        have hx : bits .and .i64 ((k : Int) / 2 ^ (2 * i)) 3 = yy := (dig k i (by have := HC256.out; omega)).trans hy
                        have HDS : Hid (dg (i + 1) k = dg i k ++ [yy]) := Lib.hid (by rw [← hy]; exact dg_succ i k)
                        have hwi : IntKind.i64.wrap (2 * (i : Int)) = 2 * (i : Int) := IntWalk.i64_in _ (by omega)
                        have h2i : (0 : Int) ≤ 2 * (i : Int) := by omega
                        have i4 : i ≤ 4 := by omega
                        have hsz := hB.out.size
                        clear hy
                        go_wp2_with (at_builtin; go_must (refine wpList_append_own _ rfl (.tmp 62) (.tmp 68) 34 rfl (wo.heap.size) 3 i0 (.int .i64 0) 1 8 Try.underlying34 hi hz0 hz1 hz2 rfl (by decide) _ _ _ rfl (hO.out.alloc _) ⟨wi.heap.size, 0, none⟩ 1 1 [.int .i64 yy] rfl rfl ?c1 ?c2 ?c3 ?c4 ?c5 ?_))
                        try (case c1 => first | exact app.one_at _ _ _ | (intro q u hq; have h5 := app.one_at wi (.int .i64 yy) 3 q u hq; simpa using h5))
                        case c2 => first | rfl | (intro u hu; simp at hu; subst hu; rfl)
                        case c3 => unfold maxLen; omega
                        case c4 => omega
                        try (case c5 => first | omega | (simp; omega))
                        intro v9 w9 hown hgrow _
                        have B9 := Lib.hid ((below_al hB.out _).grown hgrow (by simp; omega) (fun j hj => by have := (hO.out.lt j hj).1; omega))
                        have O9 := Lib.hid hown
                        rw [app.i64s_snoc] at O9
                        clear hown hgrow
                        clear hO hB c0 c1 c2 c3 c4 d0 d1 d2 d3 d4 hwi h2i
                        go_wp2_with fail
                        go_roundw
                        case rel => exact ⟨i + 1, by omega, by go_num, Lib.hid (by rw [HDS.out]; exact O9.out), B9⟩
                        case measure => simp [intOf]; omega
                      · have hiz : ¬ (i : Int) < 2 := by omega
                        obtain rfl : i = N := by omega
                        have HIN : Hid (Ints wi u8 (dg i k)) := Lib.hid (app.ints_of_owns hO.out).ints
                        obtain ⟨fa, fn, fc, rfl⟩ := HIN.out.shape
                        clear hO
                        go_wp2_with fail
                        clear c0 c1 c2 c3 c4 d0 d1 d2 d3 d4
                        go_loopw [10, 11, 12] (fun s j z12 wr => ∃ a : Nat, ∃ m : Int, a ≤ Y1 ∧ j = .int .i64 (a : Nat) ∧ s = .int .i64 m ∧ 0 ≤ m ∧ m ≤ 156816 ∧ (∃ z, z12 = z) ∧ Hid (m = worth.cum (P k) (a * Y2)) ∧ Hid (Below wi.heap.size wi wr)) (fun _ j _ _ => Y1 - (intOf j).toNat)
                        case atStart => exact ⟨0, 0, Nat.zero_le _, rfl, rfl, by omega, by omega, ⟨_, rfl⟩, Lib.hid (by rw [Nat.zero_mul]; rfl), Below.refl _ _⟩
                        case round =>
                          obtain ⟨a, m, ha, rfl, rfl, hm0, hm1, ⟨z12, rfl⟩, hM, hB2⟩ := hrel
                          obtain ⟨wa, rfl⟩ : ∃ wi : World, wi = wr := ⟨_, rfl⟩
                          have HFA := Lib.hid (HFO.out.keep (below_tr hB.out hB2.out))
                          obtain ⟨c0, c1, c2, c3, c4⟩ := four_cells HFA.out.one
                          obtain ⟨d0, d1, d2, d3, d4⟩ := four_cells HFA.out.two
                          by_cases hla : a < Y1
                          · have hka : (a : Int) < (Y1 : Int) := by omega
                            have HLA := Lib.hid hla
                            go_wp2_with fail
                            clear c0 c1 c2 c3 c4 d0 d1 d2 d3 d4
                            go_loopw [10, 12] (fun s j wr => ∃ b : Nat, ∃ m : Int, b ≤ Y2 ∧ j = .int .i64 (b : Nat) ∧ s = .int .i64 m ∧ 0 ≤ m ∧ m ≤ 156816 ∧ Hid (m = worth.cum (P k) (a * Y2 + b)) ∧ Hid (Below wi.heap.size wi wr)) (fun _ j _ => Y2 - (intOf j).toNat)
                            case atStart => exact ⟨0, m, Nat.zero_le _, rfl, rfl, hm0, hm1, hM, hB2⟩
                            case round =>
                              clear hM hm0 hm1 hB2 HFA
                              obtain ⟨b, m, hb, rfl, rfl, hm0, hm1, hM, hB2⟩ := hrel
                              obtain ⟨wb, rfl⟩ : ∃ wi : World, wi = wr := ⟨_, rfl⟩
                              have HFA := Lib.hid (HFO.out.keep (below_tr hB.out hB2.out))
                              obtain ⟨c0, c1, c2, c3, c4⟩ := four_cells HFA.out.one
                              obtain ⟨d0, d1, d2, d3, d4⟩ := four_cells HFA.out.two
                              by_cases hlb : b < Y2
                              · have hkb : (b : Int) < (Y2 : Int) := by omega
                                have HLB := Lib.hid hlb
                                have HCA := Lib.hid (HRE.out k a b wb _ HFA.out.below (HIN.out.below hB2.out) HLA.out hlb)
                                have hbb := HPB.out k (a * Y2 + (b + 1)) (by
                                  have g1 : a * Y2 + b < (a + 1) * Y2 := by rw [Nat.add_mul]; omega
                                  have g2 : (a + 1) * Y2 ≤ Y1 * Y2 := Nat.mul_le_mul_right _ (by have := HLA.out; omega)
                                  have := HYY.out
                                  omega)
                                obtain ⟨pz, hpz⟩ : ∃ pz, P k (a * Y2 + b) = pz := ⟨_, rfl⟩
                                have HS : Hid (m + pz = worth.cum (P k) (a * Y2 + (b + 1))) := Lib.hid (by rw [hM.out, ← hpz]; rfl)
                                rw [← HS.out] at hbb
                                rw [hpz] at HCA
                                have hwm : IntKind.i64.wrap (m + pz) = m + pz := IntWalk.i64_in _ (by omega)
                                clear hpz
                                go_wp2_with fail
                                refine HCA.out.mono ?_
                                rintro e w5 ⟨rfl, hb5⟩
                                have B5 := Lib.hid (below_tr hB2.out hb5)
                                clear hb5 c0 c1 c2 c3 c4 d0 d1 d2 d3 d4 HFA HCA hB2
                                go_wp2_with fail
                                go_roundw
                                case rel => exact ⟨b + 1, m + pz, by have := HLB.out; omega, by go_num, rfl, by omega, by omega, HS, B5⟩
                                case measure => have := HLB.out; simp [intOf]; omega
                              · have hkb : ¬ (b : Int) < (Y2 : Int) := by omega
                                obtain rfl : b = Y2 := by omega
                                have HM2 : Hid (m = worth.cum (P k) ((a + 1) * b)) := Lib.hid (by rw [Nat.add_mul, Nat.one_mul]; exact hM.out)
                                go_wp2_with fail
                                go_roundw
                                case rel => exact ⟨a + 1, m, by have := HLA.out; omega, by go_num, rfl, by omega, by omega, ⟨_, rfl⟩, HM2, hB2⟩
                                case measure => have := HLA.out; simp [intOf]; omega
                          · have hka : ¬ (a : Int) < (Y1 : Int) := by omega
                            obtain rfl : a = Y1 := by omega
                            have HGM : Hid (G k = m) := Lib.hid (by rw [HGP.out, hM.out])
                            by_cases hmx : t < m
                            · have HN := Lib.hid (mx_yes hT.out HGM.out hmx)
                              have HIF : Hid ((if t < m then m else t) = m) := Lib.hid (if_pos hmx)
                              go_wp2_with fail
                              refine (lmm.most_any t m _).mono ?_
                              rintro e w' ⟨rfl, rfl⟩
                              rw [HIF.out]
                              clear c0 c1 c2 c3 c4 d0 d1 d2 d3 d4
                              go_wp2_with fail
                              go_roundw
                              case rel => exact ⟨k + 1, m, by have := HLT.out; omega, by go_num, rfl, by omega, by omega, ⟨_, rfl⟩, ⟨_, rfl⟩, ⟨_, rfl⟩, ⟨_, rfl⟩, ⟨_, rfl⟩, HN, HFA⟩
                              case measure => have := HLT.out; simp [intOf]; omega
                            · have HN := Lib.hid (mx_no hT.out HGM.out hmx)
                              have HIF : Hid ((if t < m then m else t) = t) := Lib.hid (if_neg hmx)
                              go_wp2_with fail
                              refine (lmm.most_any t m _).mono ?_
                              rintro e w' ⟨rfl, rfl⟩
                              rw [HIF.out]
                              clear c0 c1 c2 c3 c4 d0 d1 d2 d3 d4
                              go_wp2_with fail
                              go_roundw
                              case rel => exact ⟨k + 1, t, by have := HLT.out; omega, by go_num, rfl, by omega, by omega, ⟨_, rfl⟩, ⟨_, rfl⟩, ⟨_, rfl⟩, ⟨_, rfl⟩, ⟨_, rfl⟩, HN, HFA⟩
                              case measure => have := HLT.out; simp [intOf]; omega
                  · have hkz : ¬ (k : Int) < 16 := by omega
                    obtain rfl : k = c := by omega
                    go_wp2_with fail
                    go_ret2
                    exact ⟨by rw [hT.out]; rfl, HFO.out.below⟩
              · skip
                go_enter Try.func30, Try.ntmps30
                go_wp2_with fail
                refine (HC1.out _ F0.out.below).mono ?_
                rintro e w1 ⟨rfl, hb⟩
                have F1 := Lib.hid (F0.out.keep hb)
                clear hb F0 HC1 c0 c1 c2 c3 c4 d0 d1 d2 d3 d4
                obtain ⟨d0, d1, d2, d3, d4⟩ := four_cells F1.out.two
                go_wp2_with fail
                refine (HC2.out _ F1.out.below).mono ?_
                rintro e w2 ⟨rfl, hb⟩
                have F2 := Lib.hid (F1.out.keep hb)
                clear hb F1 HC2 d0 d1 d2 d3 d4
                obtain ⟨c0, c1, c2, c3, c4⟩ := four_cells F2.out.one
                obtain ⟨d0, d1, d2, d3, d4⟩ := four_cells F2.out.two
                go_wp2_with fail
                clear c0 c1 c2 c3 c4 d0 d1 d2 d3 d4
                go_loopw [6, 7, 8, 9, 10, 11, 12] (fun s j z8 z9 z10 z11 z12 wr => ∃ k : Nat, ∃ t : Int, k ≤ c ∧ j = .int .i64 (k : Nat) ∧ s = .int .i64 t ∧ 0 ≤ t ∧ t ≤ 156816 ∧ (∃ z, z8 = z) ∧ (∃ z, z9 = z) ∧ (∃ z, z10 = z) ∧ (∃ z, z11 = z) ∧ (∃ z, z12 = z) ∧ Hid (t = mx G k) ∧ Hid (Gg w wr #[.int .i64 2, .int .i64 (Y1 : Int), .slice va vn vc, .slice ua un uc] #[.int .i64 2, .int .i64 (Y2 : Int), .slice va' vn' vc', .slice ua' un' uc'])) (fun _ j _ _ _ _ _ _ => c - (intOf j).toNat)
                case atStart => exact ⟨0, 0, Nat.zero_le _, rfl, rfl, by omega, by omega, ⟨_, rfl⟩, ⟨_, rfl⟩, ⟨_, rfl⟩, ⟨_, rfl⟩, ⟨_, rfl⟩, Lib.hid rfl, F2⟩
                case round =>
                  clear F2
                  obtain ⟨k, t, hk, rfl, rfl, ht0, ht1, ⟨z8, rfl⟩, ⟨z9, rfl⟩, ⟨z10, rfl⟩, ⟨z11, rfl⟩, ⟨z12, rfl⟩, hT, HFO⟩ := hrel
                  obtain ⟨wo, rfl⟩ : ∃ wi : World, wi = wr := ⟨_, rfl⟩
                  obtain ⟨c0, c1, c2, c3, c4⟩ := four_cells HFO.out.one
                  obtain ⟨d0, d1, d2, d3, d4⟩ := four_cells HFO.out.two
                  by_cases hlt : k < c
                  · have hkz : (k : Int) < 256 := by omega
                    have HLT := Lib.hid hlt
                    have o1 := below_al (Below.refl wo.heap.size wo) (.cells #[] 3)
                    have O3 : Hid ((wo.alloc (.cells #[] 3)).ownsRow wo.heap.size 3 1 (.slice (some ⟨wo.heap.size, 0, none⟩) 0 0) 0 (i64s (dg 0 k))) := Lib.hid (by
                      have := World.ownsRow_made (base := wo.heap.size) (e := 3) (size := 1) wo #[] 0 (Nat.le_refl _) (Nat.zero_le _) rfl
                      simpa [i64s, dg] using this)
                    have BW := Lib.hid o1
                    clear o1
                    go_wp2_with fail
                    clear c0 c1 c2 c3 c4 d0 d1 d2 d3 d4
                    go_loopw [8, 9] (fun v8 j wr => ∃ i : Nat, i ≤ N ∧ j = .int .i64 (i : Nat) ∧ Hid (wr.ownsRow wo.heap.size 3 1 v8 i (i64s (dg i k))) ∧ Hid (Below wo.heap.size wo wr)) (fun _ j _ => N - (intOf j).toNat)
                    case atStart => exact ⟨0, Nat.zero_le _, rfl, O3, BW⟩
                    case round =>
                      clear O3 BW
                      obtain ⟨i, hi', rfl, hO, hB⟩ := hrel
                      obtain ⟨wi, rfl⟩ : ∃ wi : World, wi = wr := ⟨_, rfl⟩
                      obtain ⟨c0, c1, c2, c3, c4⟩ := four_cells (HFO.out.keep hB.out).one
                      obtain ⟨d0, d1, d2, d3, d4⟩ := four_cells (HFO.out.keep hB.out).two
                      by_cases hli : i < N
                      · have hiz : (i : Int) < 4 := by omega
                        obtain ⟨yy, hy⟩ : ∃ yy, ((k / 2 ^ (2 * i) % 4 : Nat) : Int) = yy := ⟨_, rfl⟩
                        have hx : bits .and .i64 ((k : Int) / 2 ^ (2 * i)) 3 = yy := (dig k i (by have := HC256.out; omega)).trans hy
                        have HDS : Hid (dg (i + 1) k = dg i k ++ [yy]) := Lib.hid (by rw [← hy]; exact dg_succ i k)
                        have hwi : IntKind.i64.wrap (2 * (i : Int)) = 2 * (i : Int) := IntWalk.i64_in _ (by omega)
                        have h2i : (0 : Int) ≤ 2 * (i : Int) := by omega
                        have i4 : i ≤ 4 := by omega
                        have hsz := hB.out.size
                        clear hy
                        go_wp2_with (at_builtin; go_must (refine wpList_append_own _ rfl (.tmp 62) (.tmp 68) 34 rfl (wo.heap.size) 3 i0 (.int .i64 0) 1 8 Try.underlying34 hi hz0 hz1 hz2 rfl (by decide) _ _ _ rfl (hO.out.alloc _) ⟨wi.heap.size, 0, none⟩ 1 1 [.int .i64 yy] rfl rfl ?c1 ?c2 ?c3 ?c4 ?c5 ?_))
                        try (case c1 => first | exact app.one_at _ _ _ | (intro q u hq; have h5 := app.one_at wi (.int .i64 yy) 3 q u hq; simpa using h5))
                        case c2 => first | rfl | (intro u hu; simp at hu; subst hu; rfl)
                        case c3 => unfold maxLen; omega
                        case c4 => omega
                        try (case c5 => first | omega | (simp; omega))
                        intro v9 w9 hown hgrow _
                        have B9 := Lib.hid ((below_al hB.out _).grown hgrow (by simp; omega) (fun j hj => by have := (hO.out.lt j hj).1; omega))
                        have O9 := Lib.hid hown
                        rw [app.i64s_snoc] at O9
                        clear hown hgrow
                        clear hO hB c0 c1 c2 c3 c4 d0 d1 d2 d3 d4 hwi h2i
                        go_wp2_with fail
                        go_roundw
                        case rel => exact ⟨i + 1, by omega, by go_num, Lib.hid (by rw [HDS.out]; exact O9.out), B9⟩
                        case measure => simp [intOf]; omega
                      · have hiz : ¬ (i : Int) < 4 := by omega
                        obtain rfl : i = N := by omega
                        have HIN : Hid (Ints wi u8 (dg i k)) := Lib.hid (app.ints_of_owns hO.out).ints
                        obtain ⟨fa, fn, fc, rfl⟩ := HIN.out.shape
                        clear hO
                        go_wp2_with fail
                        clear c0 c1 c2 c3 c4 d0 d1 d2 d3 d4
                        go_loopw [10, 11, 12] (fun s j z12 wr => ∃ a : Nat, ∃ m : Int, a ≤ Y1 ∧ j = .int .i64 (a : Nat) ∧ s = .int .i64 m ∧ 0 ≤ m ∧ m ≤ 156816 ∧ (∃ z, z12 = z) ∧ Hid (m = worth.cum (P k) (a * Y2)) ∧ Hid (Below wi.heap.size wi wr)) (fun _ j _ _ => Y1 - (intOf j).toNat)
                        case atStart => exact ⟨0, 0, Nat.zero_le _, rfl, rfl, by omega, by omega, ⟨_, rfl⟩, Lib.hid (by rw [Nat.zero_mul]; rfl), Below.refl _ _⟩
                        case round =>
                          obtain ⟨a, m, ha, rfl, rfl, hm0, hm1, ⟨z12, rfl⟩, hM, hB2⟩ := hrel
                          obtain ⟨wa, rfl⟩ : ∃ wi : World, wi = wr := ⟨_, rfl⟩
                          have HFA := Lib.hid (HFO.out.keep (below_tr hB.out hB2.out))
                          obtain ⟨c0, c1, c2, c3, c4⟩ := four_cells HFA.out.one
                          obtain ⟨d0, d1, d2, d3, d4⟩ := four_cells HFA.out.two
                          by_cases hla : a < Y1
                          · have hka : (a : Int) < (Y1 : Int) := by omega
                            have HLA := Lib.hid hla
                            go_wp2_with fail
                            clear c0 c1 c2 c3 c4 d0 d1 d2 d3 d4
                            go_loopw [10, 12] (fun s j wr => ∃ b : Nat, ∃ m : Int, b ≤ Y2 ∧ j = .int .i64 (b : Nat) ∧ s = .int .i64 m ∧ 0 ≤ m ∧ m ≤ 156816 ∧ Hid (m = worth.cum (P k) (a * Y2 + b)) ∧ Hid (Below wi.heap.size wi wr)) (fun _ j _ => Y2 - (intOf j).toNat)
                            case atStart => exact ⟨0, m, Nat.zero_le _, rfl, rfl, hm0, hm1, hM, hB2⟩
                            case round =>
                              clear hM hm0 hm1 hB2 HFA
                              obtain ⟨b, m, hb, rfl, rfl, hm0, hm1, hM, hB2⟩ := hrel
                              obtain ⟨wb, rfl⟩ : ∃ wi : World, wi = wr := ⟨_, rfl⟩
                              have HFA := Lib.hid (HFO.out.keep (below_tr hB.out hB2.out))
                              obtain ⟨c0, c1, c2, c3, c4⟩ := four_cells HFA.out.one
                              obtain ⟨d0, d1, d2, d3, d4⟩ := four_cells HFA.out.two
                              by_cases hlb : b < Y2
                              · have hkb : (b : Int) < (Y2 : Int) := by omega
                                have HLB := Lib.hid hlb
                                have HCA := Lib.hid (HRE.out k a b wb _ HFA.out.below (HIN.out.below hB2.out) HLA.out hlb)
                                have hbb := HPB.out k (a * Y2 + (b + 1)) (by
                                  have g1 : a * Y2 + b < (a + 1) * Y2 := by rw [Nat.add_mul]; omega
                                  have g2 : (a + 1) * Y2 ≤ Y1 * Y2 := Nat.mul_le_mul_right _ (by have := HLA.out; omega)
                                  have := HYY.out
                                  omega)
                                obtain ⟨pz, hpz⟩ : ∃ pz, P k (a * Y2 + b) = pz := ⟨_, rfl⟩
                                have HS : Hid (m + pz = worth.cum (P k) (a * Y2 + (b + 1))) := Lib.hid (by rw [hM.out, ← hpz]; rfl)
                                rw [← HS.out] at hbb
                                rw [hpz] at HCA
                                have hwm : IntKind.i64.wrap (m + pz) = m + pz := IntWalk.i64_in _ (by omega)
                                clear hpz
                                go_wp2_with fail
                                refine HCA.out.mono ?_
                                rintro e w5 ⟨rfl, hb5⟩
                                have B5 := Lib.hid (below_tr hB2.out hb5)
                                clear hb5 c0 c1 c2 c3 c4 d0 d1 d2 d3 d4 HFA HCA hB2
                                go_wp2_with fail
                                go_roundw
                                case rel => exact ⟨b + 1, m + pz, by have := HLB.out; omega, by go_num, rfl, by omega, by omega, HS, B5⟩
                                case measure => have := HLB.out; simp [intOf]; omega
                              · have hkb : ¬ (b : Int) < (Y2 : Int) := by omega
                                obtain rfl : b = Y2 := by omega
                                have HM2 : Hid (m = worth.cum (P k) ((a + 1) * b)) := Lib.hid (by rw [Nat.add_mul, Nat.one_mul]; exact hM.out)
                                go_wp2_with fail
                                go_roundw
                                case rel => exact ⟨a + 1, m, by have := HLA.out; omega, by go_num, rfl, by omega, by omega, ⟨_, rfl⟩, HM2, hB2⟩
                                case measure => have := HLA.out; simp [intOf]; omega
                          · have hka : ¬ (a : Int) < (Y1 : Int) := by omega
                            obtain rfl : a = Y1 := by omega
                            have HGM : Hid (G k = m) := Lib.hid (by rw [HGP.out, hM.out])
                            by_cases hmx : t < m
                            · have HN := Lib.hid (mx_yes hT.out HGM.out hmx)
                              have HIF : Hid ((if t < m then m else t) = m) := Lib.hid (if_pos hmx)
                              go_wp2_with fail
                              refine (lmm.most_any t m _).mono ?_
                              rintro e w' ⟨rfl, rfl⟩
                              rw [HIF.out]
                              clear c0 c1 c2 c3 c4 d0 d1 d2 d3 d4
                              go_wp2_with fail
                              go_roundw
                              case rel => exact ⟨k + 1, m, by have := HLT.out; omega, by go_num, rfl, by omega, by omega, ⟨_, rfl⟩, ⟨_, rfl⟩, ⟨_, rfl⟩, ⟨_, rfl⟩, ⟨_, rfl⟩, HN, HFA⟩
                              case measure => have := HLT.out; simp [intOf]; omega
                            · have HN := Lib.hid (mx_no hT.out HGM.out hmx)
                              have HIF : Hid ((if t < m then m else t) = t) := Lib.hid (if_neg hmx)
                              go_wp2_with fail
                              refine (lmm.most_any t m _).mono ?_
                              rintro e w' ⟨rfl, rfl⟩
                              rw [HIF.out]
                              clear c0 c1 c2 c3 c4 d0 d1 d2 d3 d4
                              go_wp2_with fail
                              go_roundw
                              case rel => exact ⟨k + 1, t, by have := HLT.out; omega, by go_num, rfl, by omega, by omega, ⟨_, rfl⟩, ⟨_, rfl⟩, ⟨_, rfl⟩, ⟨_, rfl⟩, ⟨_, rfl⟩, HN, HFA⟩
                              case measure => have := HLT.out; simp [intOf]; omega
                  · have hkz : ¬ (k : Int) < 256 := by omega
                    obtain rfl : k = c := by omega
                    go_wp2_with fail
                    go_ret2
                    exact ⟨by rw [hT.out]; rfl, HFO.out.below⟩
            · have g4 : decide (2 < y') = true := by simp; omega
              rw [res_no (fun q => l4 q.2.2.2.2.2)]
              clear H1 H2
              go_enter Try.func30, Try.ntmps30
              go_wp2_with fail
              refine (HC1.out _ F0.out.below).mono ?_
              rintro e w1 ⟨rfl, hb⟩
              have F1 := Lib.hid (F0.out.keep hb)
              clear hb F0 HC1 c0 c1 c2 c3 c4 d0 d1 d2 d3 d4
              obtain ⟨d0, d1, d2, d3, d4⟩ := four_cells F1.out.two
              go_wp2_with fail
              refine (HC2.out _ F1.out.below).mono ?_
              rintro e w2 ⟨rfl, hb⟩
              have F2 := Lib.hid (F1.out.keep hb)
              clear hb F1 HC2 d0 d1 d2 d3 d4
              obtain ⟨c0, c1, c2, c3, c4⟩ := four_cells F2.out.one
              obtain ⟨d0, d1, d2, d3, d4⟩ := four_cells F2.out.two
              go_wp2_with fail
              go_ret2
              exact ⟨rfl, F2.out.below⟩
          · have g3 : decide (2 < x') = true := by simp; omega
            rw [res_no (fun q => l3 q.2.2.2.2.1)]
            clear H1 H2
            go_enter Try.func30, Try.ntmps30
            go_wp2_with fail
            refine (HC1.out _ F0.out.below).mono ?_
            rintro e w1 ⟨rfl, hb⟩
            have F1 := Lib.hid (F0.out.keep hb)
            clear hb F0 HC1 c0 c1 c2 c3 c4 d0 d1 d2 d3 d4
            obtain ⟨d0, d1, d2, d3, d4⟩ := four_cells F1.out.two
            go_wp2_with fail
            refine (HC2.out _ F1.out.below).mono ?_
            rintro e w2 ⟨rfl, hb⟩
            have F2 := Lib.hid (F1.out.keep hb)
            clear hb F1 HC2 d0 d1 d2 d3 d4
            obtain ⟨c0, c1, c2, c3, c4⟩ := four_cells F2.out.one
            obtain ⟨d0, d1, d2, d3, d4⟩ := four_cells F2.out.two
            go_wp2_with fail
            go_ret2
            exact ⟨rfl, F2.out.below⟩
        · have g2 : decide (2 < y) = true := by simp; omega
          rw [res_no (fun q => l2 q.2.2.2.1)]
          clear H1 H2
          go_enter Try.func30, Try.ntmps30
          go_wp2_with fail
          refine (HC1.out _ F0.out.below).mono ?_
          rintro e w1 ⟨rfl, hb⟩
          have F1 := Lib.hid (F0.out.keep hb)
          clear hb F0 HC1 c0 c1 c2 c3 c4 d0 d1 d2 d3 d4
          obtain ⟨d0, d1, d2, d3, d4⟩ := four_cells F1.out.two
          go_wp2_with fail
          refine (HC2.out _ F1.out.below).mono ?_
          rintro e w2 ⟨rfl, hb⟩
          have F2 := Lib.hid (F1.out.keep hb)
          clear hb F1 HC2 d0 d1 d2 d3 d4
          obtain ⟨c0, c1, c2, c3, c4⟩ := four_cells F2.out.one
          obtain ⟨d0, d1, d2, d3, d4⟩ := four_cells F2.out.two
          go_wp2_with fail
          go_ret2
          exact ⟨rfl, F2.out.below⟩
      · have g1 : decide (2 < x) = true := by simp; omega
        rw [res_no (fun q => l1 q.2.2.1)]
        clear H1 H2
        go_enter Try.func30, Try.ntmps30
        go_wp2_with fail
        refine (HC1.out _ F0.out.below).mono ?_
        rintro e w1 ⟨rfl, hb⟩
        have F1 := Lib.hid (F0.out.keep hb)
        clear hb F0 HC1 c0 c1 c2 c3 c4 d0 d1 d2 d3 d4
        obtain ⟨d0, d1, d2, d3, d4⟩ := four_cells F1.out.two
        go_wp2_with fail
        refine (HC2.out _ F1.out.below).mono ?_
        rintro e w2 ⟨rfl, hb⟩
        have F2 := Lib.hid (F1.out.keep hb)
        clear hb F1 HC2 d0 d1 d2 d3 d4
        obtain ⟨c0, c1, c2, c3, c4⟩ := four_cells F2.out.one
        obtain ⟨d0, d1, d2, d3, d4⟩ := four_cells F2.out.two
        go_wp2_with fail
        go_ret2
        exact ⟨rfl, F2.out.below⟩
    · rw [gameB_no ok2] at HC2
      rw [res_no (fun q => ok2 q.2.1)]
      clear H1 H2
      go_enter Try.func30, Try.ntmps30
      go_wp2_with fail
      refine (HC1.out _ F0.out.below).mono ?_
      rintro e w1 ⟨rfl, hb⟩
      have F1 := Lib.hid (F0.out.keep hb)
      clear hb F0 HC1 c0 c1 c2 c3 c4 d0 d1 d2 d3 d4
      obtain ⟨d0, d1, d2, d3, d4⟩ := four_cells F1.out.two
      go_wp2_with fail
      refine (HC2.out _ F1.out.below).mono ?_
      rintro e w2 ⟨rfl, hb⟩
      have F2 := Lib.hid (F1.out.keep hb)
      clear hb F1 HC2 d0 d1 d2 d3 d4
      obtain ⟨c0, c1, c2, c3, c4⟩ := four_cells F2.out.one
      obtain ⟨d0, d1, d2, d3, d4⟩ := four_cells F2.out.two
      go_wp2_with fail
      go_ret2
      exact ⟨rfl, F2.out.below⟩
  · rw [gameB_no ok1] at HC1
    rw [res_no (fun q => ok1 q.1)]
    clear H1 H2
    go_enter Try.func30, Try.ntmps30
    go_wp2_with fail
    refine (HC1.out _ F0.out.below).mono ?_
    rintro e w1 ⟨rfl, hb⟩
    have F1 := Lib.hid (F0.out.keep hb)
    clear hb F0 HC1 c0 c1 c2 c3 c4 d0 d1 d2 d3 d4
    go_wp2_with fail
    go_ret2
    exact ⟨rfl, F1.out.below⟩

end Go.Proofs.Ytimfnhejiiagmaa.bvq
