/- BothValue of the program. -/
import Derived.Test.YtimfnhejiiagmaaBvs
import Derived.Test.YtimfnhejiiagmaaGvali
namespace Go.Proofs.Ytimfnhejiiagmaa.bvp
open Go.RowKit Go.Deep Go.Proofs.Ytimfnhejiiagmaa.base
open Go.Proofs.Ytimfnhejiiagmaa.ints (ret_int)
open Go.Proofs.Ytimfnhejiiagmaa.rws (total)
open Go.Proofs.Ytimfnhejiiagmaa.gval (okGame gameB gameB_yes gameB_no)
open Go.Proofs.Ytimfnhejiiagmaa.plays (at_ bit len_at)
open Go.Proofs.Ytimfnhejiiagmaa.bvm Go.Proofs.Ytimfnhejiiagmaa.bvs

/-- a Game that can be one of two at once -/
def small (x y : Int) (ws : List Int) (xss : List (List Int)) : Prop := okGame x y ws xss ∧ x ≤ 2 ∧ y ≤ 2
open Classical in
noncomputable def smallB (x y : Int) (ws : List Int) (xss : List (List Int)) : Bool := if small x y ws xss then true else false
theorem smallB_yes {x y : Int} {ws : List Int} {xss : List (List Int)} (h : small x y ws xss) : smallB x y ws xss = true := if_pos h
theorem smallB_no {x y : Int} {ws : List Int} {xss : List (List Int)} (h : ¬ small x y ws xss) : smallB x y ws xss = false := if_neg h
theorem at_bit (n k i : Nat) : (at_ n k).getD i 0 = 0 ∨ (at_ n k).getD i 0 = 1 := by
  by_cases h : i < n
  · rw [plays.get_at _ _ _ h]; unfold bit; omega
  · rw [List.getD_eq_getElem?_getD, List.getElem?_eq_none (by rw [len_at]; omega)]; exact .inl rfl
theorem val_at (X1 Y1 X2 Y2 : Nat) (ws : List Int) (xss : List (List Int)) (vs : List Int) (yss : List (List Int)) (k : Nat) :
    tot X1 Y1 X2 Y2 ws xss vs yss (fun i => (at_ (2 * (X1 * X2)) k).getD (2 * i) 0) (fun i => (at_ (2 * (X1 * X2)) k).getD (2 * i + 1) 0) (Y1 * Y2) = val X1 Y1 X2 Y2 ws xss vs yss k := by
  unfold val
  refine tot_congr X1 Y1 X2 Y2 ws xss vs yss (fun i hi => ⟨?_, ?_⟩) _
  · rw [plays.get_at _ _ _ (by omega)]; rfl
  · rw [plays.get_at _ _ _ (by omega)]; rfl


set_option maxRecDepth 100000 in
set_option maxHeartbeats 4000000 in
theorem can (x y : Int) (v : Value) (ws : List Int) (u : Value) (xss : List (List Int)) (w : World) (h : game.GV w v ws u xss) (hn : ws.length ≤ 1048576) (hm : total xss ≤ 1048576) :
    Calls Try.prog 89 #[.agg #[.int .i64 x, .int .i64 y, v, u]] w fun e w' => e = .returned (.bool (smallB x y ws xss)) ∧ Below w.heap.size w w' := by
  obtain ⟨va, vn, vc, ua, un, uc, rfl, rfl⟩ := h.shape
  have B0 := Lib.hid (below_al (Below.refl w.heap.size w) (.cells #[.int .i64 x, .int .i64 y, .slice va vn vc, .slice ua un uc] 40))
  have K0 := Lib.hid (Blk.new w 40 #[.int .i64 x, .int .i64 y, .slice va vn vc, .slice ua un uc])
  have HG := Lib.hid (gval.impl_any x y _ ws _ xss _ (h.below B0.out) hn hm)
  obtain ⟨c0, c1, c2, c3, c4⟩ := four_cells K0.out
  clear h
  by_cases hok : okGame x y ws xss
  · rw [gameB_yes hok] at HG
    by_cases hx : x ≤ 2
    · by_cases hy : y ≤ 2
      · rw [smallB_yes ⟨hok, hx, hy⟩]
        clear hok
        go_enter Try.func89, Try.ntmps89
        go_wp2_with fail
        refine HG.out.mono ?_
        rintro e w1 ⟨rfl, hb⟩
        have B1 := Lib.hid (below_tr B0.out hb)
        have K1 := Lib.hid (K0.out.below hb)
        clear c0 c1 c2 c3 c4 hb HG K0
        obtain ⟨c0, c1, c2, c3, c4⟩ := four_cells K1.out
        go_wp2_with fail
        go_ret
        exact ⟨rfl, B1.out⟩
      · rw [smallB_no (fun q => hy q.2.2)]
        have dy : decide (y ≤ 2) = false := by simp; omega
        clear hok
        go_enter Try.func89, Try.ntmps89
        go_wp2_with fail
        refine HG.out.mono ?_
        rintro e w1 ⟨rfl, hb⟩
        have B1 := Lib.hid (below_tr B0.out hb)
        have K1 := Lib.hid (K0.out.below hb)
        clear c0 c1 c2 c3 c4 hb HG K0
        obtain ⟨c0, c1, c2, c3, c4⟩ := four_cells K1.out
        go_wp2_with fail
        go_ret
        exact ⟨rfl, B1.out⟩
    · rw [smallB_no (fun q => hx q.2.1)]
      clear hok
      go_enter Try.func89, Try.ntmps89
      go_wp2_with fail
      refine HG.out.mono ?_
      rintro e w1 ⟨rfl, hb⟩
      have B1 := Lib.hid (below_tr B0.out hb)
      have K1 := Lib.hid (K0.out.below hb)
      clear c0 c1 c2 c3 c4 hb HG K0
      obtain ⟨c0, c1, c2, c3, c4⟩ := four_cells K1.out
      go_wp2_with fail
      go_ret
      exact ⟨rfl, B1.out⟩
  · rw [gameB_no hok] at HG
    rw [smallB_no (fun q => hok q.1)]
    clear hok
    go_enter Try.func89, Try.ntmps89
    go_wp2_with fail
    refine HG.out.mono ?_
    rintro e w1 ⟨rfl, hb⟩
    have B1 := Lib.hid (below_tr B0.out hb)
    clear c0 c1 c2 c3 c4 hb HG K0
    go_wp2_with fail
    go_ret
    exact ⟨rfl, B1.out⟩


set_option maxRecDepth 100000 in
set_option maxHeartbeats 8000000 in
theorem impl_any (x y x' y' : Int) (v : Value) (ws : List Int) (u : Value) (xss : List (List Int)) (v' : Value) (vs : List Int) (u' : Value) (yss : List (List Int)) (w : World)
    (h : game.GV w v ws u xss) (h' : game.GV w v' vs u' yss) (hn : ws.length ≤ 1048576) (hm : total xss ≤ 1048576) (hn' : vs.length ≤ 1048576) (hm' : total yss ≤ 1048576) :
    Calls Try.prog 31 #[.agg #[.int .i64 x, .int .i64 y, v, u], .agg #[.int .i64 x', .int .i64 y', v', u']] w
      fun e w' => e = .returned (.tuple #[.int .i64 (res x y x' y' ws xss vs yss).1, .bool (res x y x' y' ws xss vs yss).2]) ∧ Below w.heap.size w w' := by
  have H1 := Lib.hid h
  have H2 := Lib.hid h'
  obtain ⟨va, vn, vc, ua, un, uc, rfl, rfl⟩ := h.shape
  obtain ⟨va', vn', vc', ua', un', uc', rfl, rfl⟩ := h'.shape
  have F0 := Lib.hid (Gg.start w #[.int .i64 x, .int .i64 y, .slice va vn vc, .slice ua un uc] #[.int .i64 x', .int .i64 y', .slice va' vn' vc', .slice ua' un' uc'])
  have HC1 := Lib.hid (fun W (hW : Below w.heap.size w W) => can x y _ ws _ xss W (h.below hW) hn hm)
  have HC2 := Lib.hid (fun W (hW : Below w.heap.size w W) => can x' y' _ vs _ yss W (h'.below hW) hn' hm')
  obtain ⟨c0, c1, c2, c3, c4⟩ := four_cells F0.out.one
  obtain ⟨d0, d1, d2, d3, d4⟩ := four_cells F0.out.two
  clear h h'
  by_cases hs1 : small x y ws xss
  · rw [smallB_yes hs1] at HC1
    by_cases hs2 : small x' y' vs yss
    · rw [smallB_yes hs2] at HC2
      have hok : okTwo x y x' y' ws xss vs yss := ⟨hs1.1, hs2.1, hs1.2.1, hs1.2.2, hs2.2.1, hs2.2.2⟩
      rw [res_yes hok]
      obtain ⟨X1, rfl⟩ : ∃ X : Nat, x = X := ⟨x.toNat, by have := hs1.1.1.1; omega⟩
      obtain ⟨Y1, rfl⟩ : ∃ X : Nat, y = X := ⟨y.toNat, by have := hs1.1.1.2; omega⟩
      obtain ⟨X2, rfl⟩ : ∃ X : Nat, x' = X := ⟨x'.toNat, by have := hs2.1.1.1; omega⟩
      obtain ⟨Y2, rfl⟩ : ∃ X : Nat, y' = X := ⟨y'.toNat, by have := hs2.1.1.2; omega⟩
      simp only [Int.toNat_natCast]
      have hx1 : (X1 : Int) ≤ 2 := hs1.2.1
      have hx2 : (X2 : Int) ≤ 2 := hs2.2.1
      have hXX : X1 * X2 ≤ 4 := mul4 (by omega) (by omega)
      obtain ⟨N, hN⟩ : ∃ N : Nat, 2 * (X1 * X2) = N := ⟨_, rfl⟩
      obtain ⟨c, hc⟩ : ∃ c : Nat, 2 ^ N = c := ⟨_, rfl⟩
      have hN8 : N ≤ 8 := by omega
      have hc256 : c ≤ 256 := by rw [← hc]; exact Nat.le_trans (Nat.pow_le_pow_right (by omega) hN8) (by decide)
      obtain ⟨G, hG⟩ : ∃ G : Nat → Int, val X1 Y1 X2 Y2 ws xss vs yss = G := ⟨_, rfl⟩
      have HG0 : Hid (∀ k, 0 ≤ G k ∧ G k ≤ 156816) := Lib.hid (fun k => by rw [← hG]; exact tot_bd X1 Y1 X2 Y2 ws xss vs yss hok.1 hok.2.1 hXX _ _ _ (mul4 (by have := hs1.2.2; omega) (by have := hs2.2.2; omega)))
      have HMX : Hid (∀ k, 0 ≤ mx G k ∧ mx G k ≤ 156816) := Lib.hid (fun k => ⟨mx_nn _ _, mx_le _ (by decide) _ (fun t _ => (HG0.out t).2)⟩)
      have HPA := Lib.hid (fun k W => plg.play_at N k W (by omega))
      have HTS : Hid (∀ (k : Nat) (W : World) (fv : Value), Below w.heap.size w W → Ints W fv (at_ N k) → Calls Try.prog 90 #[.agg #[.int .i64 (X1 : Int), .int .i64 (Y1 : Int), .slice va vn vc, .slice ua un uc], .agg #[.int .i64 (X2 : Int), .int .i64 (Y2 : Int), .slice va' vn' vc', .slice ua' un' uc'], fv] W fun e w' => e = .returned (.int .i64 (G k)) ∧ Below W.heap.size W w') := Lib.hid (fun k W fv hW hf => by
        have := tscore X1 Y1 X2 Y2 _ ws _ xss _ vs _ yss fv (at_ N k) W (H1.out.below hW) (H2.out.below hW) hf hok (by rw [len_at]; exact hN.symm) (at_bit N k)
        rw [← hN, val_at, hG] at this
        exact this)
      rw [show 2 * (X1 * X2) = N from hN, hc, hG]
      have hNi : (N : Int) = 2 * ((X1 * X2 : Nat) : Int) := by omega
      have HCS : Hid (((X1 : Int) = 1 ∧ (X2 : Int) = 1 ∧ (N : Int) = 2 ∧ (c : Int) = 4) ∨ ((X1 : Int) = 1 ∧ (X2 : Int) = 2 ∧ (N : Int) = 4 ∧ (c : Int) = 16) ∨ ((X1 : Int) = 2 ∧ (X2 : Int) = 1 ∧ (N : Int) = 4 ∧ (c : Int) = 16) ∨ ((X1 : Int) = 2 ∧ (X2 : Int) = 2 ∧ (N : Int) = 8 ∧ (c : Int) = 256)) := Lib.hid (by
        have h1 : X1 = 1 ∨ X1 = 2 := by have := hs1.1.1.1; omega
        have h2 : X2 = 1 ∨ X2 = 2 := by have := hs2.1.1.1; omega
        rcases h1 with rfl | rfl <;> rcases h2 with rfl | rfl <;> simp at hN <;> subst hN <;> simp at hc <;> subst hc <;> simp)
      clear hN hNi hc hG hs1 hs2 hok hXX H1 H2 hx1 hx2 hN8 hc256
      obtain ⟨x1, hx1⟩ : ∃ x1 : Int, (X1 : Int) = x1 := ⟨_, rfl⟩
      obtain ⟨x2, hx2⟩ : ∃ x2 : Int, (X2 : Int) = x2 := ⟨_, rfl⟩
      obtain ⟨n, hnn⟩ : ∃ n : Int, (N : Int) = n := ⟨_, rfl⟩
      clear c0 c1 c2 c3 c4 d0 d1 d2 d3 d4
      rw [hx1] at F0 HC1 HTS HCS ⊢
      rw [hx2] at F0 HC2 HTS HCS ⊢
      obtain ⟨c0, c1, c2, c3, c4⟩ := four_cells F0.out.one
      obtain ⟨d0, d1, d2, d3, d4⟩ := four_cells F0.out.two
      rw [hnn] at HPA HCS
      clear hx1 hx2 hnn
      have HCS := HCS.out
      rcases HCS with ⟨rfl, rfl, rfl, hcc⟩ | ⟨rfl, rfl, rfl, hcc⟩ | ⟨rfl, rfl, rfl, hcc⟩ | ⟨rfl, rfl, rfl, hcc⟩
      · go_enter Try.func31, Try.ntmps31
        go_wp2_with fail
        refine (HC1.out _ F0.out.below).mono ?_
        rintro e w1 ⟨rfl, hb⟩
        have F1 := Lib.hid (F0.out.keep hb)
        clear hb F0 HC1 c0 c1 c2 c3 c4 d0 d1 d2 d3 d4
        obtain ⟨d0, d1, d2, d3, d4⟩ := four_cells F1.out.two
        go_wp2_with fail
        refine (HC2.out _ F1.out.below).mono ?_
        rintro e w2 ⟨rfl, hb⟩
        have F2 := Lib.hid (F1.out.keep hb)
        clear hb F1 HC2 d0 d1 d2 d3 d4
        obtain ⟨c0, c1, c2, c3, c4⟩ := four_cells F2.out.one
        obtain ⟨d0, d1, d2, d3, d4⟩ := four_cells F2.out.two
        go_wp2_with fail
        clear c0 c1 c2 c3 c4 d0 d1 d2 d3 d4
        go_loopw [7, 8, 25] (fun s z8 j wr => ∃ k : Nat, ∃ t : Int, k ≤ c ∧ j = .int .i64 (k : Nat) ∧ s = .int .i64 t ∧ 0 ≤ t ∧ t ≤ 156816 ∧ (∃ z, z8 = z) ∧ Hid (t = mx G k) ∧ Hid (Gg w wr #[.int .i64 1, .int .i64 (Y1 : Int), .slice va vn vc, .slice ua un uc] #[.int .i64 1, .int .i64 (Y2 : Int), .slice va' vn' vc', .slice ua' un' uc'])) (fun _ _ j _ => c - (intOf j).toNat)
        case atStart => exact ⟨0, 0, Nat.zero_le _, rfl, rfl, by omega, by omega, ⟨_, rfl⟩, Lib.hid rfl, F2⟩
        case round =>
          clear F2
          obtain ⟨k, t, hk, rfl, rfl, ht0, ht1, ⟨z8, rfl⟩, hT, hF⟩ := hrel
          obtain ⟨wi, rfl⟩ : ∃ wi : World, wi = wr := ⟨_, rfl⟩
          by_cases hlt : k < c
          · have hkz : (k : Int) < 4 := by omega
            obtain ⟨c0, c1, c2, c3, c4⟩ := four_cells hF.out.one
            obtain ⟨d0, d1, d2, d3, d4⟩ := four_cells hF.out.two
            have HPAk := Lib.hid (HPA.out k)
            obtain ⟨pz, hpz⟩ : ∃ pz, G k = pz := ⟨_, rfl⟩
            have hpb := HG0.out k
            have HTK := Lib.hid (HTS.out k)
            rw [hpz] at HTK hpb
            have HPZ := Lib.hid hpz
            clear hpz
            by_cases hmx : t < pz
            · skip
              have HN := Lib.hid (mx_yes hT.out HPZ.out hmx)
              have hmm : max t pz = pz := by omega
              go_wp2_with fail
              go_region_held3 (fun w' => w'.cell? ⟨w.heap.size, 0, none⟩ = some (.int .i64 1) ∧ w'.cell? ⟨w.heap.size, 1, none⟩ = some (.int .i64 (Y1 : Int)) ∧ w'.cell? ⟨w.heap.size, 2, none⟩ = some (.slice va vn vc) ∧ w'.cell? ⟨w.heap.size, 3, none⟩ = some (.slice ua un uc) ∧ w'.cell? ⟨w.heap.size + 1, 0, none⟩ = some (.int .i64 1) ∧ w'.cell? ⟨w.heap.size + 1, 1, none⟩ = some (.int .i64 (Y2 : Int)) ∧ w'.cell? ⟨w.heap.size + 1, 2, none⟩ = some (.slice va' vn' vc') ∧ w'.cell? ⟨w.heap.size + 1, 3, none⟩ = some (.slice ua' un' uc') ∧ Below wi.heap.size wi w')
                (((with_reducible refine held8 c0 c1 c2 c3 d0 d1 d2 d3 ?_); repeat (first | (with_reducible exact Below.refl _ _) | (with_reducible refine below_dr ?_) | (with_reducible refine below_tr ?_ (by assumption)))))
                (first
                  | (go_at_call 91; (with_reducible refine (HPAk.out _).mono ?_); rintro e wq1 ⟨fv, rfl, hf, hq1⟩)
                  | (go_at_call 90; (with_reducible refine (HTK.out _ _ (below_tr hF.out.below ?_) ?_).mono ?_); (repeat (first | (with_reducible exact Below.refl _ _) | (with_reducible refine below_dr ?_) | (with_reducible refine below_tr ?_ (by assumption)))); (exact hf.ints); rintro e wq2 ⟨rfl, hq2⟩))
              have hbt : Below wi.heap.size wi wq2 := by repeat (first | (with_reducible exact Below.refl _ _) | (with_reducible refine below_dr ?_) | (with_reducible refine below_tr ?_ (by assumption)))
              have F3 := Lib.hid (hF.out.keep hbt)
              clear hbt hq1 hq2 hf c0 c1 c2 c3 c4 d0 d1 d2 d3 d4 hF HTK HPAk
              go_wp2_with fail
              go_roundw
              case rel => exact ⟨k + 1, pz, by omega, by go_num, rfl, by omega, by omega, ⟨_, rfl⟩, HN, F3⟩
              case measure => simp [intOf]; omega
            · skip
              have HN := Lib.hid (mx_no hT.out HPZ.out hmx)
              have hmm : max t pz = t := by omega
              go_wp2_with fail
              go_region_held3 (fun w' => w'.cell? ⟨w.heap.size, 0, none⟩ = some (.int .i64 1) ∧ w'.cell? ⟨w.heap.size, 1, none⟩ = some (.int .i64 (Y1 : Int)) ∧ w'.cell? ⟨w.heap.size, 2, none⟩ = some (.slice va vn vc) ∧ w'.cell? ⟨w.heap.size, 3, none⟩ = some (.slice ua un uc) ∧ w'.cell? ⟨w.heap.size + 1, 0, none⟩ = some (.int .i64 1) ∧ w'.cell? ⟨w.heap.size + 1, 1, none⟩ = some (.int .i64 (Y2 : Int)) ∧ w'.cell? ⟨w.heap.size + 1, 2, none⟩ = some (.slice va' vn' vc') ∧ w'.cell? ⟨w.heap.size + 1, 3, none⟩ = some (.slice ua' un' uc') ∧ Below wi.heap.size wi w')
                (((with_reducible refine held8 c0 c1 c2 c3 d0 d1 d2 d3 ?_); repeat (first | (with_reducible exact Below.refl _ _) | (with_reducible refine below_dr ?_) | (with_reducible refine below_tr ?_ (by assumption)))))
                (first
                  | (go_at_call 91; (with_reducible refine (HPAk.out _).mono ?_); rintro e wq1 ⟨fv, rfl, hf, hq1⟩)
                  | (go_at_call 90; (with_reducible refine (HTK.out _ _ (below_tr hF.out.below ?_) ?_).mono ?_); (repeat (first | (with_reducible exact Below.refl _ _) | (with_reducible refine below_dr ?_) | (with_reducible refine below_tr ?_ (by assumption)))); (exact hf.ints); rintro e wq2 ⟨rfl, hq2⟩))
              have hbt : Below wi.heap.size wi wq2 := by repeat (first | (with_reducible exact Below.refl _ _) | (with_reducible refine below_dr ?_) | (with_reducible refine below_tr ?_ (by assumption)))
              have F3 := Lib.hid (hF.out.keep hbt)
              clear hbt hq1 hq2 hf c0 c1 c2 c3 c4 d0 d1 d2 d3 d4 hF HTK HPAk
              go_wp2_with fail
              go_roundw
              case rel => exact ⟨k + 1, t, by omega, by go_num, rfl, by omega, by omega, ⟨_, rfl⟩, HN, F3⟩
              case measure => simp [intOf]; omega
          · have hkz : ¬ (k : Int) < 4 := by omega
            obtain rfl : k = c := by omega
            go_wp2_with fail
            go_ret2
            exact ⟨by rw [hT.out]; rfl, hF.out.below⟩
      · go_enter Try.func31, Try.ntmps31
        go_wp2_with fail
        refine (HC1.out _ F0.out.below).mono ?_
        rintro e w1 ⟨rfl, hb⟩
        have F1 := Lib.hid (F0.out.keep hb)
        clear hb F0 HC1 c0 c1 c2 c3 c4 d0 d1 d2 d3 d4
        obtain ⟨d0, d1, d2, d3, d4⟩ := four_cells F1.out.two
        go_wp2_with fail
        refine (HC2.out _ F1.out.below).mono ?_
        rintro e w2 ⟨rfl, hb⟩
        have F2 := Lib.hid (F1.out.keep hb)
        clear hb F1 HC2 d0 d1 d2 d3 d4
        obtain ⟨c0, c1, c2, c3, c4⟩ := four_cells F2.out.one
        obtain ⟨d0, d1, d2, d3, d4⟩ := four_cells F2.out.two
        go_wp2_with fail
        clear c0 c1 c2 c3 c4 d0 d1 d2 d3 d4
        go_loopw [7, 8, 25] (fun s z8 j wr => ∃ k : Nat, ∃ t : Int, k ≤ c ∧ j = .int .i64 (k : Nat) ∧ s = .int .i64 t ∧ 0 ≤ t ∧ t ≤ 156816 ∧ (∃ z, z8 = z) ∧ Hid (t = mx G k) ∧ Hid (Gg w wr #[.int .i64 1, .int .i64 (Y1 : Int), .slice va vn vc, .slice ua un uc] #[.int .i64 2, .int .i64 (Y2 : Int), .slice va' vn' vc', .slice ua' un' uc'])) (fun _ _ j _ => c - (intOf j).toNat)
        case atStart => exact ⟨0, 0, Nat.zero_le _, rfl, rfl, by omega, by omega, ⟨_, rfl⟩, Lib.hid rfl, F2⟩
        case round =>
          clear F2
          obtain ⟨k, t, hk, rfl, rfl, ht0, ht1, ⟨z8, rfl⟩, hT, hF⟩ := hrel
          obtain ⟨wi, rfl⟩ : ∃ wi : World, wi = wr := ⟨_, rfl⟩
          by_cases hlt : k < c
          · have hkz : (k : Int) < 16 := by omega
            obtain ⟨c0, c1, c2, c3, c4⟩ := four_cells hF.out.one
            obtain ⟨d0, d1, d2, d3, d4⟩ := four_cells hF.out.two
            have HPAk := Lib.hid (HPA.out k)
            obtain ⟨pz, hpz⟩ : ∃ pz, G k = pz := ⟨_, rfl⟩
            have hpb := HG0.out k
            have HTK := Lib.hid (HTS.out k)
            rw [hpz] at HTK hpb
            have HPZ := Lib.hid hpz
            clear hpz
            by_cases hmx : t < pz
            · skip
              have HN := Lib.hid (mx_yes hT.out HPZ.out hmx)
              have hmm : max t pz = pz := by omega
              go_wp2_with fail
              go_region_held3 (fun w' => w'.cell? ⟨w.heap.size, 0, none⟩ = some (.int .i64 1) ∧ w'.cell? ⟨w.heap.size, 1, none⟩ = some (.int .i64 (Y1 : Int)) ∧ w'.cell? ⟨w.heap.size, 2, none⟩ = some (.slice va vn vc) ∧ w'.cell? ⟨w.heap.size, 3, none⟩ = some (.slice ua un uc) ∧ w'.cell? ⟨w.heap.size + 1, 0, none⟩ = some (.int .i64 2) ∧ w'.cell? ⟨w.heap.size + 1, 1, none⟩ = some (.int .i64 (Y2 : Int)) ∧ w'.cell? ⟨w.heap.size + 1, 2, none⟩ = some (.slice va' vn' vc') ∧ w'.cell? ⟨w.heap.size + 1, 3, none⟩ = some (.slice ua' un' uc') ∧ Below wi.heap.size wi w')
                (((with_reducible refine held8 c0 c1 c2 c3 d0 d1 d2 d3 ?_); repeat (first | (with_reducible exact Below.refl _ _) | (with_reducible refine below_dr ?_) | (with_reducible refine below_tr ?_ (by assumption)))))
                (first
                  | (go_at_call 91; (with_reducible refine (HPAk.out _).mono ?_); rintro e wq1 ⟨fv, rfl, hf, hq1⟩)
                  | (go_at_call 90; (with_reducible refine (HTK.out _ _ (below_tr hF.out.below ?_) ?_).mono ?_); (repeat (first | (with_reducible exact Below.refl _ _) | (with_reducible refine below_dr ?_) | (with_reducible refine below_tr ?_ (by assumption)))); (exact hf.ints); rintro e wq2 ⟨rfl, hq2⟩))
              have hbt : Below wi.heap.size wi wq2 := by repeat (first | (with_reducible exact Below.refl _ _) | (with_reducible refine below_dr ?_) | (with_reducible refine below_tr ?_ (by assumption)))
              have F3 := Lib.hid (hF.out.keep hbt)
              clear hbt hq1 hq2 hf c0 c1 c2 c3 c4 d0 d1 d2 d3 d4 hF HTK HPAk
              go_wp2_with fail
              go_roundw
              case rel => exact ⟨k + 1, pz, by omega, by go_num, rfl, by omega, by omega, ⟨_, rfl⟩, HN, F3⟩
              case measure => simp [intOf]; omega
            · skip
              have HN := Lib.hid (mx_no hT.out HPZ.out hmx)
              have hmm : max t pz = t := by omega
              go_wp2_with fail
              go_region_held3 (fun w' => w'.cell? ⟨w.heap.size, 0, none⟩ = some (.int .i64 1) ∧ w'.cell? ⟨w.heap.size, 1, none⟩ = some (.int .i64 (Y1 : Int)) ∧ w'.cell? ⟨w.heap.size, 2, none⟩ = some (.slice va vn vc) ∧ w'.cell? ⟨w.heap.size, 3, none⟩ = some (.slice ua un uc) ∧ w'.cell? ⟨w.heap.size + 1, 0, none⟩ = some (.int .i64 2) ∧ w'.cell? ⟨w.heap.size + 1, 1, none⟩ = some (.int .i64 (Y2 : Int)) ∧ w'.cell? ⟨w.heap.size + 1, 2, none⟩ = some (.slice va' vn' vc') ∧ w'.cell? ⟨w.heap.size + 1, 3, none⟩ = some (.slice ua' un' uc') ∧ Below wi.heap.size wi w')
                (((with_reducible refine held8 c0 c1 c2 c3 d0 d1 d2 d3 ?_); repeat (first | (with_reducible exact Below.refl _ _) | (with_reducible refine below_dr ?_) | (with_reducible refine below_tr ?_ (by assumption)))))
                (first
                  | (go_at_call 91; (with_reducible refine (HPAk.out _).mono ?_); rintro e wq1 ⟨fv, rfl, hf, hq1⟩)
                  | (go_at_call 90; (with_reducible refine (HTK.out _ _ (below_tr hF.out.below ?_) ?_).mono ?_); (repeat (first | (with_reducible exact Below.refl _ _) | (with_reducible refine below_dr ?_) | (with_reducible refine below_tr ?_ (by assumption)))); (exact hf.ints); rintro e wq2 ⟨rfl, hq2⟩))
              have hbt : Below wi.heap.size wi wq2 := by repeat (first | (with_reducible exact Below.refl _ _) | (with_reducible refine below_dr ?_) | (with_reducible refine below_tr ?_ (by assumption)))
              have F3 := Lib.hid (hF.out.keep hbt)
              clear hbt hq1 hq2 hf c0 c1 c2 c3 c4 d0 d1 d2 d3 d4 hF HTK HPAk
              go_wp2_with fail
              go_roundw
              case rel => exact ⟨k + 1, t, by omega, by go_num, rfl, by omega, by omega, ⟨_, rfl⟩, HN, F3⟩
              case measure => simp [intOf]; omega
          · have hkz : ¬ (k : Int) < 16 := by omega
            obtain rfl : k = c := by omega
            go_wp2_with fail
            go_ret2
            exact ⟨by rw [hT.out]; rfl, hF.out.below⟩
      · go_enter Try.func31, Try.ntmps31
        go_wp2_with fail
        refine (HC1.out _ F0.out.below).mono ?_
        rintro e w1 ⟨rfl, hb⟩
        have F1 := Lib.hid (F0.out.keep hb)
        clear hb F0 HC1 c0 c1 c2 c3 c4 d0 d1 d2 d3 d4
        obtain ⟨d0, d1, d2, d3, d4⟩ := four_cells F1.out.two
        go_wp2_with fail
        refine (HC2.out _ F1.out.below).mono ?_
        rintro e w2 ⟨rfl, hb⟩
        have F2 := Lib.hid (F1.out.keep hb)
        clear hb F1 HC2 d0 d1 d2 d3 d4
        obtain ⟨c0, c1, c2, c3, c4⟩ := four_cells F2.out.one
        obtain ⟨d0, d1, d2, d3, d4⟩ := four_cells F2.out.two
        go_wp2_with fail
        clear c0 c1 c2 c3 c4 d0 d1 d2 d3 d4
        go_loopw [7, 8, 25] (fun s z8 j wr => ∃ k : Nat, ∃ t : Int, k ≤ c ∧ j = .int .i64 (k : Nat) ∧ s = .int .i64 t ∧ 0 ≤ t ∧ t ≤ 156816 ∧ (∃ z, z8 = z) ∧ Hid (t = mx G k) ∧ Hid (Gg w wr #[.int .i64 2, .int .i64 (Y1 : Int), .slice va vn vc, .slice ua un uc] #[.int .i64 1, .int .i64 (Y2 : Int), .slice va' vn' vc', .slice ua' un' uc'])) (fun _ _ j _ => c - (intOf j).toNat)
        case atStart => exact ⟨0, 0, Nat.zero_le _, rfl, rfl, by omega, by omega, ⟨_, rfl⟩, Lib.hid rfl, F2⟩
        case round =>
          clear F2
          obtain ⟨k, t, hk, rfl, rfl, ht0, ht1, ⟨z8, rfl⟩, hT, hF⟩ := hrel
          obtain ⟨wi, rfl⟩ : ∃ wi : World, wi = wr := ⟨_, rfl⟩
          by_cases hlt : k < c
          · have hkz : (k : Int) < 16 := by omega
            obtain ⟨c0, c1, c2, c3, c4⟩ := four_cells hF.out.one
            obtain ⟨d0, d1, d2, d3, d4⟩ := four_cells hF.out.two
            have HPAk := Lib.hid (HPA.out k)
            obtain ⟨pz, hpz⟩ : ∃ pz, G k = pz := ⟨_, rfl⟩
            have hpb := HG0.out k
            have HTK := Lib.hid (HTS.out k)
            rw [hpz] at HTK hpb
            have HPZ := Lib.hid hpz
            clear hpz
            by_cases hmx : t < pz
            · skip
              have HN := Lib.hid (mx_yes hT.out HPZ.out hmx)
              have hmm : max t pz = pz := by omega
              go_wp2_with fail
              go_region_held3 (fun w' => w'.cell? ⟨w.heap.size, 0, none⟩ = some (.int .i64 2) ∧ w'.cell? ⟨w.heap.size, 1, none⟩ = some (.int .i64 (Y1 : Int)) ∧ w'.cell? ⟨w.heap.size, 2, none⟩ = some (.slice va vn vc) ∧ w'.cell? ⟨w.heap.size, 3, none⟩ = some (.slice ua un uc) ∧ w'.cell? ⟨w.heap.size + 1, 0, none⟩ = some (.int .i64 1) ∧ w'.cell? ⟨w.heap.size + 1, 1, none⟩ = some (.int .i64 (Y2 : Int)) ∧ w'.cell? ⟨w.heap.size + 1, 2, none⟩ = some (.slice va' vn' vc') ∧ w'.cell? ⟨w.heap.size + 1, 3, none⟩ = some (.slice ua' un' uc') ∧ Below wi.heap.size wi w')
                (((with_reducible refine held8 c0 c1 c2 c3 d0 d1 d2 d3 ?_); repeat (first | (with_reducible exact Below.refl _ _) | (with_reducible refine below_dr ?_) | (with_reducible refine below_tr ?_ (by assumption)))))
                (first
                  | (go_at_call 91; (with_reducible refine (HPAk.out _).mono ?_); rintro e wq1 ⟨fv, rfl, hf, hq1⟩)
                  | (go_at_call 90; (with_reducible refine (HTK.out _ _ (below_tr hF.out.below ?_) ?_).mono ?_); (repeat (first | (with_reducible exact Below.refl _ _) | (with_reducible refine below_dr ?_) | (with_reducible refine below_tr ?_ (by assumption)))); (exact hf.ints); rintro e wq2 ⟨rfl, hq2⟩))
              have hbt : Below wi.heap.size wi wq2 := by repeat (first | (with_reducible exact Below.refl _ _) | (with_reducible refine below_dr ?_) | (with_reducible refine below_tr ?_ (by assumption)))
              have F3 := Lib.hid (hF.out.keep hbt)
              clear hbt hq1 hq2 hf c0 c1 c2 c3 c4 d0 d1 d2 d3 d4 hF HTK HPAk
              go_wp2_with fail
              go_roundw
              case rel => exact ⟨k + 1, pz, by omega, by go_num, rfl, by omega, by omega, ⟨_, rfl⟩, HN, F3⟩
              case measure => simp [intOf]; omega
            · skip
              have HN := Lib.hid (mx_no hT.out HPZ.out hmx)
              have hmm : max t pz = t := by omega
              go_wp2_with fail
              go_region_held3 (fun w' => w'.cell? ⟨w.heap.size, 0, none⟩ = some (.int .i64 2) ∧ w'.cell? ⟨w.heap.size, 1, none⟩ = some (.int .i64 (Y1 : Int)) ∧ w'.cell? ⟨w.heap.size, 2, none⟩ = some (.slice va vn vc) ∧ w'.cell? ⟨w.heap.size, 3, none⟩ = some (.slice ua un uc) ∧ w'.cell? ⟨w.heap.size + 1, 0, none⟩ = some (.int .i64 1) ∧ w'.cell? ⟨w.heap.size + 1, 1, none⟩ = some (.int .i64 (Y2 : Int)) ∧ w'.cell? ⟨w.heap.size + 1, 2, none⟩ = some (.slice va' vn' vc') ∧ w'.cell? ⟨w.heap.size + 1, 3, none⟩ = some (.slice ua' un' uc') ∧ Below wi.heap.size wi w')
                (((with_reducible refine held8 c0 c1 c2 c3 d0 d1 d2 d3 ?_); repeat (first | (with_reducible exact Below.refl _ _) | (with_reducible refine below_dr ?_) | (with_reducible refine below_tr ?_ (by assumption)))))
                (first
                  | (go_at_call 91; (with_reducible refine (HPAk.out _).mono ?_); rintro e wq1 ⟨fv, rfl, hf, hq1⟩)
                  | (go_at_call 90; (with_reducible refine (HTK.out _ _ (below_tr hF.out.below ?_) ?_).mono ?_); (repeat (first | (with_reducible exact Below.refl _ _) | (with_reducible refine below_dr ?_) | (with_reducible refine below_tr ?_ (by assumption)))); (exact hf.ints); rintro e wq2 ⟨rfl, hq2⟩))
              have hbt : Below wi.heap.size wi wq2 := by repeat (first | (with_reducible exact Below.refl _ _) | (with_reducible refine below_dr ?_) | (with_reducible refine below_tr ?_ (by assumption)))
              have F3 := Lib.hid (hF.out.keep hbt)
              clear hbt hq1 hq2 hf c0 c1 c2 c3 c4 d0 d1 d2 d3 d4 hF HTK HPAk
              go_wp2_with fail
              go_roundw
              case rel => exact ⟨k + 1, t, by omega, by go_num, rfl, by omega, by omega, ⟨_, rfl⟩, HN, F3⟩
              case measure => simp [intOf]; omega
          · have hkz : ¬ (k : Int) < 16 := by omega
            obtain rfl : k = c := by omega
            go_wp2_with fail
            go_ret2
            exact ⟨by rw [hT.out]; rfl, hF.out.below⟩
      · go_enter Try.func31, Try.ntmps31
        go_wp2_with fail
        refine (HC1.out _ F0.out.below).mono ?_
        rintro e w1 ⟨rfl, hb⟩
        have F1 := Lib.hid (F0.out.keep hb)
        clear hb F0 HC1 c0 c1 c2 c3 c4 d0 d1 d2 d3 d4
        obtain ⟨d0, d1, d2, d3, d4⟩ := four_cells F1.out.two
        go_wp2_with fail
        refine (HC2.out _ F1.out.below).mono ?_
        rintro e w2 ⟨rfl, hb⟩
        have F2 := Lib.hid (F1.out.keep hb)
        clear hb F1 HC2 d0 d1 d2 d3 d4
        obtain ⟨c0, c1, c2, c3, c4⟩ := four_cells F2.out.one
        obtain ⟨d0, d1, d2, d3, d4⟩ := four_cells F2.out.two
        go_wp2_with fail
        clear c0 c1 c2 c3 c4 d0 d1 d2 d3 d4
        go_loopw [7, 8, 25] (fun s z8 j wr => ∃ k : Nat, ∃ t : Int, k ≤ c ∧ j = .int .i64 (k : Nat) ∧ s = .int .i64 t ∧ 0 ≤ t ∧ t ≤ 156816 ∧ (∃ z, z8 = z) ∧ Hid (t = mx G k) ∧ Hid (Gg w wr #[.int .i64 2, .int .i64 (Y1 : Int), .slice va vn vc, .slice ua un uc] #[.int .i64 2, .int .i64 (Y2 : Int), .slice va' vn' vc', .slice ua' un' uc'])) (fun _ _ j _ => c - (intOf j).toNat)
        case atStart => exact ⟨0, 0, Nat.zero_le _, rfl, rfl, by omega, by omega, ⟨_, rfl⟩, Lib.hid rfl, F2⟩
        case round =>
          clear F2
          obtain ⟨k, t, hk, rfl, rfl, ht0, ht1, ⟨z8, rfl⟩, hT, hF⟩ := hrel
          obtain ⟨wi, rfl⟩ : ∃ wi : World, wi = wr := ⟨_, rfl⟩
          by_cases hlt : k < c
          · have hkz : (k : Int) < 256 := by omega
            obtain ⟨c0, c1, c2, c3, c4⟩ := four_cells hF.out.one
            obtain ⟨d0, d1, d2, d3, d4⟩ := four_cells hF.out.two
            have HPAk := Lib.hid (HPA.out k)
            obtain ⟨pz, hpz⟩ : ∃ pz, G k = pz := ⟨_, rfl⟩
            have hpb := HG0.out k
            have HTK := Lib.hid (HTS.out k)
            rw [hpz] at HTK hpb
            have HPZ := Lib.hid hpz
            clear hpz
            by_cases hmx : t < pz
            · skip
              have HN := Lib.hid (mx_yes hT.out HPZ.out hmx)
              have hmm : max t pz = pz := by omega
              go_wp2_with fail
              go_region_held3 (fun w' => w'.cell? ⟨w.heap.size, 0, none⟩ = some (.int .i64 2) ∧ w'.cell? ⟨w.heap.size, 1, none⟩ = some (.int .i64 (Y1 : Int)) ∧ w'.cell? ⟨w.heap.size, 2, none⟩ = some (.slice va vn vc) ∧ w'.cell? ⟨w.heap.size, 3, none⟩ = some (.slice ua un uc) ∧ w'.cell? ⟨w.heap.size + 1, 0, none⟩ = some (.int .i64 2) ∧ w'.cell? ⟨w.heap.size + 1, 1, none⟩ = some (.int .i64 (Y2 : Int)) ∧ w'.cell? ⟨w.heap.size + 1, 2, none⟩ = some (.slice va' vn' vc') ∧ w'.cell? ⟨w.heap.size + 1, 3, none⟩ = some (.slice ua' un' uc') ∧ Below wi.heap.size wi w')
                (((with_reducible refine held8 c0 c1 c2 c3 d0 d1 d2 d3 ?_); repeat (first | (with_reducible exact Below.refl _ _) | (with_reducible refine below_dr ?_) | (with_reducible refine below_tr ?_ (by assumption)))))
                (first
                  | (go_at_call 91; (with_reducible refine (HPAk.out _).mono ?_); rintro e wq1 ⟨fv, rfl, hf, hq1⟩)
                  | (go_at_call 90; (with_reducible refine (HTK.out _ _ (below_tr hF.out.below ?_) ?_).mono ?_); (repeat (first | (with_reducible exact Below.refl _ _) | (with_reducible refine below_dr ?_) | (with_reducible refine below_tr ?_ (by assumption)))); (exact hf.ints); rintro e wq2 ⟨rfl, hq2⟩))
              have hbt : Below wi.heap.size wi wq2 := by repeat (first | (with_reducible exact Below.refl _ _) | (with_reducible refine below_dr ?_) | (with_reducible refine below_tr ?_ (by assumption)))
              have F3 := Lib.hid (hF.out.keep hbt)
              clear hbt hq1 hq2 hf c0 c1 c2 c3 c4 d0 d1 d2 d3 d4 hF HTK HPAk
              go_wp2_with fail
              go_roundw
              case rel => exact ⟨k + 1, pz, by omega, by go_num, rfl, by omega, by omega, ⟨_, rfl⟩, HN, F3⟩
              case measure => simp [intOf]; omega
            · skip
              have HN := Lib.hid (mx_no hT.out HPZ.out hmx)
              have hmm : max t pz = t := by omega
              go_wp2_with fail
              go_region_held3 (fun w' => w'.cell? ⟨w.heap.size, 0, none⟩ = some (.int .i64 2) ∧ w'.cell? ⟨w.heap.size, 1, none⟩ = some (.int .i64 (Y1 : Int)) ∧ w'.cell? ⟨w.heap.size, 2, none⟩ = some (.slice va vn vc) ∧ w'.cell? ⟨w.heap.size, 3, none⟩ = some (.slice ua un uc) ∧ w'.cell? ⟨w.heap.size + 1, 0, none⟩ = some (.int .i64 2) ∧ w'.cell? ⟨w.heap.size + 1, 1, none⟩ = some (.int .i64 (Y2 : Int)) ∧ w'.cell? ⟨w.heap.size + 1, 2, none⟩ = some (.slice va' vn' vc') ∧ w'.cell? ⟨w.heap.size + 1, 3, none⟩ = some (.slice ua' un' uc') ∧ Below wi.heap.size wi w')
                (((with_reducible refine held8 c0 c1 c2 c3 d0 d1 d2 d3 ?_); repeat (first | (with_reducible exact Below.refl _ _) | (with_reducible refine below_dr ?_) | (with_reducible refine below_tr ?_ (by assumption)))))
                (first
                  | (go_at_call 91; (with_reducible refine (HPAk.out _).mono ?_); rintro e wq1 ⟨fv, rfl, hf, hq1⟩)
                  | (go_at_call 90; (with_reducible refine (HTK.out _ _ (below_tr hF.out.below ?_) ?_).mono ?_); (repeat (first | (with_reducible exact Below.refl _ _) | (with_reducible refine below_dr ?_) | (with_reducible refine below_tr ?_ (by assumption)))); (exact hf.ints); rintro e wq2 ⟨rfl, hq2⟩))
              have hbt : Below wi.heap.size wi wq2 := by repeat (first | (with_reducible exact Below.refl _ _) | (with_reducible refine below_dr ?_) | (with_reducible refine below_tr ?_ (by assumption)))
              have F3 := Lib.hid (hF.out.keep hbt)
              clear hbt hq1 hq2 hf c0 c1 c2 c3 c4 d0 d1 d2 d3 d4 hF HTK HPAk
              go_wp2_with fail
              go_roundw
              case rel => exact ⟨k + 1, t, by omega, by go_num, rfl, by omega, by omega, ⟨_, rfl⟩, HN, F3⟩
              case measure => simp [intOf]; omega
          · have hkz : ¬ (k : Int) < 256 := by omega
            obtain rfl : k = c := by omega
            go_wp2_with fail
            go_ret2
            exact ⟨by rw [hT.out]; rfl, hF.out.below⟩
    · rw [smallB_no hs2] at HC2
      rw [res_no (fun q => hs2 ⟨q.2.1, q.2.2.2.2.1, q.2.2.2.2.2⟩)]
      clear hs1 hs2 H1 H2
      go_enter Try.func31, Try.ntmps31
      go_wp2_with fail
      refine (HC1.out _ F0.out.below).mono ?_
      rintro e w1 ⟨rfl, hb⟩
      have F1 := Lib.hid (F0.out.keep hb)
      clear hb F0 HC1 c0 c1 c2 c3 c4 d0 d1 d2 d3 d4
      obtain ⟨d0, d1, d2, d3, d4⟩ := four_cells F1.out.two
      go_wp2_with fail
      refine (HC2.out _ F1.out.below).mono ?_
      rintro e w2 ⟨rfl, hb⟩
      have F2 := Lib.hid (F1.out.keep hb)
      clear hb F1 HC2 d0 d1 d2 d3 d4
      go_wp2_with fail
      go_ret2
      exact ⟨rfl, F2.out.below⟩
  · rw [smallB_no hs1] at HC1
    rw [res_no (fun q => hs1 ⟨q.1, q.2.2.1, q.2.2.2.1⟩)]
    clear hs1 H1 H2
    go_enter Try.func31, Try.ntmps31
    go_wp2_with fail
    refine (HC1.out _ F0.out.below).mono ?_
    rintro e w1 ⟨rfl, hb⟩
    have F1 := Lib.hid (F0.out.keep hb)
    clear hb F0 HC1 c0 c1 c2 c3 c4 d0 d1 d2 d3 d4
    go_wp2_with fail
    go_ret2
    exact ⟨rfl, F1.out.below⟩

end Go.Proofs.Ytimfnhejiiagmaa.bvp
