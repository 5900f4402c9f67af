/- twinScore of the program. -/
import Derived.Test.YtimfnhejiiagmaaBvw
namespace Go.Proofs.Ytimfnhejiiagmaa.bvs
open Go.RowKit Go.Deep Go.Proofs.Ytimfnhejiiagmaa.base
open Go.Proofs.Ytimfnhejiiagmaa.ints (ret_int)
open Go.Proofs.Ytimfnhejiiagmaa.gval (okGame)
open Go.Proofs.Ytimfnhejiiagmaa.prs
open Go.Proofs.Ytimfnhejiiagmaa.prt (two_cells)
open Go.Proofs.Ytimfnhejiiagmaa.bvm Go.Proofs.Ytimfnhejiiagmaa.bvt Go.Proofs.Ytimfnhejiiagmaa.bvw

/-- two Games in memory of the call's own -/
structure Gg (w wr : World) (g h : Array Value) : Prop where
  below : Below w.heap.size w wr
  one : Blk wr w.heap.size 40 g
  two : Blk wr (w.heap.size + 1) 40 h
theorem Gg.keep {w wr w' : World} {g h : Array Value} (k : Gg w wr g h) (hb : Below wr.heap.size wr w') : Gg w w' g h := ⟨below_tr k.below hb, k.one.below hb, k.two.below hb⟩
theorem Gg.start (w : World) (g h : Array Value) : Gg w ((w.alloc (.cells g 40)).alloc (.cells h 40)) g h :=
  ⟨below_al (below_al (Below.refl _ _) _) _, (Blk.new _ _ _).alloc _, by
    have := Blk.new (w.alloc (.cells g 40)) 40 h
    simpa using this⟩
theorem mx_yes {g : Nat → Int} {k : Nat} {m z : Int} (hm : m = mx g k) (hz : g k = z) (h : m < z) : z = mx g (k + 1) := by
  subst hm hz; show _ = if mx g k < g k then g k else mx g k; rw [if_pos h]
theorem mx_no {g : Nat → Int} {k : Nat} {m z : Int} (hm : m = mx g k) (hz : g k = z) (h : ¬ m < z) : m = mx g (k + 1) := by
  subst hm hz; show _ = if mx g k < g k then g k else mx g k; rw [if_neg h]


set_option maxRecDepth 100000 in
set_option maxHeartbeats 8000000 in
theorem tscore (X1 Y1 X2 Y2 : Nat) (v : Value) (ws : List Int) (u : Value) (xss : List (List Int)) (v' : Value) (vs : List Int) (u' : Value) (yss : List (List Int)) (fv : Value) (L : List Int) (w : World)
    (h : game.GV w v ws u xss) (h' : game.GV w v' vs u' yss) (hf : Ints w fv L) (hok : okTwo X1 Y1 X2 Y2 ws xss vs yss) (hL : L.length = 2 * (X1 * X2)) (hb : ∀ k, L.getD k 0 = 0 ∨ L.getD k 0 = 1) :
    Calls Try.prog 90 #[.agg #[.int .i64 (X1 : Int), .int .i64 (Y1 : Int), v, u], .agg #[.int .i64 (X2 : Int), .int .i64 (Y2 : Int), v', u'], fv] w
      fun e w' => e = .returned (.int .i64 (tot X1 Y1 X2 Y2 ws xss vs yss (fun i => L.getD (2 * i) 0) (fun i => L.getD (2 * i + 1) 0) (Y1 * Y2))) ∧ Below w.heap.size w w' := by
  have HWT := Lib.hid (fun W q r (hW : Below w.heap.size w W) => weight X1 Y1 X2 Y2 v ws u xss v' vs u' yss fv L q r W (h.below hW) (h'.below hW) (hf.below hW) hok hL hb)
  obtain ⟨ok1, ok2, x2, y2, x2', y2'⟩ := hok
  have hXX : X1 * X2 ≤ 4 := mul4 (by omega) (by omega)
  have hYY : Y1 * Y2 ≤ 4 := mul4 (by omega) (by omega)
  have hY0 : 0 < Y1 * Y2 := Nat.mul_pos (by have := ok1.1.2; omega) (by have := ok2.1.2; omega)
  have HPB := Lib.hid (fun q r => part_bd X1 Y1 X2 Y2 ws xss vs yss ok1 ok2 (fun i => L.getD (2 * i) 0) (fun i => L.getD (2 * i + 1) 0) q r _ hXX)
  have HBB := Lib.hid (fun q n => best_bd X1 Y1 X2 Y2 ws xss vs yss ok1 ok2 hXX (fun i => L.getD (2 * i) 0) (fun i => L.getD (2 * i + 1) 0) q n)
  have HTB := Lib.hid (fun n => tot_bd X1 Y1 X2 Y2 ws xss vs yss ok1 ok2 hXX (fun i => L.getD (2 * i) 0) (fun i => L.getD (2 * i + 1) 0) n)
  have HT1 := Lib.hid (twins Y1 Y2 (by omega) (by omega))
  have HT2 : Hid (∀ W, Calls Try.prog 153 #[.int .i64 2, .int .i64 2] W fun e w' => ∃ u, e = .returned u ∧ OwnPairs w' W.heap.size w'.heap.size u (tw 2 4) ∧ Below W.heap.size W w') := Lib.hid (fun W => twins 2 2 (by omega) (by omega) W)
  obtain ⟨va, vn, vc, ua, un, uc, rfl, rfl⟩ := h.shape
  obtain ⟨va', vn', vc', ua', un', uc', rfl, rfl⟩ := h'.shape
  obtain ⟨fa, fn, fc, rfl⟩ := hf.shape
  obtain ⟨g, hg⟩ : ∃ g : Array Value, #[.int .i64 (X1 : Int), .int .i64 (Y1 : Int), .slice va vn vc, .slice ua un uc] = g := ⟨_, rfl⟩
  obtain ⟨g', hg'⟩ : ∃ g' : Array Value, #[.int .i64 (X2 : Int), .int .i64 (Y2 : Int), .slice va' vn' vc', .slice ua' un' uc'] = g' := ⟨_, rfl⟩
  have F0 := Lib.hid (Gg.start w #[.int .i64 (X1 : Int), .int .i64 (Y1 : Int), .slice va vn vc, .slice ua un uc] #[.int .i64 (X2 : Int), .int .i64 (Y2 : Int), .slice va' vn' vc', .slice ua' un' uc'])
  have HYY := Lib.hid hYY
  have HY0 := Lib.hid hY0
  have hy4 : ((Y1 * Y2 : Nat) : Int) ≤ 4 := by omega
  obtain ⟨P, hP⟩ : ∃ P : Nat → Nat → Int, (fun q r => bvm.part Y1 X2 Y2 ws xss vs yss (fun i => L.getD (2 * i) 0) (fun i => L.getD (2 * i + 1) 0) q r (X1 * X2)) = P := ⟨_, rfl⟩
  have HWP : Hid (∀ W q r, Below w.heap.size w W → q < Y1 * Y2 → r < 4 → Calls Try.prog 154 #[.agg #[.int .i64 (X1 : Int), .int .i64 (Y1 : Int), .slice va vn vc, .slice ua un uc], .agg #[.int .i64 (X2 : Int), .int .i64 (Y2 : Int), .slice va' vn' vc', .slice ua' un' uc'], .slice fa fn fc, .agg #[.int .i64 ((q / Y2 : Nat) : Int), .int .i64 ((q % Y2 : Nat) : Int)], .agg #[.int .i64 ((r / 2 : Nat) : Int), .int .i64 ((r % 2 : Nat) : Int)]] W
      fun e w' => e = .returned (.int .i64 (P q r)) ∧ Below W.heap.size W w') := Lib.hid (fun W q r hW hq hr => by subst hP; exact HWT.out W q r hW hq hr)
  have HPP : Hid (∀ q r, 0 ≤ P q r ∧ P q r ≤ 39204) := Lib.hid (by subst hP; exact HPB.out)
  have HBM : Hid (∀ q n, bvm.best X1 Y1 X2 Y2 ws xss vs yss (fun i => L.getD (2 * i) 0) (fun i => L.getD (2 * i + 1) 0) q n = mx (P q) n) := Lib.hid (fun q n => by subst hP; rfl)
  have HBX : Hid (∀ q n, 0 ≤ mx (P q) n ∧ mx (P q) n ≤ 39204) := Lib.hid (fun q n => by rw [← HBM.out]; exact HBB.out q n)
  have HTM : Hid (∀ n, tot X1 Y1 X2 Y2 ws xss vs yss (fun i => L.getD (2 * i) 0) (fun i => L.getD (2 * i + 1) 0) n = worth.cum (fun q => mx (P q) 4) n) := Lib.hid (fun n => by subst hP; rfl)
  have HTX : Hid (∀ n, n ≤ 4 → 0 ≤ worth.cum (fun q => mx (P q) 4) n ∧ worth.cum (fun q => mx (P q) 4) n ≤ 156816) := Lib.hid (fun n hn => by rw [← HTM.out]; exact HTB.out n hn)
  rw [HTM.out]
  clear hg hg' HPB HBB HTB HWT h h' hf ok1 ok2 x2 y2 x2' y2' hXX hYY hY0 hb hL HTM HBM hP
  go_enter Try.func90, Try.ntmps90
  obtain ⟨c0, c1, c2, c3, c4⟩ := four_cells F0.out.one
  obtain ⟨d0, d1, d2, d3, d4⟩ := four_cells F0.out.two
  go_wp2_with fail
  refine (HT1.out _).mono ?_
  rintro e w1 ⟨ut, rfl, hut, hb1⟩
  have F1 := Lib.hid (F0.out.keep hb1)
  obtain ⟨ta, tn, tc, rfl⟩ := hut.pairs.shape
  obtain ⟨tb, to, rfl, hn, hn2, hn3, htc⟩ := pairAt hut.pairs (by rw [len_tw]; exact HY0.out)
  rw [len_tw] at hn
  subst hn
  have HTC : Hid (∀ k, k < Y1 * Y2 → w1.cell? ⟨tb, to + k * 2, none⟩ = some (.int .i64 ((k / Y2 : Nat) : Int)) ∧ w1.cell? ⟨tb, to + k * 2 + 1, none⟩ = some (.int .i64 ((k % Y2 : Nat) : Int))) := Lib.hid (fun k hk => by
    have := htc k (by rw [len_tw]; exact hk)
    rw [get_tw] at this
    exact this)
  clear hut hb1 F0 c0 c1 c2 c3 c4 d0 d1 d2 d3 d4 HT1 htc hn2 hn3
  go_wp2_with fail
  go_loopw [7, 9, 10, 12, 19] (fun s z9 z10 z12 j wr => ∃ q : Nat, ∃ m : Int, q ≤ Y1 * Y2 ∧ j = .int .i64 (q : Nat) ∧ s = .int .i64 m ∧ 0 ≤ m ∧ m ≤ 156816 ∧ (∃ z, z9 = z) ∧ (∃ z, z10 = z) ∧ (∃ z, z12 = z) ∧ Hid (m = worth.cum (fun q => mx (P q) 4) q) ∧ Hid (Below w1.heap.size w1 wr) ∧ Hid (Gg w wr #[.int .i64 (X1 : Int), .int .i64 (Y1 : Int), .slice va vn vc, .slice ua un uc] #[.int .i64 (X2 : Int), .int .i64 (Y2 : Int), .slice va' vn' vc', .slice ua' un' uc'])) (fun _ _ _ _ j _ => Y1 * Y2 - (intOf j).toNat)
  case atStart => exact ⟨0, 0, Nat.zero_le _, rfl, rfl, by omega, by omega, ⟨_, rfl⟩, ⟨_, rfl⟩, ⟨_, rfl⟩, Lib.hid rfl, Below.refl _ _, F1⟩
  case round =>
    clear F1
    obtain ⟨q, m, hq, rfl, rfl, hm0, hm1, ⟨z9, rfl⟩, ⟨z10, rfl⟩, ⟨z12, rfl⟩, hM, hB, hF⟩ := hrel
    obtain ⟨wo, rfl⟩ : ∃ wo : World, wo = wr := ⟨_, rfl⟩
    by_cases hlt : q < Y1 * Y2
    · have hkz : (q : Int) < ((Y1 * Y2 : Nat) : Int) := by omega
      obtain ⟨t0, t1⟩ := HTC.out q hlt
      have t0 := below_cell hB.out _ _ t0
      have t1 := below_cell hB.out _ _ t1
      have HS : Hid (worth.cum (fun q => mx (P q) 4) (q + 1) = m + mx (P q) 4) := Lib.hid (by rw [hM.out]; rfl)
      have hbb := HTX.out (q + 1) (by have := HYY.out; omega)
      rw [HS.out] at hbb
      have HBQ := Lib.hid (HBX.out q)
      have HWQ := Lib.hid (fun W r hW hr => HWP.out W q r hW hlt hr)
      have HLT := Lib.hid hlt
      generalize ((q / Y2 : Nat) : Int) = y at t0 HWQ
      generalize ((q % Y2 : Nat) : Int) = z at t1 HWQ
      have o1 := below_al (Below.refl wo.heap.size wo) (.cells #[.int .i64 y, .int .i64 z] 167)
      have F2 := Lib.hid (hF.out.keep o1)
      have B2 := Lib.hid (below_tr hB.out o1)
      have KX := Lib.hid (Blk.new wo 167 #[.int .i64 y, .int .i64 z])
      clear o1 hB hF
      go_wp2_with fail
      clear t0 t1
      refine (HT2.out _).mono ?_
      rintro e w2 ⟨ur, rfl, hur, hb2⟩
      have F3 := Lib.hid (F2.out.keep hb2)
      have B3 := Lib.hid (below_tr B2.out hb2)
      have KX3 := Lib.hid (KX.out.below hb2)
      obtain ⟨ra, rn, rc, rfl⟩ := hur.pairs.shape
      obtain ⟨rb, ro, rfl, hn, hn2, hn3, hrc⟩ := pairAt hur.pairs (by rw [len_tw]; omega)
      rw [len_tw] at hn
      subst hn
      have HRC : Hid (∀ k, k < 4 → w2.cell? ⟨rb, ro + k * 2, none⟩ = some (.int .i64 ((k / 2 : Nat) : Int)) ∧ w2.cell? ⟨rb, ro + k * 2 + 1, none⟩ = some (.int .i64 ((k % 2 : Nat) : Int))) := Lib.hid (fun k hk => by
        have := hrc k (by rw [len_tw]; exact hk)
        rw [get_tw] at this
        exact this)
      clear hur hb2 F2 B2 KX hrc hn2 hn3
      go_wp2_with fail
      go_loopw [10, 12, 25] (fun bv z12 j wr => ∃ r : Nat, ∃ t : Int, r ≤ 4 ∧ j = .int .i64 (r : Nat) ∧ bv = .int .i64 t ∧ 0 ≤ t ∧ t ≤ 39204 ∧ (∃ z, z12 = z) ∧ Hid (t = mx (P q) r) ∧ Hid (Below w2.heap.size w2 wr) ∧ Hid (Below w1.heap.size w1 wr) ∧ Hid (Blk wr wo.heap.size 167 #[.int .i64 y, .int .i64 z]) ∧ Hid (Gg w wr #[.int .i64 (X1 : Int), .int .i64 (Y1 : Int), .slice va vn vc, .slice ua un uc] #[.int .i64 (X2 : Int), .int .i64 (Y2 : Int), .slice va' vn' vc', .slice ua' un' uc'])) (fun _ _ j _ => 4 - (intOf j).toNat)
      case atStart => exact ⟨0, 0, Nat.zero_le _, rfl, rfl, by omega, by omega, ⟨_, rfl⟩, Lib.hid rfl, Below.refl _ _, B3, KX3, F3⟩
      case round =>
        clear F3 B3 KX3
        obtain ⟨r, t, hr, rfl, rfl, ht0, ht1, ⟨z12, rfl⟩, hT, hB2, hB1, hK, hF⟩ := hrel
        obtain ⟨wi, rfl⟩ : ∃ wi : World, wi = wr := ⟨_, rfl⟩
        by_cases hlr : r < 4
        · have hkr : (r : Int) < 4 := by omega
          obtain ⟨t0, t1⟩ := HRC.out r hlr
          have t0 := below_cell hB2.out _ _ t0
          have t1 := below_cell hB2.out _ _ t1
          have HW := Lib.hid (fun W hW => HWQ.out W r hW hlr)
          obtain ⟨pz, hpz⟩ : ∃ pz, P q r = pz := ⟨_, rfl⟩
          have hpb := HPP.out q r
          rw [hpz] at HW hpb
          have HPZ := Lib.hid hpz
          generalize ((r / 2 : Nat) : Int) = b at t0 HW
          generalize ((r % 2 : Nat) : Int) = c at t1 HW
          have o1 := below_al (Below.refl wi.heap.size wi) (.cells #[.int .i64 b, .int .i64 c] 167)
          have F4 := Lib.hid (hF.out.keep o1)
          have B4 := Lib.hid (below_tr hB2.out o1)
          have A4 := Lib.hid (below_tr hB1.out o1)
          have K4 := Lib.hid (hK.out.below o1)
          have KR := Lib.hid (Blk.new wi 167 #[.int .i64 b, .int .i64 c])
          clear o1 hB2 hB1 hF hK hpz
          obtain ⟨c0, c1, c2, c3, _⟩ := four_cells F4.out.one
          obtain ⟨d0, d1, d2, d3, _⟩ := four_cells F4.out.two
          obtain ⟨e0, e1, _⟩ := two_cells K4.out
          obtain ⟨r0, r1, _⟩ := two_cells KR.out
          go_wp2_with fail
          refine (HW.out _ F4.out.below).mono ?_
          rintro e w5 ⟨rfl, hb5⟩
          have F5 := Lib.hid (F4.out.keep hb5)
          have B5 := Lib.hid (below_tr B4.out hb5)
          have A5 := Lib.hid (below_tr A4.out hb5)
          have K5 := Lib.hid (K4.out.below hb5)
          clear hb5 F4 B4 A4 K4 KR HW t0 t1 c0 c1 c2 c3 d0 d1 d2 d3 e0 e1 r0 r1
          by_cases hmx : t < pz
          · have HN := Lib.hid (mx_yes hT.out HPZ.out hmx)
            have hmm : max t pz = pz := by omega
            go_wp2_with fail
            go_roundw
            case rel => exact ⟨r + 1, pz, by omega, by go_num, rfl, by omega, by omega, ⟨_, rfl⟩, HN, B5, A5, K5, F5⟩
            case measure => simp [intOf]; omega
          · have HN := Lib.hid (mx_no hT.out HPZ.out hmx)
            have hmm : max t pz = t := by omega
            go_wp2_with fail
            go_roundw
            case rel => exact ⟨r + 1, t, by omega, by go_num, rfl, by omega, by omega, ⟨_, rfl⟩, HN, B5, A5, K5, F5⟩
            case measure => simp [intOf]; omega
        · have hkr : ¬ (r : Int) < 4 := by omega
          obtain rfl : r = 4 := by omega
          have HQS : Hid (m + t = worth.cum (fun q => mx (P q) 4) (q + 1)) := Lib.hid (by rw [HS.out, hT.out])
          rw [← hT.out] at hbb
          have hwt : IntKind.i64.wrap (m + t) = m + t := IntWalk.i64_in _ (by omega)
          go_wp2_with fail
          go_roundw
          case rel => exact ⟨q + 1, _, by have := HLT.out; omega, by go_num, rfl, by omega, by omega, ⟨_, rfl⟩, ⟨_, rfl⟩, ⟨_, rfl⟩, HQS, hB1, hF⟩
          case measure => have := HLT.out; simp [intOf]; omega
    · have hkz : ¬ (q : Int) < ((Y1 * Y2 : Nat) : Int) := by omega
      obtain rfl : q = Y1 * Y2 := by omega
      go_wp2_with fail
      go_ret
      exact ⟨ret_int hM.out, hF.out.below⟩

end Go.Proofs.Ytimfnhejiiagmaa.bvs
