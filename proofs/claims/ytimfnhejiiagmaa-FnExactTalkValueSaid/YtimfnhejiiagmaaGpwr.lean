/- playWithReply of the program. -/
import Derived.Test.YtimfnhejiiagmaaGbm
import Derived.Laws.CopyOwn
namespace Go.Proofs.Ytimfnhejiiagmaa.gpwr
open Go.RowKit Go.Deep Go.Proofs.Ytimfnhejiiagmaa.base
open Go.Proofs.Ytimfnhejiiagmaa.ints (ret_int infoInt)
open Go.Proofs.Ytimfnhejiiagmaa.val (okSizes)
open Go.Proofs.Ytimfnhejiiagmaa.gval (okGame)
open Go.Proofs.Ytimfnhejiiagmaa.play (within)
open Go.Proofs.Ytimfnhejiiagmaa.gscore (score)
open Go.Proofs.Ytimfnhejiiagmaa.gbm (stp rep)

/-- a row of integers known whole -/
def Row (w : World) (g : Nat) (p : List Int) : Prop := Blk w g 3 (i64s p).toArray
theorem Row.below {w w' : World} {g : Nat} {p : List Int} (h : Row w g p) (hb : Below w.heap.size w w') : Row w' g p := Blk.below h hb
theorem Row.own {w : World} {g n : Nat} {p : List Int} (h : Row w g p) (hn : p.length = n) (hm : n ≤ maxLen) : OwnInts w g (g + 1) (.slice (some ⟨g, 0, none⟩) n n) p := by
  subst hn
  refine ints.own_of_row (t := 3) (xs := p) ⟨(i64s p).toArray, h, by simp [i64s], fun i hi => ?_⟩ (Nat.le_refl _) (Nat.lt_succ_self _) hm
  simp [i64s, List.getD, hi]
/-- a part of the row from a place on -/
theorem Row.part {w : World} {g n k : Nat} {p : List Int} (h : Row w g p) (hn : p.length = n) (hk : k ≤ n) (hm : n ≤ maxLen) : OwnInts w g (g + 1) (.slice (some ⟨g, k, none⟩) (n - k) (n - k)) (p.drop k) := by
  have H := h.own hn hm
  have hl : (p.drop k).length = n - k := by simp [hn]
  refine ⟨⟨some ⟨g, k, none⟩, n - k, by rw [len_i64s, hl], by rw [len_i64s, hl]; exact Nat.le_refl _, by omega, fun j u hu => ⟨g, k, rfl, ?_⟩⟩, ?_, ?_, ?_⟩
  · have hj : j < n - k := by
      rcases Nat.lt_or_ge j (n - k) with q | q
      · exact q
      · rw [List.getElem?_eq_none (by rw [len_i64s, hl]; exact q)] at hu; cases hu
    obtain ⟨A, cap, hv, _, _, hc⟩ := H.ints
    injection hv with e1 e2 e3
    have hq : (i64s p)[k + j]? = some u := by
      rw [← hu]; simp [i64s, List.getElem?_drop]
    obtain ⟨b, o, hA, hcell⟩ := hc (k + j) u hq
    rw [← e1] at hA
    injection hA with hA
    injection hA with h1 h2
    rw [← h1, ← h2, Nat.zero_add] at hcell
    exact hcell
  · rintro q ⟨b, o, len, cap, hv, hb, _⟩
    injection hv with e1 e2 e3
    injection e1 with e1
    injection e1 with e1
    omega
  · rintro q ⟨b, o, len, cap, hv, hb, _⟩
    injection hv with e1 e2 e3
    injection e1 with e1
    injection e1 with e1
    omega
  · rintro ⟨pb, po, ps⟩ ⟨b, o, len, cap, hv, hb, hs, _⟩
    injection hv with e1 e2 e3
    injection e1 with e1
    injection e1 with e1
    simp at hb hs
    subst hb; subst hs; subst e1
    exact Joins.unfrozen_of_block h po
theorem made_zero (n : Nat) : madeCells #[.int .i64 0] n = (i64s (List.replicate n 0)).toArray := by
  apply Array.ext'
  simp [madeCells, i64s, Nat.mod_one, List.map_const']
theorem splice_all (p q : List Int) : splice (i64s q) 0 (i64s p) = i64s (p ++ q.drop p.length) := by
  simp [splice, i64s, List.map_drop]
theorem set_row {w : World} {g i : Nat} {p : List Int} (h : Row w g p) (z : Int) : Row (w.setCell ⟨g, i, none⟩ (.int .i64 z)) g (p.set i z) := by
  have := Joins.block_setCell (i := i) h (.int .i64 z)
  unfold Row Blk
  rw [this]
  congr 2
  apply Array.ext'
  simp [i64s, List.map_set]
theorem one_i64s (p : List Int) : ∀ v ∈ i64s p, v.oneCell' = true := fun v hv => by
  unfold i64s at hv
  obtain ⟨z, _, rfl⟩ := List.mem_map.1 hv
  rfl

set_option maxRecDepth 100000 in
set_option maxHeartbeats 4000000 in
theorem any (X Y : Nat) (v : Value) (ws : List Int) (u : Value) (xss : List (List Int)) (fv : Value) (f : List Int) (w : World) (h : game.GV w v ws u xss) (hf : Ints w fv f) (hok : okGame X Y ws xss) (hfl : within (X : Int) 0 1 f) :
    Calls Try.prog 204 #[.agg #[.int .i64 (X : Int), .int .i64 (Y : Int), v, u], fv] w fun e w' => ∃ g, e = .returned (.tuple #[.slice (some ⟨g, 0, none⟩) (X + Y) (X + Y), .int .i64 (score X Y ws xss (stp X Y ws xss f Y))]) ∧
      Row w' g (stp X Y ws xss f Y) ∧ w.heap.size ≤ g ∧ Below w.heap.size w w' := by
  obtain ⟨⟨hX1, hX2⟩, hY1, hY2⟩ := hok.1
  obtain ⟨va, vn, vc, ua, un, uc, rfl, rfl⟩ := h.shape
  have hlf : f.length = X := by have := hfl.1; omega
  have hbit : ∀ i, f.getD i 0 = 0 ∨ f.getD i 0 = 1 := fun i => by
    by_cases hi : i < f.length
    · have := hfl.2 i hi
      have e : f.getD i 0 = f[i] := by rw [List.getD_eq_getElem?_getD, List.getElem?_eq_getElem hi]; rfl
      rw [e]; omega
    · rw [List.getD_eq_getElem?_getD, List.getElem?_eq_none (by omega)]; left; rfl
  have hwi : ∀ p : List Int, p.length = X + Y → (∀ i, p.getD i 0 = 0 ∨ p.getD i 0 = 1) → within ((X : Int) + Y) 0 1 p := fun p hp hb => by
    refine ⟨by omega, fun i hi => ?_⟩
    have := hb i
    have e : p.getD i 0 = p[i] := by rw [List.getD_eq_getElem?_getD, List.getElem?_eq_getElem hi]; rfl
    rw [e] at this; omega
  have hsb : ∀ k i, (stp X Y ws xss f k).getD i 0 = 0 ∨ (stp X Y ws xss f k).getD i 0 = 1 := fun k i => by
    by_cases hi : i < X
    · rw [gbm.stp_lo X Y ws xss hlf k i hi]; exact hbit i
    · by_cases hi2 : i < X + Y
      · obtain ⟨y, rfl⟩ : ∃ y, i = X + y := ⟨i - X, by omega⟩
        rw [gbm.stp_hi X Y ws xss hlf k y (by omega)]
        split
        · exact gbm.rep_bit X Y ws xss f y
        · left; rfl
      · rw [List.getD_eq_getElem?_getD, List.getElem?_eq_none (by rw [gbm.len_stp X Y ws xss hlf]; omega)]; left; rfl
  have HSC : Hid (∀ (W : World) (g : Nat) (p : List Int), Below w.heap.size w W → Row W g p → p.length = X + Y → (∀ i, p.getD i 0 = 0 ∨ p.getD i 0 = 1) →
      Calls Try.prog 219 #[.agg #[.int .i64 (X : Int), .int .i64 (Y : Int), .slice va vn vc, .slice ua un uc], .slice (some ⟨g, 0, none⟩) (X + Y) (X + Y)] W fun e w' => e = .returned (.int .i64 (score X Y ws xss p)) ∧ Below W.heap.size W w') := Lib.hid (fun W g p hW hR hp hb =>
    gscore.scoreof X Y _ ws _ xss _ p W (h.below hW) (hR.own hp (by unfold maxLen; omega)).ints hok (hwi p hp hb))
  have HBD := Lib.hid (fun p => gscore.score_bd hok p (X * Y) (Nat.le_refl _))
  obtain ⟨FA, fb, fo, fcap, rfl, hfcap, hfmax, hFA, hfc⟩ := hf.form
  obtain rfl := hFA (by omega)
  have HFC := Lib.hid hfc
  have HLF := Lib.hid hlf
  have HSB := Lib.hid hsb
  have HLS := Lib.hid (fun k => gbm.len_stp X Y ws xss hlf k)
  have HYES := Lib.hid (fun k (hk : k < Y) => gbm.stp_yes X Y ws xss hlf hk)
  have HNO := Lib.hid (fun k (hk : k < Y) => gbm.stp_no X Y ws xss hlf hk)
  have HIFF := Lib.hid (fun k (hk : k < Y) => gbm.tried_iff X Y ws xss hlf hk)
  have HMK : Hid (∀ W : World, (Instr.makeSlice 34 (.int .i64 ((X + Y : Nat) : Int)) (.int .i64 ((X + Y : Nat) : Int))).run Try.prog W = .ok (.slice (some ⟨W.heap.size, 0, none⟩) (X + Y) (X + Y)) (W.alloc (.cells (i64s (List.replicate (X + Y) 0)).toArray 3))) := Lib.hid (fun W => by
    have := run_make_row' (P := Try.prog) 34 3 (.int .i64 0) 8 Try.underlying34 infoInt rfl .i64 .i64 (X + Y) (by omega) (by omega) W
    rw [made_zero] at this
    exact this)
  have hmk := HMK.out
  rw [Int.natCast_add] at hmk
  have K0 := Lib.hid (Blk.new w 40 #[.int .i64 (X : Int), .int .i64 (Y : Int), .slice va vn vc, .slice ua un uc])
  have B0 := Lib.hid (below_al (Below.refl w.heap.size w) (.cells #[.int .i64 (X : Int), .int .i64 (Y : Int), .slice va vn vc, .slice ua un uc] 40))
  have HZ : Hid (splice (i64s (List.replicate (X + Y) 0)) 0 (i64s f) = i64s (stp X Y ws xss f 0)) := Lib.hid (by
    rw [splice_all, gbm.stp_zero]
    congr 2
    simp [hlf])
  obtain ⟨CS, hCS⟩ : ∃ CS, CS = i64s f := ⟨_, rfl⟩
  obtain ⟨ZS, hZS⟩ : ∃ ZS, ZS = i64s (List.replicate (X + Y) 0) := ⟨_, rfl⟩
  have HCS := Lib.hid hCS
  have HZS := Lib.hid hZS
  have hfb : fb < w.heap.size := World.block_lt_of_cell? _ _ (hfc 0 (by omega))
  have HFB := Lib.hid hfb
  rw [← hZS] at hmk
  have HX1 : Hid (1 ≤ X) := Lib.hid (by omega)
  clear h hf hok hfl hlf hbit hwi hsb hfmax hfcap hfc hFA hCS hZS hfb
  go_enter Try.func204, Try.ntmps204
  go_wp2_with (with_reducible refine wpList_copy_splice rfl (.tmp 17) (.tmp 18) 34 34 rfl 3 Try.underlying34 (by kernel_rfl) (some ⟨w.heap.size + 1, 0, none⟩) (some ⟨fb, fo, none⟩) (X + Y) (X + Y) f.length fcap rfl rfl (w.heap.size + 1) 0 ZS 3 ?e1 CS ?e2 ?e3 ?e4 ?e5 (w.heap.size + 1) (w.alloc (.cells #[.int .i64 (X : Int), .int .i64 (Y : Int), .slice va vn vc, .slice ua un uc] 40)) ?e6 ?e7 ?_)
  case e1 =>
    have := heap_alloc_new (w.alloc (.cells #[.int .i64 (X : Int), .int .i64 (Y : Int), .slice va vn vc, .slice ua un uc] 40)) (.cells ZS.toArray 3)
    simpa using this
  case e2 => rw [HCS.out, len_i64s]; have := HLF.out; rw [this]; exact (Nat.min_eq_left (by omega)).symm
  case e3 =>
    intro h0
    first
      | (refine ⟨rfl, _, rfl, fun j v hj => ?_⟩
         rw [HCS.out] at hj
         have hk : j < f.length := by
           rcases Nat.lt_or_ge j f.length with q | q
           · exact q
           · rw [List.getElem?_eq_none (by rw [len_i64s]; exact q)] at hj; cases hj
         rw [get_i64s hk] at hj; injection hj with hj; subst hj
         exact below_cell (below_al (below_al (Below.refl w.heap.size w) _) _) _ _ (HFC.out j hk))
      | (intro j v hj
         rw [HCS.out] at hj
         have hk : j < f.length := by
           rcases Nat.lt_or_ge j f.length with q | q
           · exact q
           · rw [List.getElem?_eq_none (by rw [len_i64s]; exact q)] at hj; cases hj
         rw [get_i64s hk] at hj; injection hj with hj; subst hj
         exact below_cell (below_al (below_al (Below.refl w.heap.size w) _) _) _ _ (HFC.out j hk))
  case e4 => rw [HCS.out, HZS.out, len_i64s, len_i64s]; have := HLF.out; simp; omega
  case e5 => rw [HCS.out]; exact one_i64s f
  case e6 => exact (Below.refl _ _).alloc (by simp) _
  case e7 => exact Nat.le_refl _
  intro w1 HG1 hB1
  have R1 : Hid (Row w1 (w.heap.size + 1) (stp X Y ws xss f 0)) := Lib.hid (by
    have := HG1.out
    rw [HZS.out, HCS.out, HZ.out] at this
    exact this)
  have B1 : Hid (Below w.heap.size w w1) := Lib.hid (B0.out.trans (hB1.mono (by omega)))
  have K1 : Hid (Blk w1 w.heap.size 40 #[.int .i64 (X : Int), .int .i64 (Y : Int), .slice va vn vc, .slice ua un uc]) := Lib.hid (K0.out.belowB hB1 (by omega))
  clear HG1 hB1 K0
  obtain ⟨c0, c1, c2, c3, c4⟩ := four_cells K1.out
  go_wp2_with fail
  refine (HSC.out _ (w.heap.size + 1) _ B1.out R1.out (HLS.out 0) (HSB.out 0)).mono ?_
  rintro e w2 ⟨rfl, hb⟩
  have R2 := Lib.hid (R1.out.below hb)
  have K2 := Lib.hid (K1.out.below hb)
  have B2 := Lib.hid (below_tr B1.out hb)
  clear hb R1 K1 B1 c0 c1 c2 c3 c4
  obtain ⟨c0, c1, c2, c3, c4⟩ := four_cells K2.out
  obtain ⟨q0, hq0⟩ : ∃ q0, score X Y ws xss (stp X Y ws xss f 0) = q0 := ⟨_, rfl⟩
  have HQ0 := Lib.hid hq0
  rw [hq0]
  clear hq0
  go_wp2_with fail
  clear c0 c1 c2 c3 c4
  go_loopw [6, 7, 25] (fun pv sc i wr => ∃ k : Nat, k ≤ Y ∧ i = .int .i64 k ∧ ∃ g : Nat, pv = .slice (some ⟨g, 0, none⟩) (X + Y) (X + Y) ∧ ∃ q : Int, sc = .int .i64 q ∧ Hid (score X Y ws xss (stp X Y ws xss f k) = q) ∧ Hid (Row wr g (stp X Y ws xss f k) ∧ w.heap.size ≤ g) ∧ Hid (Below w.heap.size w wr) ∧ Hid (Blk wr w.heap.size 40 #[.int .i64 (X : Int), .int .i64 (Y : Int), .slice va vn vc, .slice ua un uc])) (fun _ _ i _ => Y - (intOf i).toNat)
  case atStart => exact ⟨0, Nat.zero_le _, rfl, _, rfl, _, rfl, HQ0, Lib.hid ⟨R2.out, by omega⟩, B2, K2⟩
  case round =>
    obtain ⟨k, hk, rfl, g, rfl, q, rfl, hQ, hR, hB, hK⟩ := hrel
    clear HQ0 R2 B2 K2
    obtain ⟨wi, rfl⟩ : ∃ wi : World, wi = wr := ⟨_, rfl⟩
    by_cases hlt : k < Y
    · have hkz : (k : Int) < (Y : Int) := by omega
      obtain ⟨PS, hPS⟩ : ∃ PS, PS = i64s (stp X Y ws xss f k) := ⟨_, rfl⟩
      have HPS := Lib.hid hPS
      clear hPS
      obtain ⟨c0, c1, c2, c3, c4⟩ := four_cells hK.out
      have hgl : g < wi.heap.size := hR.out.1.lt
      go_wp2_with (with_reducible refine wpList_copy_splice rfl (.tmp 31) (.tmp 32) 34 34 rfl 3 Try.underlying34 (by kernel_rfl) (some ⟨wi.heap.size, 0, none⟩) (some ⟨g, 0, none⟩) (X + Y) (X + Y) (X + Y) (X + Y) rfl rfl wi.heap.size 0 ZS 3 ?f1 PS ?f2 ?f3 ?f4 ?f5 wi.heap.size wi ?f6 ?f7 ?_)
      case f1 =>
        have := heap_alloc_new wi (.cells ZS.toArray 3)
        simpa using this
      case f2 => rw [HPS.out, len_i64s, HLS.out]; exact (Nat.min_self _).symm
      case f3 =>
        intro h0
        have hcl := hR.out.1
        have hget : ∀ (j : Nat) (v : Value), PS[j]? = some v → wi.cell? ⟨g, j, none⟩ = some v := fun j v hj => by
          rw [HPS.out] at hj
          rw [Joins.cell_of_block hcl]
          simpa using hj
        first
          | exact ⟨rfl, _, rfl, fun j v hj => by have := below_cell (below_al (Below.refl wi.heap.size wi) (.cells ZS.toArray 3)) _ _ (hget j v hj); simpa using this⟩
          | exact fun j v hj => below_cell (below_al (Below.refl wi.heap.size wi) (.cells ZS.toArray 3)) _ _ (hget j v hj)
          | exact fun j v hj => hget j v hj
      case f4 => rw [HPS.out, HZS.out, len_i64s, len_i64s, HLS.out]; simp
      case f5 => rw [HPS.out]; exact one_i64s _
      case f6 => exact (Below.refl _ _).alloc (Nat.le_refl _) _
      case f7 => exact Nat.le_refl _
      intro w1 HG1 hB1
      have R1 : Hid (Row w1 wi.heap.size (stp X Y ws xss f k)) := Lib.hid (by
        have := HG1.out
        rw [HZS.out, HPS.out, splice_all] at this
        have e : stp X Y ws xss f k ++ (List.replicate (X + Y) 0).drop (stp X Y ws xss f k).length = stp X Y ws xss f k := by
          rw [HLS.out]; simp
        rw [e] at this
        exact this)
      have O1 : Hid (Row w1 g (stp X Y ws xss f k)) := Lib.hid (Row.below hR.out.1 hB1)
      have B1 : Hid (Below w.heap.size w w1) := Lib.hid (below_tr hB.out hB1)
      have K1 : Hid (Blk w1 w.heap.size 40 #[.int .i64 (X : Int), .int .i64 (Y : Int), .slice va vn vc, .slice ua un uc]) := Lib.hid (hK.out.below hB1)
      have HGL := Lib.hid hgl
      have hwl : w.heap.size < wi.heap.size := c4
      clear HG1 hB1 c0 c1 c2 c3 c4 hgl
      obtain ⟨c0, c1, c2, c3, c4⟩ := four_cells K1.out
      have hcell : w1.cell? ⟨wi.heap.size, X + k, none⟩ = some (.int .i64 ((stp X Y ws xss f k).getD (X + k) 0)) := by
        rw [Joins.cell_of_block R1.out]
        have hl := HLS.out k
        simp [i64s, List.getD, show X + k < (stp X Y ws xss f k).length by omega]
      have rf : ∀ j, w1.frozen? ⟨wi.heap.size, j, none⟩ = false := fun j => Joins.unfrozen_of_block R1.out j
      obtain ⟨q2, hq2⟩ : ∃ q2, score X Y ws xss ((stp X Y ws xss f k).set (X + k) 1) = q2 := ⟨_, rfl⟩
      have HQ2 := Lib.hid hq2
      have hiff := HIFF.out k hlt
      rw [hQ.out, hq2] at hiff
      by_cases hrep : rep X Y ws xss f k = 1
      · have dq : decide (q < q2) = true := by simp [hiff.2 hrep]
        have HREP := Lib.hid hrep
        clear hrep hiff hq2
        go_wp2_with fail
        refine (HSC.out _ wi.heap.size ((stp X Y ws xss f k).set (X + k) 1) ?_ ?_ (by rw [List.length_set]; exact HLS.out k) (fun i => ?_)).mono ?_
        · exact Below.setCell B1.out (by show w.heap.size ≤ wi.heap.size; omega) _
        · exact set_row R1.out 1
        · rw [gbm.set_getD _ _ _ _ (by rw [HLS.out]; omega)]
          split
          · right; rfl
          · exact HSB.out k i
        rintro e w2 ⟨rfl, hb⟩
        have R2 : Hid (Row w2 wi.heap.size ((stp X Y ws xss f k).set (X + k) 1)) := Lib.hid (Row.below (set_row R1.out 1) hb)
        have O2 : Hid (Row w2 g (stp X Y ws xss f k)) := Lib.hid (Row.below (Blk.wrote O1.out ((Wrote.refl (fun p : Addr => p.block = wi.heap.size) w1).setCell (p := (⟨wi.heap.size, X + k, none⟩ : Addr)) rfl (.int .i64 1)) (fun p hp => by rw [show p.block = wi.heap.size from hp]; have := HGL.out; omega)) hb)
        have K2 : Hid (Blk w2 w.heap.size 40 #[.int .i64 (X : Int), .int .i64 (Y : Int), .slice va vn vc, .slice ua un uc]) := Lib.hid (Blk.below (Blk.wrote K1.out ((Wrote.refl (fun p : Addr => p.block = wi.heap.size) w1).setCell (p := (⟨wi.heap.size, X + k, none⟩ : Addr)) rfl (.int .i64 1)) (fun p hp => by rw [show p.block = wi.heap.size from hp]; omega)) hb)
        have B2 : Hid (Below w.heap.size w w2) := Lib.hid (below_tr (Below.setCell B1.out (by show w.heap.size ≤ wi.heap.size; omega) _) hb)
        rw [HQ2.out]
        clear hb R1 K1 B1 O1 c0 c1 c2 c3 c4 hcell rf
        go_wp2_with fail
        go_roundw
        case rel => exact ⟨k + 1, by omega, by go_num, _, rfl, _, rfl, Lib.hid (by rw [← (HYES.out k hlt) HREP.out]; exact HQ2.out), Lib.hid ⟨by rw [← (HYES.out k hlt) HREP.out]; exact R2.out, by omega⟩, B2, K2⟩
        case measure => simp [intOf]; omega
      · have dq : decide (q < q2) = false := by simp only [decide_eq_false_iff_not]; exact fun h => hrep (hiff.1 h)
        have HREP := Lib.hid hrep
        clear hrep hiff hq2
        go_wp2_with fail
        refine (HSC.out _ wi.heap.size ((stp X Y ws xss f k).set (X + k) 1) ?_ ?_ (by rw [List.length_set]; exact HLS.out k) (fun i => ?_)).mono ?_
        · exact Below.setCell B1.out (by show w.heap.size ≤ wi.heap.size; omega) _
        · exact set_row R1.out 1
        · rw [gbm.set_getD _ _ _ _ (by rw [HLS.out]; omega)]
          split
          · right; rfl
          · exact HSB.out k i
        rintro e w2 ⟨rfl, hb⟩
        have R2 : Hid (Row w2 wi.heap.size ((stp X Y ws xss f k).set (X + k) 1)) := Lib.hid (Row.below (set_row R1.out 1) hb)
        have O2 : Hid (Row w2 g (stp X Y ws xss f k)) := Lib.hid (Row.below (Blk.wrote O1.out ((Wrote.refl (fun p : Addr => p.block = wi.heap.size) w1).setCell (p := (⟨wi.heap.size, X + k, none⟩ : Addr)) rfl (.int .i64 1)) (fun p hp => by rw [show p.block = wi.heap.size from hp]; have := HGL.out; omega)) hb)
        have K2 : Hid (Blk w2 w.heap.size 40 #[.int .i64 (X : Int), .int .i64 (Y : Int), .slice va vn vc, .slice ua un uc]) := Lib.hid (Blk.below (Blk.wrote K1.out ((Wrote.refl (fun p : Addr => p.block = wi.heap.size) w1).setCell (p := (⟨wi.heap.size, X + k, none⟩ : Addr)) rfl (.int .i64 1)) (fun p hp => by rw [show p.block = wi.heap.size from hp]; omega)) hb)
        have B2 : Hid (Below w.heap.size w w2) := Lib.hid (below_tr (Below.setCell B1.out (by show w.heap.size ≤ wi.heap.size; omega) _) hb)
        rw [HQ2.out]
        clear hb R1 K1 B1 O1 c0 c1 c2 c3 c4 hcell rf
        go_wp2_with fail
        go_roundw
        case rel => exact ⟨k + 1, by omega, by go_num, _, rfl, _, rfl, Lib.hid (by rw [← (HNO.out k hlt) HREP.out]; exact hQ.out), Lib.hid ⟨by rw [← (HNO.out k hlt) HREP.out]; exact O2.out, hR.out.2⟩, B2, K2⟩
        case measure => simp [intOf]; omega
    · have hkz : ¬ (k : Int) < (Y : Int) := by omega
      obtain rfl : k = Y := by omega
      go_wp2_with fail
      go_ret2
      exact ⟨g, by rw [hQ.out]; rfl, hR.out.1, hR.out.2, hB.out⟩

end Go.Proofs.Ytimfnhejiiagmaa.gpwr
