/- JoinPart of the model and of the program. -/
import Derived.Test.YtlaaiahkdkhehaaMws
import Derived.Test.YtlaaiahkdkhehaaTwo
import Derived.Test.YtlaaiahkdkhehaaEvo
import Derived.Test.YtlaaiahkdkhehaaMixa
import Derived.Test.YtlaaiahkdkhehaaScaled
import Derived.Test.YtlaaiahkdkhehaaRedd
import Derived.Test.YtlaaiahkdkhehaaRede
import Derived.Deep.RegionHeld3
namespace Go.Proofs.Ytlaaiahkdkhehaa.joi
open Go.RowKit Go.Deep Go.Proofs.Ytlaaiahkdkhehaa.base
open Go.Proofs.Ytlaaiahkdkhehaa.rws (total)
open Go.Proofs.Ytlaaiahkdkhehaa.val (okBox okSizes boxB boxB_yes boxB_no)
open Go.Proofs.Ytlaaiahkdkhehaa.row (nn nn_bd)
open Go.Proofs.Ytlaaiahkdkhehaa.two (qt qtB qtB_yes qtB_no)
open Go.Proofs.Ytlaaiahkdkhehaa.evo (bB_al bB_dr bB_tr heldB)

/-- what JoinPart takes -/
def tk (x y wh : Int) (xss : List (List Int)) (k : Int) : Prop := qt x y wh xss ∧ 0 ≤ k ∧ k ≤ 7
open Classical in
noncomputable def res (x y wh : Int) (xss : List (List Int)) (k s : Int) : make.Res :=
  if tk x y wh xss k then (if s = 0 then red.res 2 2 wh xss else if mws.all wh s then red.res 2 2 (wh + 2 * s) (mws.M xss k.toNat s) else make.Res.zero) else make.Res.zero
theorem res_out {x y wh : Int} {xss : List (List Int)} {k s : Int} (h : ¬ tk x y wh xss k) : res x y wh xss k s = make.Res.zero := if_neg h
theorem res_zero {x y wh : Int} {xss : List (List Int)} {k : Int} (h : tk x y wh xss k) : res x y wh xss k 0 = red.res 2 2 wh xss := by
  unfold res; rw [if_pos h, if_pos rfl]
theorem res_all {x y wh : Int} {xss : List (List Int)} {k : Nat} {s : Int} (h : tk x y wh xss k) (ha : mws.all wh s) : res x y wh xss k s = red.res 2 2 (wh + 2 * s) (mws.M xss k s) := by
  unfold res; rw [if_pos h, if_neg (by have := ha.1; omega), if_pos ha]; rfl
theorem res_none {x y wh : Int} {xss : List (List Int)} {k s : Int} (hs : ¬ s = 0) (ha : ¬ mws.all wh s) : res x y wh xss k s = make.Res.zero := by
  unfold res
  by_cases h : tk x y wh xss k
  · rw [if_pos h, if_neg hs, if_neg ha]
  · rw [if_neg h]
theorem tot (x y wh : Int) (xss : List (List Int)) (k s : Int) : total (res x y wh xss k s).rows ≤ 1048576 := by
  unfold res
  split
  · split
    · exact red.tot _ _ _ _
    · split
      · exact red.tot _ _ _ _
      · exact Nat.zero_le _
  · exact Nat.zero_le _
theorem wide_sc (k : Nat) {s : Int} (h1 : 1 ≤ s) (h2 : s ≤ 1000) : mix.wide 4 (2 * s) (mws.sc k s) :=
  ⟨make.len_rowsOf _ _, by omega, fun r hr => by
    have hr4 : r < 4 := by rw [mws.sc, make.len_rowsOf] at hr; exact hr
    have ho := eqm.ok k
    have hl : (mws.sr k).length = 4 := make.len_rowsOf _ _
    match r, hr4 with
    | 0, _ => exact ⟨rfl, fun j hj => by
        have hb := nn_bd ho (r := 0) (by rw [make.len_rowsOf]; omega) hj
        have := scale.mul_bd hb.1 hb.2 h1 h2
        match j, hj with | 0, _ => exact this | 1, _ => exact this | 2, _ => exact this | 3, _ => exact this⟩
    | 1, _ => exact ⟨rfl, fun j hj => by
        have hb := nn_bd ho (r := 1) (by rw [make.len_rowsOf]; omega) hj
        have := scale.mul_bd hb.1 hb.2 h1 h2
        match j, hj with | 0, _ => exact this | 1, _ => exact this | 2, _ => exact this | 3, _ => exact this⟩
    | 2, _ => exact ⟨rfl, fun j hj => by
        have hb := nn_bd ho (r := 2) (by rw [make.len_rowsOf]; omega) hj
        have := scale.mul_bd hb.1 hb.2 h1 h2
        match j, hj with | 0, _ => exact this | 1, _ => exact this | 2, _ => exact this | 3, _ => exact this⟩
    | 3, _ => exact ⟨rfl, fun j hj => by
        have hb := nn_bd ho (r := 3) (by rw [make.len_rowsOf]; omega) hj
        have := scale.mul_bd hb.1 hb.2 h1 h2
        match j, hj with | 0, _ => exact this | 1, _ => exact this | 2, _ => exact this | 3, _ => exact this⟩⟩


set_option maxHeartbeats 8000000 in
theorem impl_any (x y wh : Int) (v : Value) (xss : List (List Int)) (k s : Int) (w : World) (h : IRows w v xss) (hn : total xss ≤ 1048576) :
    Calls Try.prog 36 #[.agg #[.int .i64 x, .int .i64 y, .int .i64 wh, v], .int .i64 k, .int .i64 s] w fun e w' => ∃ r, e = .returned (.tuple #[.agg #[.int .i64 (res x y wh xss k s).x, .int .i64 (res x y wh xss k s).y, .int .i64 (res x y wh xss k s).wh, r], .bool (res x y wh xss k s).ok]) ∧ OwnRows w' w.heap.size w'.heap.size r (res x y wh xss k s).rows ∧ Below w.heap.size w w' := by
  obtain ⟨va, vn, vc, rfl⟩ := h.shape
  have H := Lib.hid h
  have B0 := Lib.hid (below_al (below_al (Below.refl w.heap.size w) (.cells #[.int .i64 x, .int .i64 y, .int .i64 wh, .slice va vn vc] 24)) (.cells #[.int .i64 0, .int .i64 0, .int .i64 0, .slice none 0 0] 24))
  have K0 := Lib.hid ((Blk.new w 24 #[.int .i64 x, .int .i64 y, .int .i64 wh, .slice va vn vc]).alloc (.cells #[.int .i64 0, .int .i64 0, .int .i64 0, .slice none 0 0] 24))
  have R0 : Hid (Blk ((w.alloc (.cells #[.int .i64 x, .int .i64 y, .int .i64 wh, .slice va vn vc] 24)).alloc (.cells #[.int .i64 0, .int .i64 0, .int .i64 0, .slice none 0 0] 24)) (w.heap.size + 1) 24 #[.int .i64 0, .int .i64 0, .int .i64 0, .slice none 0 0]) := Lib.hid (by
    have := Blk.new (w.alloc (.cells #[.int .i64 x, .int .i64 y, .int .i64 wh, .slice va vn vc] 24)) 24 #[.int .i64 0, .int .i64 0, .int .i64 0, .slice none 0 0]
    simpa using this)
  have hq := two.iqt x y wh _ xss _ (h.below B0.out) hn
  clear h
  by_cases ht : qt x y wh xss
  · rw [qtB_yes ht] at hq
    have HQ := Lib.hid hq
    clear hq
    have HT := Lib.hid ht
    obtain ⟨⟨hok, rfl, rfl⟩, _⟩ := ht
    have HOK := Lib.hid hok
    clear hok
    by_cases hk : 0 ≤ k ∧ k ≤ 7
    · have HK := Lib.hid (fun W => eqm.is_yes k W hk)
      obtain ⟨n, rfl⟩ : ∃ n : Nat, k = n := ⟨k.toNat, by omega⟩
      have HTK := Lib.hid (show tk 2 2 wh xss n from ⟨HT.out, hk⟩)
      have HKN : Hid (n < 8) := Lib.hid (by omega)
      clear hk HT
      by_cases hs : s = 0
      · subst hs
        rw [res_zero HTK.out]
        have HRD := Lib.hid (fun (W : World) (hb : Below w.heap.size w W) => red.impl_any 2 2 wh (.slice va vn vc) xss W (H.out.below hb) hn)
        go_enter Try.func36, Try.ntmps36
        go_wp2_with fail
        refine HQ.out.mono ?_
        rintro e w1 ⟨rfl, hb⟩
        have B1 := Lib.hid (below_tr B0.out hb)
        have K1 := Lib.hid (K0.out.below hb)
        have R1 := Lib.hid (R0.out.below hb)
        obtain ⟨c0, c1, c2, c3, c4⟩ := four_cells K1.out
        clear hb HQ B0 K0 R0
        go_wp2_with fail
        refine (HK.out _).mono ?_
        rintro e w' ⟨rfl, rfl⟩
        go_wp2_with fail
        refine (HRD.out _ B1.out).mono ?_
        rintro e w4 ⟨r, rfl, hr, hb⟩
        obtain ⟨ra, rl, rc, rfl⟩ := hr.rows.shape
        have HR := Lib.hid hr
        have B4 := Lib.hid (below_tr B1.out hb)
        have R4 := Lib.hid (R1.out.below hb)
        have hz := B1.out.size
        have hz1 := R1.out.lt
        obtain ⟨r0, r1, r2, r3, r4⟩ := four_cells R4.out
        have rf : ∀ k, w4.frozen? ⟨w.heap.size + 1, k, none⟩ = false := fun k => Joins.unfrozen_of_block R4.out k
        clear hb hr HRD c0 c1 c2 c3 c4
        obtain ⟨z, hz0⟩ : ∃ z, z = red.res 2 2 wh xss := ⟨_, rfl⟩
        rw [← hz0] at HR ⊢
        have HZ := Lib.hid hz0
        clear hz0
        go_wp2_with fail
        refine bodyPost_ret (v := .tuple #[.agg #[.int .i64 z.x, .int .i64 z.y, .int .i64 z.wh, .slice ra rl rc], .bool z.ok]) (by simp [results, Try.results36, go_sem, r0, r1, r2, r3]) rfl ?_
        rw [← HZ.out]
        refine ⟨_, rfl, ?_, ?_⟩
        · refine (HR.out.wrote (S := fun p => p.block < w.heap.size + 1 + 1) ?_ (fun p hp => .inl (by have hp' : p.block < w.heap.size + 1 + 1 := hp; omega))).mono (by omega) (by simp [World.setCell])
          repeat (first | (with_reducible exact Wrote.refl _ _) | (with_reducible refine Wrote.setCell ?_ (by simp) _))
        · repeat (first | (with_reducible exact B4.out) | (with_reducible refine Below.setCell ?_ (by simp) _))
      · have HM := Lib.hid (fun (W : World) (hb : Below w.heap.size w W) => mws.impl_any wh (.slice va vn vc) xss n s W (H.out.below hb) HOK.out hn HKN.out)
        by_cases ha : mws.all wh s
        · rw [mws.res_yes ha] at HM
          rw [res_all HTK.out ha]
          have HRD := Lib.hid (fun (u : Value) (W : World) (hu : IRows W u (mws.M xss n s)) => red.impl_any 2 2 (wh + 2 * s) u (mws.M xss n s) W hu (make.total_rowsOf _ _ (by omega)))
          clear ha
          go_enter Try.func36, Try.ntmps36
          go_wp2_with fail
          refine HQ.out.mono ?_
          rintro e w1 ⟨rfl, hb⟩
          have B1 := Lib.hid (below_tr B0.out hb)
          have K1 := Lib.hid (K0.out.below hb)
          have R1 := Lib.hid (R0.out.below hb)
          obtain ⟨c0, c1, c2, c3, c4⟩ := four_cells K1.out
          clear hb HQ B0 K0 R0
          go_wp2_with fail
          refine (HK.out _).mono ?_
          rintro e w' ⟨rfl, rfl⟩
          go_wp2_with fail
          refine (HM.out _ B1.out).mono ?_
          rintro e w2 ⟨u, rfl, hu, hb⟩
          obtain ⟨ua, ul, uc, rfl⟩ := hu.rows.shape
          have HU : Hid (IRows w2 (.slice ua ul uc) (mws.M xss n s)) := Lib.hid hu.rows
          have B2 := Lib.hid (below_tr B1.out hb)
          have R2 := Lib.hid (R1.out.below hb)
          clear hb hu HM c0 c1 c2 c3 c4
          go_wp2_with fail
          refine (HRD.out _ _ (HU.out.below (below_al (Below.refl _ _) _))).mono ?_
          rintro e w4 ⟨r, rfl, hr, hb⟩
          obtain ⟨ra, rl, rc, rfl⟩ := hr.rows.shape
          have HR := Lib.hid hr
          have hb2 := Lib.hid (below_tr (below_al (Below.refl w2.heap.size w2) (.cells #[.int .i64 2, .int .i64 2, .int .i64 (wh + 2 * s), .slice ua ul uc] 24)) hb)
          have B4 := Lib.hid (below_tr B2.out hb2.out)
          have R4 := Lib.hid (R2.out.below hb2.out)
          have hz := B2.out.size
          have hz1 := R2.out.lt
          obtain ⟨r0, r1, r2, r3, r4⟩ := four_cells R4.out
          have rf : ∀ k, w4.frozen? ⟨w.heap.size + 1, k, none⟩ = false := fun k => Joins.unfrozen_of_block R4.out k
          clear hb hr hb2 HRD
          obtain ⟨z, hz0⟩ : ∃ z, z = red.res 2 2 (wh + 2 * s) (mws.M xss n s) := ⟨_, rfl⟩
          rw [← hz0] at HR ⊢
          have HZ := Lib.hid hz0
          clear hz0
          go_wp2_with fail
          refine bodyPost_ret (v := .tuple #[.agg #[.int .i64 z.x, .int .i64 z.y, .int .i64 z.wh, .slice ra rl rc], .bool z.ok]) (by simp [results, Try.results36, go_sem, r0, r1, r2, r3]) rfl ?_
          rw [← HZ.out]
          refine ⟨_, rfl, ?_, ?_⟩
          · refine (HR.out.wrote (S := fun p => p.block < w.heap.size + 1 + 1) ?_ (fun p hp => .inl (by simp; omega))).mono (by simp; omega) (by simp [World.setCell])
            repeat (first | (with_reducible exact Wrote.refl _ _) | (with_reducible refine Wrote.setCell ?_ (by simp) _))
          · repeat (first | (with_reducible exact B4.out) | (with_reducible refine Below.setCell ?_ (by simp) _))
        · rw [mws.res_no ha] at HM
          rw [res_none hs ha]
          have zx : make.Res.zero.x = 0 := rfl
          have zy : make.Res.zero.y = 0 := rfl
          have zw : make.Res.zero.wh = 0 := rfl
          have zo : make.Res.zero.ok = false := rfl
          clear ha
          go_enter Try.func36, Try.ntmps36
          go_wp2_with fail
          refine HQ.out.mono ?_
          rintro e w1 ⟨rfl, hb⟩
          have B1 := Lib.hid (below_tr B0.out hb)
          have K1 := Lib.hid (K0.out.below hb)
          have R1 := Lib.hid (R0.out.below hb)
          obtain ⟨c0, c1, c2, c3, c4⟩ := four_cells K1.out
          clear hb HQ B0 K0 R0
          go_wp2_with fail
          refine (HK.out _).mono ?_
          rintro e w' ⟨rfl, rfl⟩
          go_wp2_with fail
          refine (HM.out _ B1.out).mono ?_
          rintro e w2 ⟨u, rfl, hu, hb⟩
          obtain ⟨ua, ul, uc, rfl⟩ := hu.rows.shape
          have B2 := Lib.hid (below_al (below_tr B1.out hb) (.cells #[.int .i64 0, .int .i64 0, .int .i64 0, .slice ua ul uc] 24))
          have R2 := Lib.hid ((R1.out.below hb).alloc (.cells #[.int .i64 0, .int .i64 0, .int .i64 0, .slice ua ul uc] 24))
          obtain ⟨r0, r1, r2, r3, r4⟩ := four_cells R2.out
          have rf := fun k => Joins.unfrozen_of_block R2.out k
          clear hb hu HM c0 c1 c2 c3 c4
          go_wp2_with fail
          refine bodyPost_ret (v := .tuple #[.agg #[.int .i64 0, .int .i64 0, .int .i64 0, .slice none 0 0], .bool false]) (by simp [results, Try.results36, go_sem, r0, r1, r2, r3]) rfl ⟨_, rfl, OwnRows.nil _ _ _, ?_⟩
          repeat (first | (with_reducible exact B2.out) | (with_reducible refine Below.setCell ?_ (by simp) _))
    · have HK := Lib.hid (fun W => eqm.is_no k W hk)
      rw [res_out (fun h => hk h.2)]
      clear hk
      go_enter Try.func36, Try.ntmps36
      go_wp2_with fail
      refine HQ.out.mono ?_
      rintro e w1 ⟨rfl, hb⟩
      have B1 := Lib.hid (below_tr B0.out hb)
      have R1 := Lib.hid (R0.out.below hb)
      obtain ⟨r0, r1, r2, r3, r4⟩ := four_cells R1.out
      have rf := fun k => Joins.unfrozen_of_block R1.out k
      clear hb HQ B0 K0 R0
      go_wp2_with fail
      refine (HK.out _).mono ?_
      rintro e w' ⟨rfl, rfl⟩
      go_wp2_with fail
      refine bodyPost_ret (v := .tuple #[.agg #[.int .i64 0, .int .i64 0, .int .i64 0, .slice none 0 0], .bool false]) (by simp [results, Try.results36, go_sem, r0, r1, r2, r3]) rfl ⟨_, rfl, OwnRows.nil _ _ _, ?_⟩
      repeat (first | (with_reducible exact B1.out) | (with_reducible refine Below.setCell ?_ (by simp) _))
  · rw [qtB_no ht] at hq
    rw [res_out (fun h => ht h.1)]
    have HQ := Lib.hid hq
    clear hq ht
    go_enter Try.func36, Try.ntmps36
    go_wp2_with fail
    refine HQ.out.mono ?_
    rintro e w1 ⟨rfl, hb⟩
    have B1 := Lib.hid (below_tr B0.out hb)
    have R1 := Lib.hid (R0.out.below hb)
    obtain ⟨r0, r1, r2, r3, r4⟩ := four_cells R1.out
    have rf := fun k => Joins.unfrozen_of_block R1.out k
    clear hb HQ B0 K0 R0
    go_wp2_with fail
    refine bodyPost_ret (v := .tuple #[.agg #[.int .i64 0, .int .i64 0, .int .i64 0, .slice none 0 0], .bool false]) (by simp [results, Try.results36, go_sem, r0, r1, r2, r3]) rfl ⟨_, rfl, OwnRows.nil _ _ _, ?_⟩
    repeat (first | (with_reducible exact B1.out) | (with_reducible refine Below.setCell ?_ (by simp) _))



set_option maxHeartbeats 8000000 in
theorem spec_any (x y wh : Int) (v : Value) (xss : List (List Int)) (k s : Int) (w : World) (h : IRows w v xss) (hn : total xss ≤ 1048576) :
    Calls Try.prog 35 #[.agg #[.int .i64 x, .int .i64 y, .int .i64 wh, v], .int .i64 k, .int .i64 s] w fun e w' => ∃ r, e = .returned (.tuple #[.agg #[.int .i64 (res x y wh xss k s).x, .int .i64 (res x y wh xss k s).y, .int .i64 (res x y wh xss k s).wh, r], .bool (res x y wh xss k s).ok]) ∧ IRows w' r (res x y wh xss k s).rows ∧ Below w.heap.size w w' := by
  obtain ⟨va, vn, vc, rfl⟩ := h.shape
  have H := Lib.hid h
  have B0 := Lib.hid (below_al (below_al (Below.refl w.heap.size w) (.cells #[.int .i64 x, .int .i64 y, .int .i64 wh, .slice va vn vc] 24)) (.cells #[.int .i64 0, .int .i64 0, .int .i64 0, .slice none 0 0] 24))
  have K0 := Lib.hid ((Blk.new w 24 #[.int .i64 x, .int .i64 y, .int .i64 wh, .slice va vn vc]).alloc (.cells #[.int .i64 0, .int .i64 0, .int .i64 0, .slice none 0 0] 24))
  have R0 : Hid (Blk ((w.alloc (.cells #[.int .i64 x, .int .i64 y, .int .i64 wh, .slice va vn vc] 24)).alloc (.cells #[.int .i64 0, .int .i64 0, .int .i64 0, .slice none 0 0] 24)) (w.heap.size + 1) 24 #[.int .i64 0, .int .i64 0, .int .i64 0, .slice none 0 0]) := Lib.hid (by
    have := Blk.new (w.alloc (.cells #[.int .i64 x, .int .i64 y, .int .i64 wh, .slice va vn vc] 24)) 24 #[.int .i64 0, .int .i64 0, .int .i64 0, .slice none 0 0]
    simpa using this)
  have hq := two.l6quiet x y wh _ xss _ (h.below B0.out) hn
  clear h
  by_cases ht : qt x y wh xss
  · rw [qtB_yes ht] at hq
    have HQ := Lib.hid hq
    clear hq
    have HT := Lib.hid ht
    obtain ⟨⟨hok, rfl, rfl⟩, _⟩ := ht
    have HOK := Lib.hid hok
    clear hok
    by_cases hk : 0 ≤ k ∧ k ≤ 7
    · have HK := Lib.hid (fun W => eqm.kind_yes k W hk)
      obtain ⟨n, rfl⟩ : ∃ n : Nat, k = n := ⟨k.toNat, by omega⟩
      have HTK := Lib.hid (show tk 2 2 wh xss n from ⟨HT.out, hk⟩)
      have HKN : Hid (n < 8) := Lib.hid (by omega)
      clear hk HT
      by_cases hr : 0 ≤ s ∧ s ≤ 1000
      · have HI := Lib.hid (fun W => val.in_yes s 0 1000 W hr.1 hr.2)
        by_cases hs : s = 0
        · subst hs
          rw [res_zero HTK.out]
          have HTO := Lib.hid hn
          clear hr
          have HBX := Lib.hid (fun (u : Value) (W : World) (hu : IRows W u xss) => val.spec_any 2 2 wh u xss W hu HTO.out)
          have EB := Lib.hid (boxB_yes HOK.out)
          have HE : Hid (red.res 2 2 wh xss = ⟨2, 2, wh / (red.dv wh xss : Int), make.rowsOf (red.N xss (red.dv wh xss)) 4, true⟩) := Lib.hid (red.res_nat (X := 2) (Y := 2) HOK.out)
          have HRQ := Lib.hid (red.rows_eq (X := 2) (Y := 2) (kk := (red.dv wh xss : Int)) HOK.out)
          have HRD := Lib.hid (fun (u : Value) (W : World) (hu : IRows W u xss) => red.l2reduced 2 2 wh u xss W hu HOK.out)
          generalize wh / (red.dv wh xss : Int) = wd at HE HRD
          go_enter Try.func35, Try.ntmps35
          go_wp2_with fail
          refine HQ.out.mono ?_
          rintro e w1 ⟨rfl, hb⟩
          have B1 := Lib.hid (below_tr B0.out hb)
          have K1 := Lib.hid (K0.out.below hb)
          have R1 := Lib.hid (R0.out.below hb)
          obtain ⟨c0, c1, c2, c3, c4⟩ := four_cells K1.out
          have B8 := Lib.hid (below_al B1.out (.cells #[.int .i64 2, .int .i64 2, .int .i64 wh, .slice va vn vc] 24))
          have R8 := Lib.hid (R1.out.alloc (.cells #[.int .i64 2, .int .i64 2, .int .i64 wh, .slice va vn vc] 24))
          have K8 := Lib.hid (Blk.new w1 24 #[.int .i64 2, .int .i64 2, .int .i64 wh, .slice va vn vc])
          have U8 := Lib.hid (H.out.below B8.out)
          clear hb HQ B0 K0 R0
          go_wp2_with fail
          refine (HK.out _).mono ?_
          rintro e w' ⟨rfl, rfl⟩
          go_wp2_with fail
          refine (HI.out _).mono ?_
          rintro e w' ⟨rfl, rfl⟩
          go_wp2_with fail
          clear c0 c1 c2 c3 c4
          refine (HBX.out _ _ U8.out).mono ?_
          rintro e w9 ⟨rfl, hb9⟩
          rw [EB.out]
          have B9 := Lib.hid (below_tr B8.out hb9)
          have R9 := Lib.hid (R8.out.below hb9)
          have U9 := Lib.hid (U8.out.below hb9)
          obtain ⟨c0, c1, c2, c3, c4⟩ := four_cells (K8.out.below hb9)
          clear hb9 B8 R8 K8 U8 HBX EB
          go_wp2_with fail
          refine (HRD.out _ _ U9.out).mono ?_
          rintro e w10 ⟨u, rfl, hu, hb⟩
          obtain ⟨xa, xl, xc, rfl⟩ := hu.rows.shape
          have B10 := Lib.hid (below_tr B9.out hb)
          have R10 := Lib.hid (R9.out.below hb)
          have hz0 := R9.out.lt
          have U10 := Lib.hid (hu.mono (B' := w.heap.size + 1 + 1) (by omega))
          obtain ⟨r0, r1, r2, r3, r4⟩ := four_cells R10.out
          have rf : ∀ k, w10.frozen? ⟨w.heap.size + 1, k, none⟩ = false := fun k => Joins.unfrozen_of_block R10.out k
          clear hu hb HRD U9 c0 c1 c2 c3 c4
          go_wp2_with fail
          refine bodyPost_ret (v := .tuple #[.agg #[.int .i64 2, .int .i64 2, .int .i64 wd, .slice xa xl xc], .bool true]) (by simp [results, Try.results35, go_sem, r0, r1, r2, r3]) rfl ?_
          rw [HE.out]
          refine ⟨_, rfl, ?_, ?_⟩
          · show IRows _ _ (make.rowsOf _ _)
            rw [← HRQ.out]
            refine (U10.out.low ?_).rows
            repeat (first | (with_reducible exact Wrote.refl _ _) | (with_reducible refine Wrote.setCell ?_ (by simp) _))
          · repeat (first | (with_reducible exact B10.out) | (with_reducible refine Below.setCell ?_ (by simp) _))
        · have hp : 0 < s := by omega
          have h1 : 1 ≤ s := by omega
          have HSM := Lib.hid (fun W => eqm.l6sum n HKN.out W)
          have HTM : Hid (∀ (u : Value) (W : World), IRows W u (mws.sr n) → Calls Try.prog 78 #[.agg #[.int .i64 2, .int .i64 2, .int .i64 2, u], .int .i64 s, .int .i64 1] W fun e w' => ∃ u, e = .returned (.agg #[.int .i64 2, .int .i64 2, .int .i64 (2 * s), u]) ∧ IRows w' u (mws.sc n s) ∧ Below W.heap.size W w') := Lib.hid (fun u W hu => by
            refine (scale.l2times 2 2 2 u (mws.sr n) s W hu (eqm.ok n) h1 hr.2).mono ?_
            rintro e w' ⟨u', he, hu', hb'⟩
            have hh := hu'.rows
            have hq : (List.range (mws.sr n).length).map (scale.D (mws.sr n) s) = mws.sc n s := scale.rows_eq (X := 2) (Y := 2) (kk := s) (eqm.ok n)
            rw [hq] at hh
            exact ⟨u', he, hh, hb'⟩)
          have HMX := Lib.hid (fun (u : Value) (W : World) (hv : IRows W (.slice va vn vc) xss) (hu : IRows W u (mws.sc n s)) => mix.l2mixw 2 2 wh (2 * s) (.slice va vn vc) u xss (mws.sc n s) W hv hu HOK.out (by
            have hl4 : xss.length = 4 := by have := HOK.out.2.2.1; omega
            rw [hl4]
            exact wide_sc n h1 hr.2))
          have hl4 : xss.length = 4 := by have := HOK.out.2.2.1; omega
          rw [hl4] at HMX
          have HTO := Lib.hid (make.total_rowsOf (mix.N xss (mws.sc n s)) 4 (by omega))
          clear hl4 hr h1
          by_cases ha : mws.all wh s
          · rw [res_all HTK.out ha]
            have HMO := Lib.hid (mws.M_ok (k := n) HOK.out ha)
            clear ha
            have HBX := Lib.hid (fun (u : Value) (W : World) (hu : IRows W u (mws.M xss n s)) => val.spec_any 2 2 (wh + 2 * s) u (mws.M xss n s) W hu HTO.out)
            have EB := Lib.hid (boxB_yes HMO.out)
            have HE : Hid (red.res 2 2 (wh + 2 * s) (mws.M xss n s) = ⟨2, 2, (wh + 2 * s) / (red.dv (wh + 2 * s) (mws.M xss n s) : Int), make.rowsOf (red.N (mws.M xss n s) (red.dv (wh + 2 * s) (mws.M xss n s))) 4, true⟩) := Lib.hid (red.res_nat (X := 2) (Y := 2) HMO.out)
            have HRQ := Lib.hid (red.rows_eq (X := 2) (Y := 2) (kk := (red.dv (wh + 2 * s) (mws.M xss n s) : Int)) HMO.out)
            have HRD := Lib.hid (fun (u : Value) (W : World) (hu : IRows W u (mws.M xss n s)) => red.l2reduced 2 2 (wh + 2 * s) u (mws.M xss n s) W hu HMO.out)
            generalize (wh + 2 * s) / (red.dv (wh + 2 * s) (mws.M xss n s) : Int) = wd at HE HRD
            go_enter Try.func35, Try.ntmps35
            go_wp2_with fail
            refine HQ.out.mono ?_
            rintro e w1 ⟨rfl, hb⟩
            have B1 := Lib.hid (below_tr B0.out hb)
            have K1 := Lib.hid (K0.out.below hb)
            have R1 := Lib.hid (R0.out.below hb)
            have B8 := Lib.hid (below_al B1.out (.cells #[.int .i64 2, .int .i64 2, .int .i64 wh, .slice va vn vc] 24))
            have R8 := Lib.hid (R1.out.alloc (.cells #[.int .i64 2, .int .i64 2, .int .i64 wh, .slice va vn vc] 24))
            have K8 := Lib.hid (Blk.new w1 24 #[.int .i64 2, .int .i64 2, .int .i64 wh, .slice va vn vc])
            obtain ⟨c0, c1, c2, c3, c4⟩ := four_cells K1.out
            clear hb HQ B0 K0 R0
            go_wp2_with fail
            refine (HK.out _).mono ?_
            rintro e w' ⟨rfl, rfl⟩
            go_wp2_with fail
            refine (HI.out _).mono ?_
            rintro e w' ⟨rfl, rfl⟩
            go_wp2_with fail
            clear c0 c1 c2 c3 c4
            have hlt : w.heap.size < w1.heap.size := K1.out.lt
            have hBz : w1.heap.size ≤ (w1.alloc (.cells #[.int .i64 2, .int .i64 2, .int .i64 wh, .slice va vn vc] 24)).heap.size := by simp
            have HVW := Lib.hid (fun (W : World) (hb : Below w1.heap.size (w1.alloc (.cells #[.int .i64 2, .int .i64 2, .int .i64 wh, .slice va vn vc] 24)) W) => H.out.below (B1.out.trans ((((Below.refl w1.heap.size w1).alloc (Nat.le_refl _) (.cells #[.int .i64 2, .int .i64 2, .int .i64 wh, .slice va vn vc] 24)).trans hb).mono B1.out.size)))
            obtain ⟨c0, c1, c2, c3, c4⟩ := four_cells (K1.out.alloc (.cells #[.int .i64 2, .int .i64 2, .int .i64 wh, .slice va vn vc] 24))
            go_region_held3 (fun w' => w'.cell? ⟨w.heap.size, 0, none⟩ = some (.int .i64 2) ∧ w'.cell? ⟨w.heap.size, 1, none⟩ = some (.int .i64 2) ∧ w'.cell? ⟨w.heap.size, 2, none⟩ = some (.int .i64 wh) ∧ w'.cell? ⟨w.heap.size, 3, none⟩ = some (.slice va vn vc) ∧ Below w1.heap.size (w1.alloc (.cells #[.int .i64 2, .int .i64 2, .int .i64 wh, .slice va vn vc] 24)) w')
              ((refine heldB c0 c1 c2 c3 hlt hlt hlt hlt ?_; repeat (first | (with_reducible exact Below.refl _ _) | (with_reducible assumption) | (with_reducible refine Below.setCell ?_ (by simp) _) | (with_reducible refine bB_dr ?_) | (with_reducible refine bB_al hBz ?_ _) | (with_reducible refine bB_tr hBz ?_ (by assumption)))))
              (first
                | (go_at_call 54; (with_reducible refine (HSM.out _).mono ?_); rintro e w2 ⟨u1, rfl, hu1, hb1⟩; obtain ⟨ya, yl, yc, rfl⟩ := hu1.rows.shape)
                | (go_at_call 78; (with_reducible refine (HTM.out _ _ hu1.rows).mono ?_); rintro e w3 ⟨u2, rfl, hu2, hb2⟩; obtain ⟨ua, ul, uc, rfl⟩ := hu2.shape)
                | (go_at_call 82; (with_reducible refine (HMX.out _ _ (HVW.out _ ?_) hu2).mono ?_); (exact bB_tr hBz (bB_tr hBz (bB_dr (Below.refl _ _)) hb1) hb2); rintro e w4 ⟨u3, rfl, hu3, hb3⟩; obtain ⟨xa, xl, xc, rfl⟩ := hu3.rows.shape; have K4 := Lib.hid (K8.out.below (below_tr (below_tr (below_tr (below_dr (Below.refl _ _)) hb1) hb2) hb3)); obtain ⟨q0, q1, q2, q3, q4⟩ := four_cells K4.out; have rf4 : ∀ k, w4.frozen? ⟨w1.heap.size, k, none⟩ = false := fun k => Joins.unfrozen_of_block K4.out k))
            have BX := Lib.hid (below_tr (below_tr (below_tr (below_dr (Below.refl _ (w1.alloc (.cells #[.int .i64 2, .int .i64 2, .int .i64 wh, .slice va vn vc] 24)))) hb1) hb2) hb3)
            have B4 := Lib.hid (below_tr B8.out BX.out)
            have R4 := Lib.hid (R8.out.below BX.out)
            have hs2 := hb1.size
            have hs3 := hb2.size
            have hr1 := R1.out.lt
            have hw1 := B1.out.size
            have U4 := Lib.hid (hu3.mono (B' := w1.heap.size + 1) (by simp at hs2; omega))
            have B8 := Lib.hid (mix.set4_below (.int .i64 2) (.int .i64 2) (.int .i64 (wh + 2 * s)) (.slice xa xl xc) B4.out hw1)
            have R8 := Lib.hid (R4.out.wrote (mix.set4_wrote w4 w1.heap.size (.int .i64 2) (.int .i64 2) (.int .i64 (wh + 2 * s)) (.slice xa xl xc)) (fun p (hp : p.block = w1.heap.size) => by omega))
            have K8 := Lib.hid (mix.set4_same (.int .i64 2) (.int .i64 2) (.int .i64 (wh + 2 * s)) (.slice xa xl xc) K4.out)
            have U8 : Hid (IRows (mix.set4 w4 w1.heap.size (.int .i64 2) (.int .i64 2) (.int .i64 (wh + 2 * s)) (.slice xa xl xc)) (.slice xa xl xc) (mws.M xss n s)) := Lib.hid (U4.out.low ((mix.set4_wrote _ _ _ _ _ _).mono (fun p (hp : p.block = w1.heap.size) => by omega))).rows
            have WX : mix.set4 w4 w1.heap.size (.int .i64 2) (.int .i64 2) (.int .i64 (wh + 2 * s)) (.slice xa xl xc) = (((w4.setCell ⟨w1.heap.size, 0, none⟩ (.int .i64 2)).setCell ⟨w1.heap.size, 1, none⟩ (.int .i64 2)).setCell ⟨w1.heap.size, 2, none⟩ (.int .i64 (wh + 2 * s))).setCell ⟨w1.heap.size, 3, none⟩ (.slice xa xl xc) := rfl
            rw [WX] at B8 R8 K8 U8
            clear BX B4 R4 K4 U4 hs2 hs3 hb1 hb2 hb3 hu1 hu2 hu3 HSM HTM HMX HVW c0 c1 c2 c3 c4 WX
            go_wp2_with fail
            refine (HBX.out _ _ U8.out).mono ?_
            rintro e w9 ⟨rfl, hb9⟩
            rw [EB.out]
            have B9 := Lib.hid (below_tr B8.out hb9)
            have R9 := Lib.hid (R8.out.below hb9)
            have U9 := Lib.hid (U8.out.below hb9)
            obtain ⟨c0, c1, c2, c3, c4⟩ := four_cells (K8.out.below hb9)
            clear hb9 B8 R8 K8 U8 HBX EB
            go_wp2_with fail
            refine (HRD.out _ _ U9.out).mono ?_
            rintro e w10 ⟨u, rfl, hu, hb⟩
            obtain ⟨xa, xl, xc, rfl⟩ := hu.rows.shape
            have B10 := Lib.hid (below_tr B9.out hb)
            have R10 := Lib.hid (R9.out.below hb)
            have hz0 := R9.out.lt
            have U10 := Lib.hid (hu.mono (B' := w.heap.size + 1 + 1) (by omega))
            obtain ⟨r0, r1, r2, r3, r4⟩ := four_cells R10.out
            have rf : ∀ k, w10.frozen? ⟨w.heap.size + 1, k, none⟩ = false := fun k => Joins.unfrozen_of_block R10.out k
            clear hu hb HRD U9 c0 c1 c2 c3 c4
            go_wp2_with fail
            refine bodyPost_ret (v := .tuple #[.agg #[.int .i64 2, .int .i64 2, .int .i64 wd, .slice xa xl xc], .bool true]) (by simp [results, Try.results35, go_sem, r0, r1, r2, r3]) rfl ?_
            rw [HE.out]
            refine ⟨_, rfl, ?_, ?_⟩
            · show IRows _ _ (make.rowsOf _ _)
              rw [← HRQ.out]
              refine (U10.out.low ?_).rows
              repeat (first | (with_reducible exact Wrote.refl _ _) | (with_reducible refine Wrote.setCell ?_ (by simp) _))
            · repeat (first | (with_reducible exact B10.out) | (with_reducible refine Below.setCell ?_ (by simp) _))
          · rw [res_none hs ha]
            have HBX := Lib.hid (fun (u : Value) (W : World) (hu : IRows W u (mws.M xss n s)) => val.spec_any 2 2 (wh + 2 * s) u (mws.M xss n s) W hu HTO.out)
            have EB := Lib.hid (boxB_no (x := 2) (y := 2) (wh := wh + 2 * s) (xss := mws.M xss n s) (fun h => ha ⟨by omega, h.2.1.2⟩))
            clear ha
            go_enter Try.func35, Try.ntmps35
            go_wp2_with fail
            refine HQ.out.mono ?_
            rintro e w1 ⟨rfl, hb⟩
            have B1 := Lib.hid (below_tr B0.out hb)
            have K1 := Lib.hid (K0.out.below hb)
            have R1 := Lib.hid (R0.out.below hb)
            have B8 := Lib.hid (below_al B1.out (.cells #[.int .i64 2, .int .i64 2, .int .i64 wh, .slice va vn vc] 24))
            have R8 := Lib.hid (R1.out.alloc (.cells #[.int .i64 2, .int .i64 2, .int .i64 wh, .slice va vn vc] 24))
            have K8 := Lib.hid (Blk.new w1 24 #[.int .i64 2, .int .i64 2, .int .i64 wh, .slice va vn vc])
            obtain ⟨c0, c1, c2, c3, c4⟩ := four_cells K1.out
            clear hb HQ B0 K0 R0
            go_wp2_with fail
            refine (HK.out _).mono ?_
            rintro e w' ⟨rfl, rfl⟩
            go_wp2_with fail
            refine (HI.out _).mono ?_
            rintro e w' ⟨rfl, rfl⟩
            go_wp2_with fail
            clear c0 c1 c2 c3 c4
            have hlt : w.heap.size < w1.heap.size := K1.out.lt
            have hBz : w1.heap.size ≤ (w1.alloc (.cells #[.int .i64 2, .int .i64 2, .int .i64 wh, .slice va vn vc] 24)).heap.size := by simp
            have HVW := Lib.hid (fun (W : World) (hb : Below w1.heap.size (w1.alloc (.cells #[.int .i64 2, .int .i64 2, .int .i64 wh, .slice va vn vc] 24)) W) => H.out.below (B1.out.trans ((((Below.refl w1.heap.size w1).alloc (Nat.le_refl _) (.cells #[.int .i64 2, .int .i64 2, .int .i64 wh, .slice va vn vc] 24)).trans hb).mono B1.out.size)))
            obtain ⟨c0, c1, c2, c3, c4⟩ := four_cells (K1.out.alloc (.cells #[.int .i64 2, .int .i64 2, .int .i64 wh, .slice va vn vc] 24))
            go_region_held3 (fun w' => w'.cell? ⟨w.heap.size, 0, none⟩ = some (.int .i64 2) ∧ w'.cell? ⟨w.heap.size, 1, none⟩ = some (.int .i64 2) ∧ w'.cell? ⟨w.heap.size, 2, none⟩ = some (.int .i64 wh) ∧ w'.cell? ⟨w.heap.size, 3, none⟩ = some (.slice va vn vc) ∧ Below w1.heap.size (w1.alloc (.cells #[.int .i64 2, .int .i64 2, .int .i64 wh, .slice va vn vc] 24)) w')
              ((refine heldB c0 c1 c2 c3 hlt hlt hlt hlt ?_; repeat (first | (with_reducible exact Below.refl _ _) | (with_reducible assumption) | (with_reducible refine Below.setCell ?_ (by simp) _) | (with_reducible refine bB_dr ?_) | (with_reducible refine bB_al hBz ?_ _) | (with_reducible refine bB_tr hBz ?_ (by assumption)))))
              (first
                | (go_at_call 54; (with_reducible refine (HSM.out _).mono ?_); rintro e w2 ⟨u1, rfl, hu1, hb1⟩; obtain ⟨ya, yl, yc, rfl⟩ := hu1.rows.shape)
                | (go_at_call 78; (with_reducible refine (HTM.out _ _ hu1.rows).mono ?_); rintro e w3 ⟨u2, rfl, hu2, hb2⟩; obtain ⟨ua, ul, uc, rfl⟩ := hu2.shape)
                | (go_at_call 82; (with_reducible refine (HMX.out _ _ (HVW.out _ ?_) hu2).mono ?_); (exact bB_tr hBz (bB_tr hBz (bB_dr (Below.refl _ _)) hb1) hb2); rintro e w4 ⟨u3, rfl, hu3, hb3⟩; obtain ⟨xa, xl, xc, rfl⟩ := hu3.rows.shape; have K4 := Lib.hid (K8.out.below (below_tr (below_tr (below_tr (below_dr (Below.refl _ _)) hb1) hb2) hb3)); obtain ⟨q0, q1, q2, q3, q4⟩ := four_cells K4.out; have rf4 : ∀ k, w4.frozen? ⟨w1.heap.size, k, none⟩ = false := fun k => Joins.unfrozen_of_block K4.out k))
            have BX := Lib.hid (below_tr (below_tr (below_tr (below_dr (Below.refl _ (w1.alloc (.cells #[.int .i64 2, .int .i64 2, .int .i64 wh, .slice va vn vc] 24)))) hb1) hb2) hb3)
            have B4 := Lib.hid (below_tr B8.out BX.out)
            have R4 := Lib.hid (R8.out.below BX.out)
            have hs2 := hb1.size
            have hs3 := hb2.size
            have hr1 := R1.out.lt
            have hw1 := B1.out.size
            have U4 := Lib.hid (hu3.mono (B' := w1.heap.size + 1) (by simp at hs2; omega))
            have B8 := Lib.hid (mix.set4_below (.int .i64 2) (.int .i64 2) (.int .i64 (wh + 2 * s)) (.slice xa xl xc) B4.out hw1)
            have R8 := Lib.hid (R4.out.wrote (mix.set4_wrote w4 w1.heap.size (.int .i64 2) (.int .i64 2) (.int .i64 (wh + 2 * s)) (.slice xa xl xc)) (fun p (hp : p.block = w1.heap.size) => by omega))
            have K8 := Lib.hid (mix.set4_same (.int .i64 2) (.int .i64 2) (.int .i64 (wh + 2 * s)) (.slice xa xl xc) K4.out)
            have U8 : Hid (IRows (mix.set4 w4 w1.heap.size (.int .i64 2) (.int .i64 2) (.int .i64 (wh + 2 * s)) (.slice xa xl xc)) (.slice xa xl xc) (mws.M xss n s)) := Lib.hid (U4.out.low ((mix.set4_wrote _ _ _ _ _ _).mono (fun p (hp : p.block = w1.heap.size) => by omega))).rows
            have WX : mix.set4 w4 w1.heap.size (.int .i64 2) (.int .i64 2) (.int .i64 (wh + 2 * s)) (.slice xa xl xc) = (((w4.setCell ⟨w1.heap.size, 0, none⟩ (.int .i64 2)).setCell ⟨w1.heap.size, 1, none⟩ (.int .i64 2)).setCell ⟨w1.heap.size, 2, none⟩ (.int .i64 (wh + 2 * s))).setCell ⟨w1.heap.size, 3, none⟩ (.slice xa xl xc) := rfl
            rw [WX] at B8 R8 K8 U8
            clear BX B4 R4 K4 U4 hs2 hs3 hb1 hb2 hb3 hu1 hu2 hu3 HSM HTM HMX HVW c0 c1 c2 c3 c4 WX
            go_wp2_with fail
            refine (HBX.out _ _ U8.out).mono ?_
            rintro e w9 ⟨rfl, hb9⟩
            rw [EB.out]
            have B9 := Lib.hid (below_tr B8.out hb9)
            have R9 := Lib.hid (R8.out.below hb9)
            obtain ⟨r0, r1, r2, r3, r4⟩ := four_cells R9.out
            have rf : ∀ k, w9.frozen? ⟨w.heap.size + 1, k, none⟩ = false := fun k => Joins.unfrozen_of_block R9.out k
            clear hb9 B8 R8 K8 U8 HBX EB
            go_wp2_with fail
            refine bodyPost_ret (v := .tuple #[.agg #[.int .i64 0, .int .i64 0, .int .i64 0, .slice none 0 0], .bool false]) (by simp [results, Try.results35, go_sem, r0, r1, r2, r3]) rfl ⟨_, rfl, IRows.nil _, ?_⟩
            repeat (first | (with_reducible exact B9.out) | (with_reducible refine Below.setCell ?_ (by simp) _))
      · have HI := Lib.hid (fun W => val.in_no s 0 1000 W (by omega))
        rw [res_none (by omega) (fun h => hr ⟨by have := h.1; omega, by have := h.2; have := HOK.out.2.1; omega⟩)]
        clear hr
        go_enter Try.func35, Try.ntmps35
        go_wp2_with fail
        refine HQ.out.mono ?_
        rintro e w1 ⟨rfl, hb⟩
        have B1 := Lib.hid (below_tr B0.out hb)
        have K1 := Lib.hid (K0.out.below hb)
        have R1 := Lib.hid (R0.out.below hb)
        obtain ⟨c0, c1, c2, c3, c4⟩ := four_cells K1.out
        obtain ⟨r0, r1, r2, r3, r4⟩ := four_cells R1.out
        have rf := fun k => Joins.unfrozen_of_block R1.out k
        clear hb HQ B0 K0 R0
        go_wp2_with fail
        refine (HK.out _).mono ?_
        rintro e w' ⟨rfl, rfl⟩
        go_wp2_with fail
        refine (HI.out _).mono ?_
        rintro e w' ⟨rfl, rfl⟩
        go_wp2_with fail
        refine bodyPost_ret (v := .tuple #[.agg #[.int .i64 0, .int .i64 0, .int .i64 0, .slice none 0 0], .bool false]) (by simp [results, Try.results35, go_sem, r0, r1, r2, r3]) rfl ⟨_, rfl, IRows.nil _, ?_⟩
        repeat (first | (with_reducible exact B1.out) | (with_reducible refine Below.setCell ?_ (by simp) _))
    · have HK := Lib.hid (fun W => eqm.kind_no k W hk)
      rw [res_out (fun h => hk h.2)]
      clear hk
      go_enter Try.func35, Try.ntmps35
      go_wp2_with fail
      refine HQ.out.mono ?_
      rintro e w1 ⟨rfl, hb⟩
      have B1 := Lib.hid (below_tr B0.out hb)
      have K1 := Lib.hid (K0.out.below hb)
      have R1 := Lib.hid (R0.out.below hb)
      obtain ⟨r0, r1, r2, r3, r4⟩ := four_cells R1.out
      have rf := fun k => Joins.unfrozen_of_block R1.out k
      clear hb HQ B0 K0 R0
      go_wp2_with fail
      refine (HK.out _).mono ?_
      rintro e w' ⟨rfl, rfl⟩
      go_wp2_with fail
      refine bodyPost_ret (v := .tuple #[.agg #[.int .i64 0, .int .i64 0, .int .i64 0, .slice none 0 0], .bool false]) (by simp [results, Try.results35, go_sem, r0, r1, r2, r3]) rfl ⟨_, rfl, IRows.nil _, ?_⟩
      repeat (first | (with_reducible exact B1.out) | (with_reducible refine Below.setCell ?_ (by simp) _))
  · rw [qtB_no ht] at hq
    rw [res_out (fun h => ht h.1)]
    have HQ := Lib.hid hq
    clear hq ht
    go_enter Try.func35, Try.ntmps35
    go_wp2_with fail
    refine HQ.out.mono ?_
    rintro e w1 ⟨rfl, hb⟩
    have B1 := Lib.hid (below_tr B0.out hb)
    have K1 := Lib.hid (K0.out.below hb)
    have R1 := Lib.hid (R0.out.below hb)
    obtain ⟨r0, r1, r2, r3, r4⟩ := four_cells R1.out
    have rf := fun k => Joins.unfrozen_of_block R1.out k
    clear hb HQ B0 K0 R0
    go_wp2_with fail
    refine bodyPost_ret (v := .tuple #[.agg #[.int .i64 0, .int .i64 0, .int .i64 0, .slice none 0 0], .bool false]) (by simp [results, Try.results35, go_sem, r0, r1, r2, r3]) rfl ⟨_, rfl, IRows.nil _, ?_⟩
    repeat (first | (with_reducible exact B1.out) | (with_reducible refine Below.setCell ?_ (by simp) _))


end Go.Proofs.Ytlaaiahkdkhehaa.joi
