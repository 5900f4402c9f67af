/- NoisySum of the program. -/
import Derived.Test.YtkikdecepdbbnabMws
import Derived.Test.YtkikdecepdbbnabNoise
namespace Go.Proofs.Ytkikdecepdbbnab.nsi
open Go.RowKit Go.Deep Go.Proofs.Ytkikdecepdbbnab.base
open Go.Proofs.Ytkikdecepdbbnab.rws (total)
open Go.Proofs.Ytkikdecepdbbnab.val (okBox okSizes)

/-- the noise's rows -/
def nz (z : Int) : List (List Int) := make.rowsOf (noise.N z) 4
theorem sizes : okSizes 2 2 := ⟨by omega, by omega⟩
theorem nz_ok {z : Int} (h : 1 ≤ z ∧ z ≤ 250) : okBox 2 2 (4 * z) (nz z) := noise.box_ok (X := 2) (Y := 2) sizes h.1 h.2
theorem noise_yes {z : Int} (h : 1 ≤ z ∧ z ≤ 250) : noise.res 2 2 z = ⟨2, 2, 4 * z, nz z, true⟩ := noise.res_yes ⟨sizes, h⟩
theorem noise_no {z : Int} (h : ¬ (1 ≤ z ∧ z ≤ 250)) : noise.res 2 2 z = make.Res.zero := noise.res_no (fun h' => h h'.2)
open Classical in
noncomputable def res (k s z : Int) : make.Res :=
  if 0 ≤ k ∧ k ≤ 7 then (if z = 0 then scale.res 2 2 2 (mws.sr k.toNat) s else if 1 ≤ z ∧ z ≤ 250 then (if s = 0 then ⟨2, 2, 4 * z, nz z, true⟩ else mws.res (4 * z) (nz z) k.toNat s) else make.Res.zero) else make.Res.zero
theorem res_out {k s z : Int} (h : ¬ (0 ≤ k ∧ k ≤ 7)) : res k s z = make.Res.zero := if_neg h
theorem res_sum {k : Nat} {s : Int} (h : k < 8) : res k s 0 = scale.res 2 2 2 (mws.sr k) s := by
  unfold res; rw [if_pos (by omega), if_pos rfl]; rfl
theorem res_noise {k : Nat} {z : Int} (h : k < 8) (hz : 1 ≤ z ∧ z ≤ 250) : res k 0 z = ⟨2, 2, 4 * z, nz z, true⟩ := by
  unfold res; rw [if_pos (by omega), if_neg (by omega), if_pos hz, if_pos rfl]
theorem res_both {k : Nat} {s z : Int} (h : k < 8) (hz : 1 ≤ z ∧ z ≤ 250) (hs : ¬ s = 0) : res k s z = mws.res (4 * z) (nz z) k s := by
  unfold res; rw [if_pos (by omega), if_neg (by omega), if_pos hz, if_neg hs]; rfl
theorem res_loud {k s z : Int} (h0 : ¬ z = 0) (hz : ¬ (1 ≤ z ∧ z ≤ 250)) : res k s z = make.Res.zero := by
  unfold res
  by_cases h : 0 ≤ k ∧ k ≤ 7
  · rw [if_pos h, if_neg h0, if_neg hz]
  · rw [if_neg h]
theorem tot (k s z : Int) : total (res k s z).rows ≤ 1048576 := by
  unfold res
  split
  · split
    · exact scale.tot _ _ _ _ _
    · split
      · split
        · exact make.total_rowsOf _ _ (by omega)
        · unfold mws.res
          split
          · exact make.total_rowsOf _ _ (by omega)
          · exact Nat.zero_le _
      · exact Nat.zero_le _
  · exact Nat.zero_le _


set_option maxHeartbeats 8000000 in
theorem impl_any (k s z : Int) (w : World) :
    Calls Try.prog 33 #[.int .i64 k, .int .i64 s, .int .i64 z] w fun e w' => ∃ r, e = .returned (.tuple #[.agg #[.int .i64 (res k s z).x, .int .i64 (res k s z).y, .int .i64 (res k s z).wh, r], .bool (res k s z).ok]) ∧ OwnRows w' w.heap.size w'.heap.size r (res k s z).rows ∧ Below w.heap.size w w' := by
  have B0 := Lib.hid (below_al (Below.refl w.heap.size w) (.cells #[.int .i64 0, .int .i64 0, .int .i64 0, .slice none 0 0] 41))
  have R0 := Lib.hid (Blk.new w 41 #[.int .i64 0, .int .i64 0, .int .i64 0, .slice none 0 0])
  have HQ := Lib.hid (fun W => eqm.impl_any k W)
  have zx : make.Res.zero.x = 0 := rfl
  have zy : make.Res.zero.y = 0 := rfl
  have zw : make.Res.zero.wh = 0 := rfl
  have zo : make.Res.zero.ok = false := rfl
  by_cases hk : 0 ≤ k ∧ k ≤ 7
  · obtain ⟨n, rfl⟩ : ∃ n : Nat, k = n := ⟨k.toNat, by omega⟩
    have HKN : Hid (n < 8) := Lib.hid (by omega)
    clear hk
    rw [eqm.res_yes HKN.out] at HQ
    by_cases h0 : z = 0
    · subst h0
      rw [res_sum HKN.out]
      have HSC := Lib.hid (fun (u : Value) (W : World) (hu : IRows W u (mws.sr n)) => scale.impl_any 2 2 2 u (mws.sr n) s W hu (make.total_rowsOf _ _ (by omega)))
      go_enter Try.func33, Try.ntmps33
      go_wp2_with fail
      refine (HQ.out _).mono ?_
      rintro e w1 ⟨u, rfl, hu, hb⟩
      obtain ⟨va, vl, vc, rfl⟩ := hu.rows.shape
      have HU : Hid (IRows w1 (.slice va vl vc) (mws.sr n)) := Lib.hid hu.rows
      have B1 := Lib.hid (below_al (below_tr B0.out hb) (.cells #[.int .i64 2, .int .i64 2, .int .i64 2, .slice va vl vc] 41))
      have R1 := Lib.hid ((R0.out.below hb).alloc (.cells #[.int .i64 2, .int .i64 2, .int .i64 2, .slice va vl vc] 41))
      have hbx := Lib.hid (below_al (Below.refl w1.heap.size w1) (.cells #[.int .i64 2, .int .i64 2, .int .i64 2, .slice va vl vc] 41))
      clear hu hb HQ B0 R0
      go_wp2_with fail
      refine (HSC.out _ _ (HU.out.below hbx.out)).mono ?_
      rintro e w4 ⟨r, rfl, hr, hb⟩
      obtain ⟨ra, rl, rc, rfl⟩ := hr.rows.shape
      have HR := Lib.hid hr
      have hz := B1.out.size
      have hz1 := R1.out.lt
      have B4 := Lib.hid (below_tr B1.out hb)
      have R4 := Lib.hid (R1.out.below hb)
      clear hb hr
      obtain ⟨r0, r1, r2, r3, r4⟩ := four_cells R4.out
      have rf := fun k => Joins.unfrozen_of_block R4.out k
      clear HSC
      obtain ⟨z0, hz0⟩ : ∃ z0, z0 = scale.res 2 2 2 (mws.sr n) s := ⟨_, rfl⟩
      rw [← hz0] at HR ⊢
      have HZ := Lib.hid hz0
      clear hz0
      go_wp2_with fail
      refine bodyPost_ret (v := .tuple #[.agg #[.int .i64 z0.x, .int .i64 z0.y, .int .i64 z0.wh, .slice ra rl rc], .bool z0.ok]) (by simp [results, Try.results33, go_sem, r0, r1, r2, r3]) rfl ?_
      rw [← HZ.out]
      refine ⟨_, rfl, ?_, ?_⟩
      · refine (HR.out.wrote (S := fun p => p.block < w.heap.size + 1) ?_ (fun p hp => .inl (by have hp' : p.block < w.heap.size + 1 := hp; simp at hz hz1 ⊢; omega))).mono (by simp at hz hz1 ⊢; omega) (by simp [World.setCell])
        repeat (first | (with_reducible exact Wrote.refl _ _) | (with_reducible refine Wrote.setCell ?_ (by simp) _))
      · repeat (first | (with_reducible exact B4.out) | (with_reducible refine Below.setCell ?_ (by simp) _))
    · have HNS := Lib.hid (fun W => noise.impl_any 2 2 z W)
      by_cases hz : 1 ≤ z ∧ z ≤ 250
      · rw [noise_yes hz] at HNS
        by_cases hs : s = 0
        · subst hs
          rw [res_noise HKN.out hz]
          clear hz
          go_enter Try.func33, Try.ntmps33
          go_wp2_with fail
          refine (HQ.out _).mono ?_
          rintro e w1 ⟨u, rfl, hu, hb⟩
          obtain ⟨va, vl, vc, rfl⟩ := hu.rows.shape
          have B1 := Lib.hid (below_al (below_tr B0.out hb) (.cells #[.int .i64 2, .int .i64 2, .int .i64 2, .slice va vl vc] 41))
          have R1 := Lib.hid ((R0.out.below hb).alloc (.cells #[.int .i64 2, .int .i64 2, .int .i64 2, .slice va vl vc] 41))
          clear hu hb HQ B0 R0
          go_wp2_with fail
          refine (HNS.out _).mono ?_
          rintro e w4 ⟨r, rfl, hr, hb⟩
          obtain ⟨ra, rl, rc, rfl⟩ := hr.rows.shape
          have HR := Lib.hid hr
          have hz := B1.out.size
          have hz1 := R1.out.lt
          have B4 := Lib.hid (below_tr B1.out hb)
          have R4 := Lib.hid (R1.out.below hb)
          clear hb hr
          have hbx4 := Lib.hid (below_al (Below.refl w4.heap.size w4) (.cells #[.int .i64 2, .int .i64 2, .int .i64 (4 * z), .slice ra rl rc] 41))
          have B5 := Lib.hid (below_al B4.out (.cells #[.int .i64 2, .int .i64 2, .int .i64 (4 * z), .slice ra rl rc] 41))
          have R5 := Lib.hid (R4.out.alloc (.cells #[.int .i64 2, .int .i64 2, .int .i64 (4 * z), .slice ra rl rc] 41))
          obtain ⟨r0, r1, r2, r3, r4⟩ := four_cells R5.out
          have rf := fun k => Joins.unfrozen_of_block R5.out k
          clear HNS B4 R4
          go_wp2_with fail
          refine bodyPost_ret (v := .tuple #[.agg #[.int .i64 2, .int .i64 2, .int .i64 (4 * z), .slice ra rl rc], .bool true]) (by simp [results, Try.results33, go_sem, r0, r1, r2, r3]) rfl ?_
          refine ⟨_, rfl, ?_, ?_⟩
          · refine ((HR.out.keep hbx4.out).wrote (S := fun p => p.block < w.heap.size + 1) ?_ (fun p hp => .inl (by have hp' : p.block < w.heap.size + 1 := hp; simp at hz hz1 ⊢; omega))).mono (by simp at hz hz1 ⊢; omega) (by simp [World.setCell])
            repeat (first | (with_reducible exact Wrote.refl _ _) | (with_reducible refine Wrote.setCell ?_ (by simp) _))
          · repeat (first | (with_reducible exact B5.out) | (with_reducible refine Below.setCell ?_ (by simp) _))
        · rw [res_both HKN.out hz hs]
          have HM := Lib.hid (fun (u : Value) (W : World) (hu : IRows W u (nz z)) => mws.impl_any (4 * z) u (nz z) n s W hu (nz_ok hz) (make.total_rowsOf _ _ (by omega)) HKN.out)
          clear hz
          go_enter Try.func33, Try.ntmps33
          go_wp2_with fail
          refine (HQ.out _).mono ?_
          rintro e w1 ⟨u, rfl, hu, hb⟩
          obtain ⟨va, vl, vc, rfl⟩ := hu.rows.shape
          have B1 := Lib.hid (below_al (below_tr B0.out hb) (.cells #[.int .i64 2, .int .i64 2, .int .i64 2, .slice va vl vc] 41))
          have R1 := Lib.hid ((R0.out.below hb).alloc (.cells #[.int .i64 2, .int .i64 2, .int .i64 2, .slice va vl vc] 41))
          clear hu hb HQ B0 R0
          go_wp2_with fail
          refine (HNS.out _).mono ?_
          rintro e w4 ⟨r, rfl, hr, hb⟩
          obtain ⟨ra, rl, rc, rfl⟩ := hr.rows.shape
          have HR := Lib.hid hr
          have hz := B1.out.size
          have hz1 := R1.out.lt
          have B4 := Lib.hid (below_tr B1.out hb)
          have R4 := Lib.hid (R1.out.below hb)
          clear hb hr
          have hbx4 := Lib.hid (below_al (Below.refl w4.heap.size w4) (.cells #[.int .i64 2, .int .i64 2, .int .i64 (4 * z), .slice ra rl rc] 41))
          have B5 := Lib.hid (below_al B4.out (.cells #[.int .i64 2, .int .i64 2, .int .i64 (4 * z), .slice ra rl rc] 41))
          have R5 := Lib.hid (R4.out.alloc (.cells #[.int .i64 2, .int .i64 2, .int .i64 (4 * z), .slice ra rl rc] 41))
          have HV : Hid (IRows w4 (.slice ra rl rc) (nz z)) := Lib.hid HR.out.rows
          clear HNS B4 R4 HR hz hz1
          go_wp2_with fail
          refine (HM.out _ _ (HV.out.below hbx4.out)).mono ?_
          rintro e w6 ⟨r, rfl, hr, hb⟩
          obtain ⟨sa, sl, sc, rfl⟩ := hr.rows.shape
          have HR := Lib.hid hr
          have hz := B5.out.size
          have hz1 := R5.out.lt
          have B6 := Lib.hid (below_tr B5.out hb)
          have R6 := Lib.hid (R5.out.below hb)
          clear hb hr
          obtain ⟨r0, r1, r2, r3, r4⟩ := four_cells R6.out
          have rf := fun k => Joins.unfrozen_of_block R6.out k
          clear HM
          obtain ⟨z0, hz0⟩ : ∃ z0, z0 = mws.res (4 * z) (nz z) n s := ⟨_, rfl⟩
          rw [← hz0] at HR ⊢
          have HZ := Lib.hid hz0
          clear hz0
          go_wp2_with fail
          refine bodyPost_ret (v := .tuple #[.agg #[.int .i64 z0.x, .int .i64 z0.y, .int .i64 z0.wh, .slice sa sl sc], .bool z0.ok]) (by simp [results, Try.results33, go_sem, r0, r1, r2, r3]) rfl ?_
          rw [← HZ.out]
          refine ⟨_, rfl, ?_, ?_⟩
          · refine (HR.out.wrote (S := fun p => p.block < w.heap.size + 1) ?_ (fun p hp => .inl (by have hp' : p.block < w.heap.size + 1 := hp; simp at hz hz1 ⊢; omega))).mono (by simp at hz hz1 ⊢; omega) (by simp [World.setCell])
            repeat (first | (with_reducible exact Wrote.refl _ _) | (with_reducible refine Wrote.setCell ?_ (by simp) _))
          · repeat (first | (with_reducible exact B6.out) | (with_reducible refine Below.setCell ?_ (by simp) _))
      · rw [noise_no hz] at HNS
        rw [res_loud h0 hz]
        clear hz
        go_enter Try.func33, Try.ntmps33
        go_wp2_with fail
        refine (HQ.out _).mono ?_
        rintro e w1 ⟨u, rfl, hu, hb⟩
        obtain ⟨va, vl, vc, rfl⟩ := hu.rows.shape
        have B1 := Lib.hid (below_al (below_tr B0.out hb) (.cells #[.int .i64 2, .int .i64 2, .int .i64 2, .slice va vl vc] 41))
        have R1 := Lib.hid ((R0.out.below hb).alloc (.cells #[.int .i64 2, .int .i64 2, .int .i64 2, .slice va vl vc] 41))
        clear hu hb HQ B0 R0
        go_wp2_with fail
        refine (HNS.out _).mono ?_
        rintro e w4 ⟨r, rfl, hr, hb⟩
        obtain ⟨ra, rl, rc, rfl⟩ := hr.rows.shape
        have HR := Lib.hid hr
        have hz := B1.out.size
        have hz1 := R1.out.lt
        have B4 := Lib.hid (below_tr B1.out hb)
        have R4 := Lib.hid (R1.out.below hb)
        clear hb hr
        have hbx4 := Lib.hid (below_al (Below.refl w4.heap.size w4) (.cells #[.int .i64 0, .int .i64 0, .int .i64 0, .slice ra rl rc] 41))
        have B5 := Lib.hid (below_al B4.out (.cells #[.int .i64 0, .int .i64 0, .int .i64 0, .slice ra rl rc] 41))
        have R5 := Lib.hid (R4.out.alloc (.cells #[.int .i64 0, .int .i64 0, .int .i64 0, .slice ra rl rc] 41))
        obtain ⟨r0, r1, r2, r3, r4⟩ := four_cells R5.out
        have rf := fun k => Joins.unfrozen_of_block R5.out k
        clear HNS B4 R4
        go_wp2_with fail
        refine bodyPost_ret (v := .tuple #[.agg #[.int .i64 0, .int .i64 0, .int .i64 0, .slice ra rl rc], .bool false]) (by simp [results, Try.results33, go_sem, r0, r1, r2, r3]) rfl ?_
        refine ⟨_, rfl, ?_, ?_⟩
        · refine ((HR.out.keep hbx4.out).wrote (S := fun p => p.block < w.heap.size + 1) ?_ (fun p hp => .inl (by have hp' : p.block < w.heap.size + 1 := hp; simp at hz hz1 ⊢; omega))).mono (by simp at hz hz1 ⊢; omega) (by simp [World.setCell])
          repeat (first | (with_reducible exact Wrote.refl _ _) | (with_reducible refine Wrote.setCell ?_ (by simp) _))
        · repeat (first | (with_reducible exact B5.out) | (with_reducible refine Below.setCell ?_ (by simp) _))
  · rw [eqm.res_no hk] at HQ
    rw [res_out hk]
    clear hk
    go_enter Try.func33, Try.ntmps33
    go_wp2_with fail
    refine (HQ.out _).mono ?_
    rintro e w1 ⟨u, rfl, hu, hb⟩
    obtain ⟨va, vl, vc, rfl⟩ := hu.rows.shape
    have B1 := Lib.hid (below_al (below_tr B0.out hb) (.cells #[.int .i64 0, .int .i64 0, .int .i64 0, .slice va vl vc] 41))
    have R1 := Lib.hid ((R0.out.below hb).alloc (.cells #[.int .i64 0, .int .i64 0, .int .i64 0, .slice va vl vc] 41))
    clear hu hb HQ B0 R0
    obtain ⟨r0, r1, r2, r3, r4⟩ := four_cells R1.out
    have rf := fun k => Joins.unfrozen_of_block R1.out k
    go_wp2_with fail
    refine bodyPost_ret (v := .tuple #[.agg #[.int .i64 0, .int .i64 0, .int .i64 0, .slice none 0 0], .bool false]) (by simp [results, Try.results33, go_sem, r0, r1, r2, r3]) rfl ⟨_, rfl, OwnRows.nil _ _ _, ?_⟩
    repeat (first | (with_reducible exact B1.out) | (with_reducible refine Below.setCell ?_ (by simp) _))


end Go.Proofs.Ytkikdecepdbbnab.nsi
