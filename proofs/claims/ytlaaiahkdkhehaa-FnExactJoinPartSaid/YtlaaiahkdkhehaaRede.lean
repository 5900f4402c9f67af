/- ReduceBox of the model: the whole. -/
import Derived.Test.YtlaaiahkdkhehaaRedb
import Derived.Test.YtlaaiahkdkhehaaRedc
namespace Go.Proofs.Ytlaaiahkdkhehaa.red
open Go.RowKit Go.Deep Go.Proofs.Ytlaaiahkdkhehaa.base
open Go.Proofs.Ytlaaiahkdkhehaa.ints (ret_int infoInt infoInts)
open Go.Proofs.Ytlaaiahkdkhehaa.rws (total)
open Go.Proofs.Ytlaaiahkdkhehaa.val (okSizes okBox boxB boxB_yes boxB_no)
open Go.Proofs.Ytlaaiahkdkhehaa.row (nn nn_bd at_ at_lt)
open Go.Proofs.Ytlaaiahkdkhehaa.worth (row4 box_len)

theorem rows_eq {X Y : Nat} {wh kk : Int} {xss : List (List Int)} (h : okBox X Y wh xss) : (List.range xss.length).map (D xss kk) = make.rowsOf (N xss kk) (X * Y) := by
  have hl := h.2.2.1
  have hl' : xss.length = X * Y := by rw [← Int.natCast_mul] at hl; omega
  unfold make.rowsOf
  rw [← hl']
  refine List.map_congr_left (fun r hr => ?_)
  have hr' : r < xss.length := by simpa using hr
  have h4 := (h.2.2.2 r hr').1
  unfold D make.quad N row.nn
  rw [row.getD_lt hr']
  generalize xss[r] = q at *
  match q, h4 with
  | [a, b, c, d], _ => rfl

set_option maxHeartbeats 2000000 in
theorem l2reduced (x y wh : Int) (v : Value) (xss : List (List Int)) (w : World) (h : IRows w v xss) (hok : okBox x y wh xss) :
    Calls Try.prog 84 #[.agg #[.int .i64 x, .int .i64 y, .int .i64 wh, v]] w fun e w' => ∃ u, e = .returned (.agg #[.int .i64 x, .int .i64 y, .int .i64 (wh / (dv wh xss : Int)), u]) ∧ built.Apart w' (w.heap.size + 1) u xss.length (D xss (dv wh xss)) ∧ Below w.heap.size w w' := by
  have HV0 := Lib.hid h
  obtain ⟨A, b, o, vc, R, rfl, hcap, hmax, hA, hc⟩ := h.form
  have hl9 := val.ok_len hok
  have HOK := Lib.hid hok
  obtain ⟨k, hk⟩ : ∃ k : Nat, wh = k := ⟨wh.toNat, by have := hok.2.1; omega⟩
  have hk1 : k ≤ 1000 := by have := hok.2.1; omega
  have HK : Hid (k = cg xss wh (4 * 0)) := Lib.hid (by show k = wh.toNat; omega)
  have HB := Lib.hid (fun t => (show cg xss wh t ≤ 1000 from by have := cg_le (xss := xss) hok.2.1.1 t; have := hok.2.1; omega))
  subst hk
  have B0 := Lib.hid (below_al (below_al (Below.refl w.heap.size w) (.cells #[.int .i64 x, .int .i64 y, .int .i64 (k : Int), .slice A xss.length vc] 24)) (.cells #[.int .i64 0, .int .i64 0, .int .i64 0, .slice none 0 0] 24))
  have R0 : Hid (Blk (((w.alloc (.cells #[.int .i64 x, .int .i64 y, .int .i64 (k : Int), .slice A xss.length vc] 24)).alloc (.cells #[.int .i64 0, .int .i64 0, .int .i64 0, .slice none 0 0] 24))) (w.heap.size + 1) 24 #[.int .i64 0, .int .i64 0, .int .i64 0, .slice none 0 0]) := Lib.hid (by
    have := Blk.new (w.alloc (.cells #[.int .i64 x, .int .i64 y, .int .i64 (k : Int), .slice A xss.length vc] 24)) 24 #[.int .i64 0, .int .i64 0, .int .i64 0, .slice none 0 0]
    simpa using this)
  have P0 : Hid (Blk (((w.alloc (.cells #[.int .i64 x, .int .i64 y, .int .i64 (k : Int), .slice A xss.length vc] 24)).alloc (.cells #[.int .i64 0, .int .i64 0, .int .i64 0, .slice none 0 0] 24))) w.heap.size 24 #[.int .i64 x, .int .i64 y, .int .i64 (k : Int), .slice A xss.length vc]) := Lib.hid ((Blk.new w 24 #[.int .i64 x, .int .i64 y, .int .i64 (k : Int), .slice A xss.length vc]).alloc _)
  clear h hok hmax
  go_enter Try.func84, Try.ntmps84
  go_wp2_with fail
  go_loopw [3, 4, 5] (fun s i z5 wr => ∃ r g : Nat, r ≤ xss.length ∧ i = .int .i64 r ∧ s = .int .i64 g ∧ g ≤ 1000 ∧ (∃ z, z5 = z) ∧ Hid (g = cg xss (k : Int) (4 * r)) ∧ ∃ q, wr = (((w.alloc (.cells #[.int .i64 x, .int .i64 y, .int .i64 (k : Int), .slice A xss.length vc] 24)).alloc (.cells #[.int .i64 0, .int .i64 0, .int .i64 0, .slice none 0 0] 24))).drewN q) (fun _ i _ _ => xss.length - (intOf i).toNat)
  case atStart => exact ⟨0, k, Nat.zero_le _, rfl, rfl, hk1, ⟨_, rfl⟩, HK, 0, rfl⟩
  case round =>
    obtain ⟨r, g, hr, rfl, rfl, hg1, ⟨z5, rfl⟩, hC, q, rfl⟩ := hrel
    by_cases hlt : r < xss.length
    · have hkz : (r : Int) < (xss.length : Int) := by omega
      obtain rfl := hA (by omega)
      have g0 := (hc r hlt).1
      have gl := World.block_lt_of_cell? _ _ g0
      obtain ⟨b2, o2, cap2, hR, hcap2, hl2, hc2⟩ := row4 hlt (box_len HOK.out hlt) (hc r hlt).2
      rw [hR] at g0
      have HC := Lib.hid hc
      clear hc hA hR
      go_wp2_with fail
      go_loopw [3, 5] (fun s i wr => ∃ d g : Nat, d ≤ 4 ∧ i = .int .i64 d ∧ s = .int .i64 g ∧ g ≤ 1000 ∧ Hid (g = cg xss (k : Int) (4 * r + d)) ∧ ∃ q, wr = (((w.alloc (.cells #[.int .i64 x, .int .i64 y, .int .i64 (k : Int), .slice (some ⟨b, o, none⟩) xss.length vc] 24)).alloc (.cells #[.int .i64 0, .int .i64 0, .int .i64 0, .slice none 0 0] 24))).drewN q) (fun _ i _ => 4 - (intOf i).toNat)
      case atStart => exact ⟨0, g, Nat.zero_le _, rfl, rfl, hg1, hC, q, rfl⟩
      case round =>
        clear hC hg1
        obtain ⟨d, g, hd, rfl, rfl, hg1, hC, q, rfl⟩ := hrel
        by_cases hdl : d < 4
        · have hdz : (d : Int) < 4 := by omega
          have g1 := hc2 d hdl
          have nb := nn_bd HOK.out hlt hdl
          obtain ⟨m, hm⟩ : ∃ m : Nat, nn xss r d = m := ⟨(nn xss r d).toNat, by omega⟩
          have hm1 : m ≤ 1000 := by omega
          have HST := Lib.hid (step_g (r := r) hdl hC.out hm)
          rw [hm] at g1
          have HC2 := Lib.hid hc2
          have HBD := Lib.hid (HB.out (4 * r + (d + 1)))
          clear hc2 nb hm
          go_wp2_with fail
          refine (l2gcd g m _ hg1 hm1).mono ?_
          rintro e w' ⟨rfl, n, rfl⟩
          rw [HST.out]
          obtain ⟨g', hg'⟩ : ∃ g', cg xss (k : Int) (4 * r + (d + 1)) = g' := ⟨_, rfl⟩
          have HG' := Lib.hid hg'.symm
          have hgb : g' ≤ 1000 := hg' ▸ HBD.out
          rw [hg']
          clear hg'
          go_wp2_with fail
          go_roundw
          case rel => exact ⟨d + 1, g', by omega, by go_num, rfl, hgb, HG', by first | exact ⟨_, rfl⟩ | exact ⟨_, ints.drewN_drewN _ _ _⟩⟩
          case measure => simp [intOf]; omega
        · have hdz : ¬ (d : Int) < 4 := by omega
          obtain rfl : d = 4 := by omega
          clear hc2
          go_wp2_with fail
          go_roundw
          case rel => exact ⟨r + 1, g, by omega, by go_num, rfl, hg1, ⟨_, rfl⟩, hC, _, rfl⟩
          case measure => simp [intOf]; omega
    · have hkz : ¬ (r : Int) < (xss.length : Int) := by omega
      have HE : Hid (g = dv (k : Int) xss) := Lib.hid (by rw [hC.out]; unfold dv; rw [show r = xss.length from by omega])
      have hgp : (1 : Int) ≤ (g : Int) := by have := dv_pos HOK.out; have := HE.out; omega
      have BQ := Lib.hid (below_drewN B0.out q)
      have RQ := Lib.hid (R0.out.below (below_drewN (Below.refl _ _) q))
      have HL := Lib.hid (l2times x y k _ xss (g : Int) _ (HV0.out.below BQ.out) HOK.out hgp (by omega))
      clear hc hA
      go_wp2_with fail
      refine HL.out.mono ?_
      rintro e w1 ⟨u, rfl, hu, hb⟩
      obtain ⟨ua, ul, uc, rfl⟩ := hu.rows.shape
      have B1 := Lib.hid (below_tr BQ.out hb)
      have R1 := Lib.hid (RQ.out.below hb)
      have U1 := Lib.hid (hu.mono (B' := w.heap.size + 1 + 1) (by simp [World.drewN]))
      obtain ⟨r0, r1, r2, r3, r4⟩ := four_cells R1.out
      have rf : ∀ k, w1.frozen? ⟨w.heap.size + 1, k, none⟩ = false := fun k => Joins.unfrozen_of_block R1.out k
      clear hu hb HL
      go_wp2_with fail
      refine bodyPost_ret (v := .agg #[.int .i64 x, .int .i64 y, .int .i64 ((k : Int) / (g : Int)), .slice ua ul uc]) (by simp [results, Try.results84, go_sem, r0, r1, r2, r3]) rfl ⟨.slice ua ul uc, by rw [HE.out], ?_, ?_⟩
      · rw [← HE.out]
        refine (U1.out.low ?_).mono (by omega)
        repeat (first | exact Wrote.refl _ _ | refine Wrote.setCell ?_ (by simp) _)
      · repeat (refine Below.setCell ?_ (by simp <;> omega) _)
        exact B1.out



end Go.Proofs.Ytlaaiahkdkhehaa.red
