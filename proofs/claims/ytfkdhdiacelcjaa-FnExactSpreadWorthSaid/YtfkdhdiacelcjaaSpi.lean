/- IsSpread of both sides. -/
import Derived.Test.YtfkdhdiacelcjaaLen
import Derived.Test.YtfkdhdiacelcjaaConc
namespace Go.Proofs.Ytfkdhdiacelcjaa.spr
open Go.RowKit Go.Deep Go.Proofs.Ytfkdhdiacelcjaa.base
open Go.Proofs.Ytfkdhdiacelcjaa.ints (ret_int infoInts)
open Go.Proofs.Ytfkdhdiacelcjaa.play (within withinB withinB_yes withinB_no)
open Go.Proofs.Ytfkdhdiacelcjaa.sgn (wide okSign signB signB_yes signB_no)
open Go.Proofs.Ytfkdhdiacelcjaa.spd (dot)
open Go.Proofs.Ytfkdhdiacelcjaa.val (ret_b)

noncomputable def spreadB (mss rss pss : List (List Int)) : Bool := decide (0 < lenS mss rss pss)
theorem spread_yes {mss rss pss : List (List Int)} (h : 0 < lenS mss rss pss) : spreadB mss rss pss = true := decide_eq_true h
theorem spread_no {mss rss pss : List (List Int)} (h : ¬ 0 < lenS mss rss pss) : spreadB mss rss pss = false := decide_eq_false h
theorem spread_zero {mss rss pss : List (List Int)} (h : ¬ okS mss rss pss) : spreadB mss rss pss = false := spread_no (by rw [len_no h]; omega)
open Classical in
noncomputable def isRes (mss rss pss : List (List Int)) : Bool × Bool := if okSign mss then (spreadB mss rss pss, true) else (false, false)
theorem isRes_yes {mss rss pss : List (List Int)} (h : okSign mss) : isRes mss rss pss = (spreadB mss rss pss, true) := if_pos h
theorem isRes_no {mss rss pss : List (List Int)} (h : ¬ okSign mss) : isRes mss rss pss = (false, false) := if_neg h

/-- the first row's value -/
theorem head {w : World} {v : Value} {rss : List (List Int)} (h : IRows w v rss) (hp : 0 < rss.length) :
    ∃ b o cap a c, v = .slice (some ⟨b, o, none⟩) rss.length cap ∧ w.cell? ⟨b, o, none⟩ = some (.slice a (wide rss : Nat) c) ∧ Ints w (.slice a (wide rss : Nat) c) (first rss) := by
  obtain ⟨A, b, o, cap, R, rfl, _, _, hA, hc⟩ := h.form
  obtain rfl := hA hp
  obtain ⟨g0, g1⟩ := hc 0 hp
  obtain ⟨a, c, e⟩ := sgn.ints_slice g1
  rw [e, ← sgn.wide_eq hp] at g0 g1
  rw [← first_at hp] at g1
  exact ⟨b, o, cap, a, c, rfl, g0, g1⟩


set_option maxHeartbeats 1000000 in
theorem impl_len (v : Value) (rss : List (List Int)) (n : Int) (w : World) (h : IRows w v rss) (hp : 0 < rss.length) (hw : within n (-9) 9 (first rss)) (hn : n ≤ 4) :
    Calls Try.prog 95 #[v] w fun e w' => e = .returned (.int .i64 (dot (first rss) (first rss))) ∧ ∃ m, w' = w.drewN m := by
  obtain ⟨b, o, cap, a, c, rfl, g0, g1⟩ := head h hp
  have hkz : (0 : Int) < (rss.length : Int) := by omega
  have HD := Lib.hid (fun (W : World) (hW : ∀ a u, w.cell? a = some u → W.cell? a = some u) => spd.impl_dot _ _ (first rss) (first rss) n W (g1.keep hW) (g1.keep hW) hw hw hn)
  clear h g1 hw
  go_enter Try.func95, Try.ntmps95
  go_wp2_with fail
  go_quiet ((go_at_call 94; go_must (exact (HD.out _ (fun a u h => by simpa using h)).mono (fun _ _ h => ⟨h.1, _, h.2.symm⟩))))
  go_wp2_with fail
  go_ret
  exact ⟨rfl, _, rfl⟩



set_option maxRecDepth 100000 in
set_option maxHeartbeats 4000000 in
theorem impl_spread (vm vr vp : Value) (mss rss pss : List (List Int)) (w : World) (hm : IRows w vm mss) (h : IRows w vr rss) (h' : IRows w vp pss) (hok : okSign mss) :
    Calls Try.prog 92 #[vm, vr, vp] w fun e w' => e = .returned (.bool (spreadB mss rss pss)) ∧ Below w.heap.size w w' := by
  obtain ⟨d, q, cap, rfl, ⟨m0, m1, mc⟩, _⟩ := sgn.cell0 hok hm
  have hX := sgn.len3 hok
  have hY := sgn.wide3 hok
  have hp := sgn.pos hok
  have hkz : (0 : Int) < (mss.length : Int) := by omega
  clear hm
  by_cases h1 : rss.length = mss.length
  · have d1 : ((rss.length : Int) != (mss.length : Int)) = false := by simp [h1]
    by_cases h2 : pss.length = wide mss
    · have d2 : ((pss.length : Int) != ((wide mss : Nat) : Int)) = false := by simp [h2]
      have hrp : 0 < rss.length := by omega
      have hkr : (0 : Int) < (rss.length : Int) := by omega
      obtain ⟨r1, hr1, hL1⟩ := sgn.impl_lists vr rss (wide rss) 9 w h (by omega) (by omega)
      obtain ⟨r2, hr2, hL2⟩ := sgn.impl_lists vp pss (wide rss) 9 w h' (by omega) (by omega)
      have HLN := Lib.hid (fun (W : World) (hW : Below w.heap.size w W) (hw : within (wide rss) (-9) 9 (first rss)) (hn : ((wide rss : Nat) : Int) ≤ 4) => impl_len vr rss (wide rss) W (h.below hW) hrp hw hn)
      have HCT := Lib.hid (fun (W : World) (g : Nat) (hW : Below w.heap.size w W) (h0 : W.cell? ⟨g, 0, none⟩ = some vr) (h1 : W.cell? ⟨g, 1, none⟩ = some vp) => cat.concat g 2 vr vp rss pss W h0 h1 (h.below hW) (h'.below hW) (by omega) (by omega))
      obtain ⟨b, o, rc, a0, c0, rfl, gr, hi0⟩ := head h hrp
      obtain ⟨A', b', o', pc, R', rfl, _, _, _, _⟩ := h'.form
      have HL1 := Lib.hid hL1
      have HL2 := Lib.hid hL2
      clear h h' hL1 hL2 hi0
      by_cases h3 : wide rss ≤ 4
      · have d3 : decide ((4 : Int) < ((wide rss : Nat) : Int)) = false := by simp; omega
        by_cases h4 : r1 = true
        · subst h4
          have hW1 := hr1.1 rfl
          by_cases h5 : r2 = true
          · subst h5
            have hW2 := hr2.1 rfl
            have hf : within (wide rss) (-9) 9 (first rss) := by rw [first_at hrp]; exact hW1 0 hrp
            have HALL : Hid (∀ i (h : i < (rss ++ pss).length), within (wide rss) (-9) 9 (rss ++ pss)[i]) := Lib.hid (fun i hi => by
              rw [List.length_append] at hi
              by_cases e : i < rss.length
              · rw [List.getElem_append_left e]; exact hW1 i e
              · rw [List.getElem_append_right (by omega)]; exact hW2 _ (by omega))
            have HOK : Hid (okS mss rss pss ↔ 1 ≤ wide rss ∧ ∀ i (h : i < (rss ++ pss).length), dot (rss ++ pss)[i] (rss ++ pss)[i] = dot (first rss) (first rss)) := Lib.hid ⟨fun h => ⟨h.2.2.1.1, fun i hi => (h.2.2.2 i hi).2⟩, fun h => ⟨h1, h2, ⟨h.1, h3⟩, fun i hi => ⟨HALL.out i hi, h.2 i hi⟩⟩⟩
            have HF := Lib.hid hf
            have HZ : Hid (wide rss = 0 → dot (first rss) (first rss) = 0) := Lib.hid (fun e => by
              have : (first rss).length = 0 := by have := hf.1; omega
              unfold dot
              rw [this]; rfl)
            have hall : (rss ++ pss).length ≤ 6 := by rw [List.length_append]; omega
            have H3 := Lib.hid h3
            clear hW1 hW2 hr1 hr2 hf h1 h2 h3
            go_enter Try.func92, Try.ntmps92
            go_wp2_with fail
            refine HL1.out.mono ?_
            rintro e w' ⟨rfl, rfl⟩
            go_wp2_with fail
            refine HL2.out.mono ?_
            rintro e w' ⟨rfl, rfl⟩
            go_wp2_with fail
            refine (HLN.out _ (Below.refl _ _) HF.out (by have := H3.out; omega)).mono ?_
            rintro e w1 ⟨rfl, n1, rfl⟩
            go_wp2_with fail
            refine (HCT.out _ _ ?_ ?_ ?_).mono ?_
            · exact below_al (below_drewN (Below.refl _ _) _) _
            · change World.cell? _ ⟨(w.drewN n1).heap.size, 0, none⟩ = _
              rw [Joins.cell_of_block (heap_alloc_new _ _)]; rfl
            · change World.cell? _ ⟨(w.drewN n1).heap.size, 1, none⟩ = _
              rw [Joins.cell_of_block (heap_alloc_new _ _)]; rfl
            rintro e w2 ⟨u, rfl, hu, hb⟩
            have B2 := Lib.hid (below_tr (below_al (below_drewN (Below.refl w.heap.size w) n1) _) hb)
            obtain ⟨A3, b3, o3, c3, R, rfl, _, hmax3, hA3, hc3⟩ := hu.form
            obtain rfl := hA3 (by rw [List.length_append]; omega)
            obtain ⟨N, hN⟩ : ∃ N, (rss ++ pss).length = N := ⟨_, rfl⟩
            rw [hN]
            clear hu hb HL1 HL2 HLN HCT hA3 hmax3
            go_wp2_with fail
            go_loopw [6, 10, 50] (fun q' z i wr => ∃ k : Nat, k ≤ N ∧ i = .int .i64 k ∧ q' = .bool false ∧ (∃ z', z = z') ∧ Hid (∀ j (h : j < (rss ++ pss).length), j < k → dot (rss ++ pss)[j] (rss ++ pss)[j] = dot (first rss) (first rss)) ∧ w2 = wr) (fun _ _ i _ => N - (intOf i).toNat)
            case atStart => exact ⟨0, Nat.zero_le _, rfl, rfl, ⟨_, rfl⟩, fun j _ hj => by omega, rfl⟩
            case round =>
              obtain ⟨k, hk, rfl, rfl, ⟨z, rfl⟩, hH, rfl⟩ := hrel
              by_cases hlt : k < N
              · have hkz' : (k : Int) < (N : Int) := by omega
                have hlt' : k < (rss ++ pss).length := by omega
                obtain ⟨g0, g1⟩ := hc3 k hlt'
                have HD := Lib.hid (spd.impl_dot (R k) (R k) (rss ++ pss)[k] (rss ++ pss)[k] (wide rss) w2 g1 g1 (HALL.out k hlt') (HALL.out k hlt') (by have := H3.out; omega))
                clear hc3 g1
                by_cases hd : dot (rss ++ pss)[k] (rss ++ pss)[k] = dot (first rss) (first rss)
                · have HDD := Lib.hid hd
                  have dd : (dot (rss ++ pss)[k] (rss ++ pss)[k] != dot (first rss) (first rss)) = false := by simp [hd]
                  clear hd
                  go_wp2_with fail
                  refine HD.out.mono ?_
                  rintro e w' ⟨rfl, rfl⟩
                  go_wp2_with fail
                  go_roundw
                  case rel =>
                    refine ⟨k + 1, by omega, by go_num, rfl, ⟨_, rfl⟩, fun j hj hj' => ?_, by first | rfl | trivial⟩
                    by_cases e : j = k
                    · subst e; exact HDD.out
                    · exact hH.out j hj (by omega)
                  case measure => simp [intOf]; omega
                · have dd : (dot (rss ++ pss)[k] (rss ++ pss)[k] != dot (first rss) (first rss)) = true := by simp [hd]
                  have HE : Hid (false = spreadB mss rss pss) := Lib.hid (spread_zero (fun h => hd ((HOK.out.1 h).2 k hlt'))).symm
                  clear hd
                  go_wp2_with fail
                  refine HD.out.mono ?_
                  rintro e w' ⟨rfl, rfl⟩
                  go_wp2_with fail
                  go_ret
                  exact ⟨ret_b HE.out, B2.out⟩
              · have hkz' : ¬ (k : Int) < (N : Int) := by omega
                have hall' : ∀ i (h : i < (rss ++ pss).length), dot (rss ++ pss)[i] (rss ++ pss)[i] = dot (first rss) (first rss) := fun i hi => hH.out i hi (by omega)
                clear hc3
                by_cases hpos : 0 < dot (first rss) (first rss)
                · have dp : decide (0 < dot (first rss) (first rss)) = true := by simp [hpos]
                  have HE : Hid (true = spreadB mss rss pss) := Lib.hid (spread_yes (by
                    rw [len_yes (HOK.out.2 ⟨by
                      rcases Nat.eq_zero_or_pos (wide rss) with e | e
                      · have := HZ.out e; omega
                      · exact e, hall'⟩)]; exact hpos)).symm
                  clear hpos hall'
                  go_wp2_with fail
                  go_ret
                  exact ⟨ret_b HE.out, B2.out⟩
                · have dp : decide (0 < dot (first rss) (first rss)) = false := by simp; omega
                  have HE : Hid (false = spreadB mss rss pss) := Lib.hid (spread_no (by
                    by_cases ho : okS mss rss pss
                    · rw [len_yes ho]; exact hpos
                    · rw [len_no ho]; omega)).symm
                  clear hpos hall'
                  go_wp2_with fail
                  go_ret
                  exact ⟨ret_b HE.out, B2.out⟩
          · obtain rfl : r2 = false := by simpa using h5
            have HE : Hid (false = spreadB mss rss pss) := Lib.hid (spread_zero (fun h => by
              have := hr2.2 (fun k hk => by
                have h6 := (h.2.2.2 (rss.length + k) (by rw [List.length_append]; omega)).1
                rw [List.getElem_append_right (by omega)] at h6
                simpa using h6)
              cases this)).symm
            clear h1 h2 h3 hr1 hr2 h5
            go_enter Try.func92, Try.ntmps92
            go_wp2_with fail
            refine HL1.out.mono ?_
            rintro e w' ⟨rfl, rfl⟩
            go_wp2_with fail
            refine HL2.out.mono ?_
            rintro e w' ⟨rfl, rfl⟩
            go_wp2_with fail
            go_ret
            exact ⟨ret_b HE.out, Below.refl _ _⟩
        · obtain rfl : r1 = false := by simpa using h4
          have HE : Hid (false = spreadB mss rss pss) := Lib.hid (spread_zero (fun h => by
            have := hr1.2 (fun k hk => by
              have h6 := (h.2.2.2 k (by rw [List.length_append]; omega)).1
              rw [List.getElem_append_left hk] at h6
              exact h6)
            cases this)).symm
          clear h1 h2 h3 hr1 hr2 h4 HL2
          go_enter Try.func92, Try.ntmps92
          go_wp2_with fail
          refine HL1.out.mono ?_
          rintro e w' ⟨rfl, rfl⟩
          go_wp2_with fail
          go_ret
          exact ⟨ret_b HE.out, Below.refl _ _⟩
      · have HE : Hid (false = spreadB mss rss pss) := Lib.hid (spread_zero (fun h => h3 h.2.2.1.2)).symm
        have d3 : decide ((4 : Int) < ((wide rss : Nat) : Int)) = true := by simp; omega
        clear h1 h2 h3 hr1 hr2 HL1 HL2
        go_enter Try.func92, Try.ntmps92
        go_wp2_with fail
        go_ret
        exact ⟨ret_b HE.out, Below.refl _ _⟩
    · have d2 : ((pss.length : Int) != ((wide mss : Nat) : Int)) = true := by simp; omega
      have HE : Hid (false = spreadB mss rss pss) := Lib.hid (spread_zero (fun h => h2 h.2.1)).symm
      obtain ⟨A, b, o, rc, R, rfl, _, _, _, _⟩ := h.form
      obtain ⟨A', b', o', pc, R', rfl, _, _, _, _⟩ := h'.form
      clear h h' h1 h2
      go_enter Try.func92, Try.ntmps92
      go_wp2_with fail
      go_ret
      exact ⟨ret_b HE.out, Below.refl _ _⟩
  · have d1 : ((rss.length : Int) != (mss.length : Int)) = true := by simp; omega
    have HE : Hid (false = spreadB mss rss pss) := Lib.hid (spread_zero (fun h => h1 h.1)).symm
    obtain ⟨A, b, o, rc, R, rfl, _, _, _, _⟩ := h.form
    obtain ⟨A', b', o', pc, R', rfl, _, _, _, _⟩ := h'.form
    clear h h' h1
    go_enter Try.func92, Try.ntmps92
    go_wp2_with fail
    go_ret
    exact ⟨ret_b HE.out, Below.refl _ _⟩



set_option maxHeartbeats 1000000 in
theorem spec_any (vm vr vp : Value) (mss rss pss : List (List Int)) (w : World) (hm : IRows w vm mss) (h : IRows w vr rss) (h' : IRows w vp pss) :
    Calls Try.prog 48 #[vm, vr, vp] w fun e w' => e = .returned (.tuple #[.bool (isRes mss rss pss).1, .bool (isRes mss rss pss).2]) ∧ Below w.heap.size w w' := by
  have HC := Lib.hid (sgn.spec_good vm mss w hm)
  have HL := Lib.hid (fun (W : World) (hW : Below w.heap.size w W) (hok : okSign mss) => spec_len vm vr vp mss rss pss W (hm.below hW) (h.below hW) (h'.below hW) hok)
  obtain ⟨ma, mn, mc, rfl⟩ := hm.shape
  obtain ⟨ra, rn, rc, rfl⟩ := h.shape
  obtain ⟨pa, pn, pc, rfl⟩ := h'.shape
  clear hm h h'
  by_cases hok : okSign mss
  · have HE := Lib.hid (signB_yes hok)
    rw [isRes_yes hok]
    have HOK := Lib.hid hok
    clear hok
    by_cases hp : 0 < lenS mss rss pss
    · have dp : decide (0 < lenS mss rss pss) = true := by simp [hp]
      have HS := Lib.hid (spread_yes hp)
      clear hp
      go_enter Try.func48, Try.ntmps48
      go_wp2_with fail
      refine HC.out.mono ?_
      rintro e w1 ⟨rfl, n, rfl⟩
      rw [HE.out]
      go_wp2_with fail
      refine (HL.out _ (below_drewN (Below.refl _ _) _) HOK.out).mono ?_
      rintro e w2 ⟨rfl, hb⟩
      have B2 := Lib.hid (below_tr (below_drewN (Below.refl w.heap.size w) n) hb)
      clear hb
      go_wp2_with fail
      rw [HS.out]
      go_ret2
      exact ⟨rfl, B2.out⟩
    · have dp : decide (0 < lenS mss rss pss) = false := by simp; omega
      have HS := Lib.hid (spread_no hp)
      clear hp
      go_enter Try.func48, Try.ntmps48
      go_wp2_with fail
      refine HC.out.mono ?_
      rintro e w1 ⟨rfl, n, rfl⟩
      rw [HE.out]
      go_wp2_with fail
      refine (HL.out _ (below_drewN (Below.refl _ _) _) HOK.out).mono ?_
      rintro e w2 ⟨rfl, hb⟩
      have B2 := Lib.hid (below_tr (below_drewN (Below.refl w.heap.size w) n) hb)
      clear hb
      go_wp2_with fail
      rw [HS.out]
      go_ret2
      exact ⟨rfl, B2.out⟩
  · have HE := Lib.hid (signB_no hok)
    rw [isRes_no hok]
    clear hok
    go_enter Try.func48, Try.ntmps48
    go_wp2_with fail
    refine HC.out.mono ?_
    rintro e w1 ⟨rfl, n, rfl⟩
    rw [HE.out]
    go_wp2_with fail
    go_ret2
    exact ⟨rfl, below_drewN (Below.refl _ _) _⟩



set_option maxHeartbeats 1000000 in
theorem impl_any (vm vr vp : Value) (mss rss pss : List (List Int)) (w : World) (hm : IRows w vm mss) (h : IRows w vr rss) (h' : IRows w vp pss) :
    Calls Try.prog 49 #[vm, vr, vp] w fun e w' => e = .returned (.tuple #[.bool (isRes mss rss pss).1, .bool (isRes mss rss pss).2]) ∧ Below w.heap.size w w' := by
  have HC := Lib.hid (sgn.impl_sign vm mss w hm)
  have HL := Lib.hid (fun (hok : okSign mss) => impl_spread vm vr vp mss rss pss w hm h h' hok)
  obtain ⟨ma, mn, mc, rfl⟩ := hm.shape
  obtain ⟨ra, rn, rc, rfl⟩ := h.shape
  obtain ⟨pa, pn, pc, rfl⟩ := h'.shape
  clear hm h h'
  by_cases hok : okSign mss
  · have HE := Lib.hid (signB_yes hok)
    rw [isRes_yes hok]
    have HOK := Lib.hid hok
    clear hok
    go_enter Try.func49, Try.ntmps49
    go_wp2_with fail
    refine HC.out.mono ?_
    rintro e w1 ⟨rfl, rfl⟩
    rw [HE.out]
    go_wp2_with fail
    refine (HL.out HOK.out).mono ?_
    rintro e w2 ⟨rfl, hb⟩
    have B2 := Lib.hid hb
    clear hb
    go_wp2_with fail
    go_ret2
    exact ⟨rfl, B2.out⟩
  · have HE := Lib.hid (signB_no hok)
    rw [isRes_no hok]
    clear hok
    go_enter Try.func49, Try.ntmps49
    go_wp2_with fail
    refine HC.out.mono ?_
    rintro e w1 ⟨rfl, rfl⟩
    rw [HE.out]
    go_wp2_with fail
    go_ret2
    exact ⟨rfl, Below.refl _ _⟩


end Go.Proofs.Ytfkdhdiacelcjaa.spr
