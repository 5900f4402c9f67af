/- CodeGuesses of both sides. -/
import Derived.Test.YtnjaocgciokpaaaCdg
import Derived.Test.YtnjaocgciokpaaaCdt
import Derived.Test.YtnjaocgciokpaaaPro
namespace Go.Proofs.Ytnjaocgciokpaaa.cdw
open Go.RowKit Go.Deep Go.Proofs.Ytnjaocgciokpaaa.base
open Go.Proofs.Ytnjaocgciokpaaa.ints (ret_int infoInt)
open Go.Proofs.Ytnjaocgciokpaaa.prs
open Go.Proofs.Ytnjaocgciokpaaa.prt (infoA2 two_cells)
open Go.Proofs.Ytnjaocgciokpaaa.pro
open Go.Proofs.Ytnjaocgciokpaaa.cdm

theorem mk0p (c : Nat) (hc : c ≤ 1048576) (w : World) : (Instr.makeSlice 29 (.int .i64 0) (.int .i64 (c : Int))).run Try.prog w = .ok (.slice (some ⟨w.heap.size, 0, none⟩) 0 c) (w.alloc (.cells (madeCells #[.int .i64 0, .int .i64 0] (c * 2)) 64)) := by
  obtain ⟨i0, hi, hz0, hz1, hz2⟩ := info_parts infoA2
  have := run_make (P := Try.prog) w 29 64 i0 (.agg #[.int .i64 0, .int .i64 0]) Try.underlying29 hi hz0 .i64 .i64 0 c (Int.le_refl _) (by omega) (by rw [hz2]; omega) (by omega)
  simp only [Int.toNat_zero, Int.toNat_natCast, hz1] at this
  exact this
open Classical in
noncomputable def res (n : Int) (cs : List Int) : List (Int × Int) × Bool := if okCode n cs then (gs cs n.toNat, true) else ([], false)
theorem res_yes {n : Int} {cs : List Int} (h : okCode n cs) : res n cs = (gs cs n.toNat, true) := if_pos h
theorem res_no {n : Int} {cs : List Int} (h : ¬ okCode n cs) : res n cs = ([], false) := if_neg h
theorem len_res (n : Int) (cs : List Int) : (res n cs).1.length ≤ 1048576 := by
  by_cases h : okCode n cs
  · rw [res_yes h, len_gs]; have := h.1.2; omega
  · rw [res_no h]; exact Nat.zero_le _


set_option maxRecDepth 100000 in
set_option maxHeartbeats 4000000 in
theorem impl_any (n : Int) (v : Value) (cs : List Int) (w : World) (h : Ints w v cs) :
    Calls Try.prog 24 #[.int .i64 n, v] w fun e w' => ∃ u, e = .returned (.tuple #[u, .bool (res n cs).2]) ∧ OwnPairs w' w.heap.size w'.heap.size u (res n cs).1 ∧ Below w.heap.size w w' := by
  have HO := Lib.hid (cdi.of_any n v cs w h)
  have HV := Lib.hid h
  obtain ⟨va, vn, vc, rfl⟩ := h.shape
  obtain ⟨i0, hi, hz0, hz1, hz2⟩ := info_parts infoA2
  by_cases hok : okCode n cs
  · rw [codeB_yes hok, if_pos rfl] at HO
    rw [res_yes hok]
    obtain ⟨m, rfl⟩ : ∃ m : Nat, n = m := ⟨n.toNat, by have := hok.1.1; omega⟩
    have HOK := Lib.hid hok
    have hm3 : (m : Int) ≤ 3 := hok.1.2
    have hmk := mk0p m (by omega)
    rw [Int.toNat_natCast]
    clear h hok
    go_enter Try.func24, Try.ntmps24
    go_wp2_with fail
    refine HO.out.mono ?_
    rintro e w1 ⟨rfl, hb⟩
    have B1 := Lib.hid hb
    have B2 := Lib.hid (below_al (below_al B1.out (.cells #[.int .i64 (m : Int), .slice va vn vc] 60)) (.cells (madeCells #[.int .i64 0, .int .i64 0] (m * 2)) 64))
    have K2 : Hid (Blk ((w1.alloc (.cells #[.int .i64 (m : Int), .slice va vn vc] 60)).alloc (.cells (madeCells #[.int .i64 0, .int .i64 0] (m * 2)) 64)) w1.heap.size 60 #[.int .i64 (m : Int), .slice va vn vc]) := Lib.hid ((Blk.new w1 _ _).alloc _)
    have O2 : Hid (((w1.alloc (.cells #[.int .i64 (m : Int), .slice va vn vc] 60)).alloc (.cells (madeCells #[.int .i64 0, .int .i64 0] (m * 2)) 64)).ownsRow (w1.heap.size + 1) 64 2 (.slice (some ⟨w1.heap.size + 1, 0, none⟩) 0 m) 0 (pcs (gs cs 0))) := Lib.hid (by
      have := World.ownsRow_made (base := w1.heap.size + 1) (e := 64) (size := 2) (w1.alloc (.cells #[.int .i64 (m : Int), .slice va vn vc] 60)) (madeCells #[.int .i64 0, .int .i64 0] (m * 2)) m (by simp) (by unfold maxLen; omega) (by simp [madeCells])
      simpa [pcs, gs] using this)
    have hs1 := B1.out.size
    clear hb HO
    go_wp2_with fail
    clear hmk
    go_loopw [8, 9, 21] (fun out z9 q wr => ∃ k : Nat, k ≤ m ∧ q = .int .i64 k ∧ (∃ z, z9 = z) ∧ Hid (wr.ownsRow (w1.heap.size + 1) 64 2 out k (pcs (gs cs k))) ∧ Hid (Below w.heap.size w wr) ∧ Hid (Blk wr w1.heap.size 60 #[.int .i64 (m : Int), .slice va vn vc])) (fun _ _ q _ => m - (intOf q).toNat)
    case atStart => exact ⟨0, Nat.zero_le _, rfl, ⟨_, rfl⟩, O2, B2, K2⟩
    case round =>
      clear O2 B2 K2
      obtain ⟨k, hk, rfl, ⟨z9, rfl⟩, hO, hB, hK⟩ := hrel
      obtain ⟨wi, rfl⟩ : ∃ wi : World, wi = wr := ⟨_, rfl⟩
      by_cases hlt : k < m
      · have hkz : (k : Int) < (m : Int) := by omega
        have H1 := Lib.hid (cdg.guesses (m : Int) _ cs k wi (HV.out.below hB.out) HOK.out (by omega))
        obtain ⟨k0, k1⟩ := two_cells hK.out
        have HGS := Lib.hid (gs_succ cs k)
        have HLE := Lib.hid (len_gs cs k)
        go_wp2_with fail
        refine H1.out.mono ?_
        rintro e w2 ⟨rfl, hb⟩
        generalize ((g cs 0 k : Nat) : Int) = a at HGS ⊢
        generalize ((g cs 1 k : Nat) : Int) = b at HGS ⊢
        have O2 := Lib.hid (app.owns_below (app.owns_below hO.out hb) (below_al (Below.refl _ _) (.cells #[.int .i64 a, .int .i64 b] 64)))
        have B2 := Lib.hid (below_tr hB.out hb)
        have K2 := Lib.hid (hK.out.below hb)
        have hsz := K2.out.lt
        clear hb hO hB hK H1 k0 k1
        go_wp2_with (at_builtin; go_must (refine wpList_append_own _ rfl (.tmp 24) (.tmp 28) 29 rfl (w1.heap.size + 1) 64 i0 (.agg #[.int .i64 0, .int .i64 0]) 2 16 Try.underlying29 hi hz0 hz1 hz2 rfl (by decide) _ _ _ rfl O2.out ⟨w2.heap.size, 0, none⟩ 1 1 [.int .i64 a, .int .i64 b] rfl rfl ?d1 ?d2 ?d3 ?d4 ?d5 ?_))
        try (case d1 => first | exact two_at _ _ _ _ | (intro q u hq; have h5 := two_at w2 (.int .i64 a) (.int .i64 b) 64 q u hq; rw [opn.add_none] at h5; simpa using h5))
        case d2 => first | (intro u hu; simp at hu; rcases hu with rfl | rfl <;> rfl) | (exact ⟨rfl, rfl⟩) | rfl
        case d3 => unfold maxLen; omega
        case d4 => omega
        try (case d5 => first | omega | (simp; omega))
        intro v9 w9 hown hgrow _
        have B9 := Lib.hid ((below_al B2.out _).grown hgrow (by simp; omega) (fun j hj => by have := (O2.out.lt j hj).1; omega))
        have O9 := Lib.hid hown
        rw [pcs_snoc] at O9
        have GG := Lib.hid hgrow
        clear hown hgrow
        have K9 : Hid (Blk w9 w1.heap.size 60 #[.int .i64 (m : Int), .slice va vn vc]) := Lib.hid ((GG.out.block _ (K2.out.alloc _).lt (by
          intro e
          have := (O2.out.lt _ e.symm).1
          omega)).trans (K2.out.alloc _))
        clear GG O2 B2 K2
        go_wp2_with fail
        go_roundw
        case rel => exact ⟨k + 1, by omega, by go_num, ⟨_, rfl⟩, Lib.hid (by rw [HGS.out]; exact O9.out), B9, K9⟩
        case measure => simp [intOf]; omega
      · have hkz : ¬ (k : Int) < (m : Int) := by omega
        obtain rfl : k = m := by omega
        have OP : Hid (OwnPairs wi w.heap.size wi.heap.size u8 (gs cs k)) := Lib.hid ((pairs_of_owns hO.out).mono (by omega) (Nat.le_refl _))
        go_wp2_with fail
        go_ret2
        exact ⟨_, rfl, OP.out, hB.out⟩
  · rw [codeB_no hok, if_neg (by simp)] at HO
    rw [res_no hok]
    clear h hok
    go_enter Try.func24, Try.ntmps24
    go_wp2_with fail
    refine HO.out.mono ?_
    rintro e w1 ⟨rfl, hb⟩
    have HB := Lib.hid hb
    clear hb HO
    go_wp2_with fail
    go_ret2
    exact ⟨_, rfl, OwnPairs.nil _ _ _, below_al HB.out _⟩


set_option maxRecDepth 100000 in
set_option maxHeartbeats 4000000 in
theorem spec_any (n : Int) (v : Value) (cs : List Int) (w : World) (h : Ints w v cs) :
    Calls Try.prog 23 #[.int .i64 n, v] w fun e w' => ∃ u, e = .returned (.tuple #[u, .bool (res n cs).2]) ∧ Pairs w' u (res n cs).1 ∧ Below w.heap.size w w' := by
  have B0 := Lib.hid (below_al (Below.refl w.heap.size w) (.cells #[] 64))
  have HO := Lib.hid (cds.spec_code n v cs _ (h.below B0.out))
  have HV := Lib.hid h
  obtain ⟨va, vn, vc, rfl⟩ := h.shape
  obtain ⟨i0, hi, hz0, hz1, hz2⟩ := info_parts infoA2
  by_cases hok : okCode n cs
  · rw [codeB_yes hok] at HO
    rw [res_yes hok]
    obtain ⟨m, rfl⟩ : ∃ m : Nat, n = m := ⟨n.toNat, by have := hok.1.1; omega⟩
    have hl := ok_len8 hok
    have HC0 : Hid (∀ (mm : Int) (i : Nat) (W : World), i ≤ 2 → Ints W (.slice va vn vc) cs → Calls Try.prog 60 #[.slice va vn vc, .int .i64 mm, .int .i64 (i : Int), .int .i64 0] W fun e w' => e = .returned (.int .i64 ((c cs mm i 0 : Nat) : Int)) ∧ W = w') := Lib.hid (fun mm i W hi hW => cds.spec_count _ cs mm i 0 W hW hl hi)
    have HC1 : Hid (∀ (mm : Int) (i : Nat) (W : World), i ≤ 2 → Ints W (.slice va vn vc) cs → Calls Try.prog 60 #[.slice va vn vc, .int .i64 mm, .int .i64 (i : Int), .int .i64 1] W fun e w' => e = .returned (.int .i64 ((c cs mm i 1 : Nat) : Int)) ∧ W = w') := Lib.hid (fun mm i W hi hW => cds.spec_count _ cs mm i 1 W hW hl hi)
    have hm3 : (m : Int) ≤ 3 := hok.1.2
    have O0 : Hid ((w.alloc (.cells #[] 64)).ownsRow w.heap.size 64 2 (.slice (some ⟨w.heap.size, 0, none⟩) 0 0) 0 (pcs (gs cs 0))) := Lib.hid (by
      have := World.ownsRow_made (base := w.heap.size) (e := 64) (size := 2) w #[] 0 (Nat.le_refl _) (Nat.zero_le _) rfl
      simpa [pcs, gs] using this)
    rw [Int.toNat_natCast]
    clear h hok hl
    go_enter Try.func23, Try.ntmps23
    go_wp2_with fail
    refine HO.out.mono ?_
    rintro e w' ⟨rfl, rfl⟩
    clear HO
    go_wp2_with fail
    go_loopw [6, 7, 8, 9] (fun out q z8 z9 wr => ∃ k : Nat, k ≤ m ∧ q = .int .i64 k ∧ (∃ z, z8 = z) ∧ (∃ z, z9 = z) ∧ Hid (wr.ownsRow w.heap.size 64 2 out k (pcs (gs cs k))) ∧ Hid (Below w.heap.size w wr)) (fun _ q _ _ _ => m - (intOf q).toNat)
    case atStart => exact ⟨0, Nat.zero_le _, rfl, ⟨_, rfl⟩, ⟨_, rfl⟩, O0, B0⟩
    case round =>
      clear O0 B0
      obtain ⟨k, hk, rfl, ⟨z8, rfl⟩, ⟨z9, rfl⟩, hO, hB⟩ := hrel
      obtain ⟨wo, rfl⟩ : ∃ wo : World, wo = wr := ⟨_, rfl⟩
      by_cases hlt : k < m
      · have hkz : (k : Int) < (m : Int) := by omega
        have HLT := Lib.hid hlt
        have hszo := hB.out.size
        clear hlt
        have G1 := Lib.hid (Blk.new wo 64 #[.int .i64 0, .int .i64 0])
        have Bo1 := Lib.hid (below_al (Below.refl wo.heap.size wo) (.cells #[.int .i64 0, .int .i64 0] 64))
        go_wp2_with fail
        go_loopw [9] (fun s wr => ∃ (k' : Nat) (z : Int), Hid (k' = 0 ∧ z = 0 ∨ k' = 1 ∧ z = 1 ∨ k' = 2 ∧ z = 2) ∧ s = .int .i64 z ∧ Hid (Below wo.heap.size wo wr) ∧ Hid (Blk wr wo.heap.size 64 #[.int .i64 (if 0 < k' then ((g cs 0 k : Nat) : Int) else 0), .int .i64 (if 1 < k' then ((g cs 1 k : Nat) : Int) else 0)])) (fun s _ => 2 - (intOf s).toNat)
        case atStart => exact ⟨0, 0, .inl ⟨rfl, rfl⟩, rfl, Bo1, G1⟩
        case round =>
        clear Bo1 G1
        obtain ⟨k', z, hkz', rfl, hBo, hG⟩ := hrel
        obtain ⟨wj, rfl⟩ : ∃ wj : World, wj = wr := ⟨_, rfl⟩
        have gf : ∀ j, wj.frozen? ⟨wo.heap.size, j, none⟩ = false := fun j => Joins.unfrozen_of_block hG.out j
        have HBW := Lib.hid (below_tr hB.out hBo.out)
        have hszj : wo.heap.size < wj.heap.size := hG.out.lt
        rcases hkz'.out with ⟨rfl, rfl⟩ | ⟨rfl, rfl⟩ | ⟨rfl, rfl⟩
        · obtain ⟨d0, d1⟩ := two_cells hG.out
          have h1 := HC1.out 0 k wj (by have := HLT.out; omega) (HV.out.below HBW.out)
          have h0 := HC0.out 0 k wj (by have := HLT.out; omega) (HV.out.below HBW.out)
          by_cases hgt : c cs 0 k 0 < c cs 0 k 1
          · have HG := Lib.hid (g_yes hgt)
            have dg : decide (((c cs 0 k 0 : Nat) : Int) < ((c cs 0 k 1 : Nat) : Int)) = true := decide_eq_true (Int.ofNat_lt.2 hgt)
            generalize ((c cs 0 k 0 : Nat) : Int) = a at h0 dg
            generalize ((c cs 0 k 1 : Nat) : Int) = b at h1 dg
            have H0 := Lib.hid h0
            have H1 := Lib.hid h1
            clear hgt hkz' h0 h1
            go_wp2_with fail
            refine H1.out.mono ?_
            rintro e w' ⟨rfl, rfl⟩
            go_wp2_with fail
            refine H0.out.mono ?_
            rintro e w' ⟨rfl, rfl⟩
            go_wp2_with fail
            refine ⟨⟨1, 1, .inr (.inl ⟨rfl, rfl⟩), rfl, Below.setCell hBo.out (Nat.le_refl _) _, ?_⟩, by decide⟩
            have := Joins.block_setCell (i := 0) hG.out (.int .i64 1)
            refine Lib.hid ?_
            simpa [Blk, HG.out] using this
          · have HG := Lib.hid (g_no hgt)
            have dg : decide (((c cs 0 k 0 : Nat) : Int) < ((c cs 0 k 1 : Nat) : Int)) = false := decide_eq_false (fun h => hgt (Int.ofNat_lt.1 h))
            generalize ((c cs 0 k 0 : Nat) : Int) = a at h0 dg
            generalize ((c cs 0 k 1 : Nat) : Int) = b at h1 dg
            have H0 := Lib.hid h0
            have H1 := Lib.hid h1
            clear hgt hkz' h0 h1
            go_wp2_with fail
            refine H1.out.mono ?_
            rintro e w' ⟨rfl, rfl⟩
            go_wp2_with fail
            refine H0.out.mono ?_
            rintro e w' ⟨rfl, rfl⟩
            go_wp2_with fail
            refine ⟨⟨1, 1, .inr (.inl ⟨rfl, rfl⟩), rfl, hBo, ?_⟩, by decide⟩
            have := hG.out
            refine Lib.hid ?_
            simpa [Blk, HG.out] using this
        · obtain ⟨d0, d1⟩ := two_cells hG.out
          have h1 := HC1.out 1 k wj (by have := HLT.out; omega) (HV.out.below HBW.out)
          have h0 := HC0.out 1 k wj (by have := HLT.out; omega) (HV.out.below HBW.out)
          by_cases hgt : c cs 1 k 0 < c cs 1 k 1
          · have HG := Lib.hid (g_yes hgt)
            have dg : decide (((c cs 1 k 0 : Nat) : Int) < ((c cs 1 k 1 : Nat) : Int)) = true := decide_eq_true (Int.ofNat_lt.2 hgt)
            generalize ((c cs 1 k 0 : Nat) : Int) = a at h0 dg
            generalize ((c cs 1 k 1 : Nat) : Int) = b at h1 dg
            have H0 := Lib.hid h0
            have H1 := Lib.hid h1
            clear hgt hkz' h0 h1
            go_wp2_with fail
            refine H1.out.mono ?_
            rintro e w' ⟨rfl, rfl⟩
            go_wp2_with fail
            refine H0.out.mono ?_
            rintro e w' ⟨rfl, rfl⟩
            go_wp2_with fail
            refine ⟨⟨2, 2, .inr (.inr ⟨rfl, rfl⟩), rfl, Below.setCell hBo.out (Nat.le_refl _) _, ?_⟩, by decide⟩
            have := Joins.block_setCell (i := 1) hG.out (.int .i64 1)
            refine Lib.hid ?_
            simpa [Blk, HG.out] using this
          · have HG := Lib.hid (g_no hgt)
            have dg : decide (((c cs 1 k 0 : Nat) : Int) < ((c cs 1 k 1 : Nat) : Int)) = false := decide_eq_false (fun h => hgt (Int.ofNat_lt.1 h))
            generalize ((c cs 1 k 0 : Nat) : Int) = a at h0 dg
            generalize ((c cs 1 k 1 : Nat) : Int) = b at h1 dg
            have H0 := Lib.hid h0
            have H1 := Lib.hid h1
            clear hgt hkz' h0 h1
            go_wp2_with fail
            refine H1.out.mono ?_
            rintro e w' ⟨rfl, rfl⟩
            go_wp2_with fail
            refine H0.out.mono ?_
            rintro e w' ⟨rfl, rfl⟩
            go_wp2_with fail
            refine ⟨⟨2, 2, .inr (.inr ⟨rfl, rfl⟩), rfl, hBo, ?_⟩, by decide⟩
            have := hG.out
            refine Lib.hid ?_
            simpa [Blk, HG.out] using this
        · obtain ⟨d0, d1⟩ := two_cells hG.out
          have HGS := Lib.hid (gs_succ cs k)
          have HLE := Lib.hid (len_gs cs k)
          rw [if_pos (by decide : (0 : Nat) < 2)] at d0
          rw [if_pos (by decide : (1 : Nat) < 2)] at d1
          generalize ((g cs 0 k : Nat) : Int) = a at HGS d0
          generalize ((g cs 1 k : Nat) : Int) = b at HGS d1
          have O2 := Lib.hid (app.owns_below (app.owns_below hO.out hBo.out) (below_al (Below.refl _ _) (.cells #[.int .i64 a, .int .i64 b] 64)))
          have hk3 := HLT.out
          have hsz2 := HBW.out.size
          clear hG hkz'
          go_wp2_with (at_builtin; go_must (refine wpList_append_own _ rfl (.tmp 37) (.tmp 39) 29 rfl (w.heap.size) 64 i0 (.agg #[.int .i64 0, .int .i64 0]) 2 16 Try.underlying29 hi hz0 hz1 hz2 rfl (by decide) _ _ _ rfl O2.out ⟨wj.heap.size, 0, none⟩ 1 1 [.int .i64 a, .int .i64 b] rfl rfl ?d1 ?d2 ?d3 ?d4 ?d5 ?_))
          try (case d1 => first | exact two_at _ _ _ _ | (intro q u hq; have h5 := two_at wj (.int .i64 a) (.int .i64 b) 64 q u hq; rw [opn.add_none] at h5; simpa using h5))
          case d2 => first | (intro u hu; simp at hu; rcases hu with rfl | rfl <;> rfl) | (exact ⟨rfl, rfl⟩) | rfl
          case d3 => unfold maxLen; omega
          case d4 => omega
          try (case d5 => first | omega | (simp; omega))
          intro v9 w9 hown hgrow _
          have B9 := Lib.hid ((below_al HBW.out _).grown hgrow (by simp; omega) (fun j hj => by have := (O2.out.lt j hj).1; omega))
          have O9 := Lib.hid hown
          rw [pcs_snoc] at O9
          have GG := Lib.hid hgrow
          clear hown hgrow
          clear GG O2
          go_wp2_with fail
          go_roundw
          case rel => exact ⟨k + 1, by have := HLT.out; omega, by go_num, ⟨_, rfl⟩, ⟨_, rfl⟩, Lib.hid (by rw [HGS.out]; exact O9.out), B9⟩
          case measure => have := HLT.out; simp [intOf]; omega
      · have hkz : ¬ (k : Int) < (m : Int) := by omega
        obtain rfl : k = m := by omega
        have OP := Lib.hid (pairs_of_owns hO.out).pairs
        go_wp2_with fail
        go_ret2
        exact ⟨_, rfl, OP.out, hB.out⟩
  · rw [codeB_no hok] at HO
    rw [res_no hok]
    clear h hok
    go_enter Try.func23, Try.ntmps23
    go_wp2_with fail
    refine HO.out.mono ?_
    rintro e w' ⟨rfl, rfl⟩
    clear HO
    go_wp2_with fail
    go_ret2
    exact ⟨_, rfl, empty _ _, B0.out⟩

end Go.Proofs.Ytnjaocgciokpaaa.cdw
