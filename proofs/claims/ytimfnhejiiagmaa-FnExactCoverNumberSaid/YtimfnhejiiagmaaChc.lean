/- Digits of rectangles in the program: firstPlaces, choicesOf, places. -/
import Derived.Test.YtimfnhejiiagmaaCvm
import Derived.Test.YtimfnhejiiagmaaPlg
import Derived.Test.YtimfnhejiiagmaaApp
import Derived.Test.YtimfnhejiiagmaaPrt
import Derived.Test.YtimfnhejiiagmaaApl
namespace Go.Proofs.Ytimfnhejiiagmaa.chc
open Go.RowKit Go.Deep Go.Proofs.Ytimfnhejiiagmaa.base
open Go.Proofs.Ytimfnhejiiagmaa.ints (ret_int infoInt)
open Go.Proofs.Ytimfnhejiiagmaa.plays (bit at_ len_at get_at)
open Go.Proofs.Ytimfnhejiiagmaa.cvm (andNot)
open Go.Proofs.Ytimfnhejiiagmaa.prt (two_cells)

theorem and_not : ∀ c d : Fin 17, bits .andNot .i64 ((c.val : Nat) : Int) ((d.val : Nat) : Int) = ((andNot c.val d.val : Nat) : Int) := by decide +kernel
/-- the first k numbers from 1 on whose digits are among those of d -/
def chs (d k : Nat) : List Int := (((List.range k).map (· + 1)).filter fun c => andNot c d == 0).map fun (c : Nat) => ((c : Nat) : Int)
theorem chs_yes {d k : Nat} (h : andNot (k + 1) d = 0) : chs d (k + 1) = chs d k ++ [((k + 1 : Nat) : Int)] := by
  unfold chs; rw [List.range_succ, List.map_append, List.filter_append]; simp [h]
theorem chs_no {d k : Nat} (h : ¬ andNot (k + 1) d = 0) : chs d (k + 1) = chs d k := by
  unfold chs; rw [List.range_succ, List.map_append, List.filter_append]; simp [h]
theorem chs_len (d k : Nat) : (chs d k).length ≤ k := by
  unfold chs; rw [List.length_map]; exact Nat.le_trans (List.length_filter_le _ _) (by simp)
/-- the places below k of four that have a digit 1, the first one the greatest -/
def pls (d k : Nat) : List Int := ((List.range k).filter fun i => decide (bit 4 d i = 1)).map fun (i : Nat) => ((i : Nat) : Int)
theorem pls_yes {d k : Nat} (h : bit 4 d k = 1) : pls d (k + 1) = pls d k ++ [((k : Nat) : Int)] := by
  unfold pls; rw [List.range_succ, List.filter_append]; simp [h]
theorem pls_no {d k : Nat} (h : ¬ bit 4 d k = 1) : pls d (k + 1) = pls d k := by
  unfold pls; rw [List.range_succ, List.filter_append]; simp [h]
theorem pls_len (d k : Nat) : (pls d k).length ≤ k := by
  unfold pls; rw [List.length_map]; exact Nat.le_trans (List.length_filter_le _ _) (by simp)


theorem first (s : Nat) (h1 : 1 ≤ s) (h4 : s ≤ 4) (w : World) : Calls Try.prog 170 #[.int .i64 (s : Int)] w fun e w' => e = .returned (.int .i64 ((16 - 2 ^ (4 - s) : Nat) : Int)) ∧ w = w' := by
  obtain rfl | rfl | rfl | rfl : s = 1 ∨ s = 2 ∨ s = 3 ∨ s = 4 := by omega
  all_goals
    go_enter Try.func170, Try.ntmps170
    go_wp2
    go_ret
    exact ⟨rfl, rfl⟩


set_option maxRecDepth 100000 in
set_option maxHeartbeats 4000000 in
theorem choices (d : Nat) (hd : d ≤ 15) (w : World) : Calls Try.prog 175 #[.int .i64 (d : Int)] w fun e w' => ∃ u, e = .returned u ∧ OwnInts w' w.heap.size w'.heap.size u (chs d d) ∧ Below w.heap.size w w' := by
  obtain ⟨i0, hi, hz0, hz1, hz2⟩ := info_parts infoInt
  have dz : (d : Int) ≤ 15 := by omega
  have O0 : Hid (w.ownsRow w.heap.size 3 1 (.slice none 0 0) (chs d 0).length (i64s (chs d 0))) := Lib.hid (World.ownsRow_nil _ _ _ _)
  go_enter Try.func175, Try.ntmps175
  go_wp2_with fail
  go_loopw [3, 4] (fun v3 j wr => ∃ k : Nat, k ≤ d ∧ j = .int .i64 ((k + 1 : Nat) : Int) ∧ Hid (wr.ownsRow w.heap.size 3 1 v3 (chs d k).length (i64s (chs d k))) ∧ Hid (Below w.heap.size w wr)) (fun _ j _ => 17 - (intOf j).toNat)
  case atStart => exact ⟨0, Nat.zero_le _, rfl, O0, Below.refl _ _⟩
  case round =>
    clear O0
    obtain ⟨k, hk, rfl, hO, hB⟩ := hrel
    obtain ⟨wi, rfl⟩ : ∃ wi : World, wi = wr := ⟨_, rfl⟩
    have hsz := hB.out.size
    by_cases hlt : k < d
    · obtain ⟨c, hc⟩ : ∃ c, k + 1 = c := ⟨_, rfl⟩
      have hcz : (c : Int) ≤ (d : Int) := by omega
      have hbn : bits .andNot .i64 ((c : Nat) : Int) ((d : Nat) : Int) = ((andNot c d : Nat) : Int) := and_not ⟨c, by omega⟩ ⟨d, by omega⟩
      have HCL := Lib.hid (chs_len d k)
      have HKC := Lib.hid hc
      by_cases h0 : andNot c d = 0
      · have HY := Lib.hid (chs_yes (d := d) (k := k) (by rw [hc]; exact h0))
        rw [hc] at HY ⊢
        rw [h0] at hbn
        have hbn : bits .andNot .i64 ((c : Nat) : Int) ((d : Nat) : Int) = 0 := hbn
        obtain ⟨n, hn⟩ : ∃ n, (chs d k).length = n := ⟨_, rfl⟩
        rw [hn] at hO HCL
        have n15 : n ≤ 15 := by have := HCL.out; omega
        have HN : Hid ((chs d (k + 1)).length = n + 1) := Lib.hid (by rw [show k + 1 = c from hc, HY.out, List.length_append, hn]; rfl)
        clear h0 hn hc
        go_wp2_with (at_builtin; go_must (refine wpList_append_own _ rfl (.tmp 14) (.tmp 16) 34 rfl (w.heap.size) 3 i0 (.int .i64 0) 1 8 Try.underlying34 hi hz0 hz1 hz2 rfl (by decide) _ _ _ rfl (hO.out.alloc _) ⟨wi.heap.size, 0, none⟩ 1 1 [.int .i64 (c : Int)] rfl rfl ?c1 ?c2 ?c3 ?c4 ?c5 ?_))
        try (case c1 => first | exact app.one_at _ _ _ | (intro q u hq; have h5 := app.one_at wi (.int .i64 (c : Int)) 3 q u hq; simpa using h5))
        case c2 => first | rfl | (intro u hu; simp at hu; subst hu; rfl)
        case c3 => unfold maxLen; omega
        case c4 => omega
        try (case c5 => first | omega | (simp; omega))
        intro v9 w9 hown hgrow _
        have B9 := Lib.hid ((below_al hB.out _).grown hgrow (by simp; omega) (fun j hj => by have := (hO.out.lt j hj).1; omega))
        have O9 := Lib.hid hown
        rw [app.i64s_snoc] at O9
        clear hown hgrow
        go_wp2_with fail
        go_roundw
        case rel => exact ⟨k + 1, by have := HKC.out; omega, by have := HKC.out; go_num, Lib.hid (by rw [HN.out, show k + 1 = c from HKC.out, HY.out]; exact O9.out), B9⟩
        case measure => have := HKC.out; simp [intOf]; omega
      · have HY := Lib.hid (chs_no (d := d) (k := k) (by rw [hc]; exact h0))
        rw [hc]
        have hne : (((andNot c d : Nat) : Int) == 0) = false := beq_false_of_ne (fun e => h0 (by exact_mod_cast e))
        generalize ((andNot c d : Nat) : Int) = q at hbn hne
        clear h0 hc
        go_wp2_with fail
        go_roundw
        case rel => exact ⟨k + 1, by have := HKC.out; omega, by have := HKC.out; go_num, Lib.hid (by rw [HY.out]; exact hO.out), hB⟩
        case measure => have := HKC.out; simp [intOf]; omega
    · obtain rfl : k = d := by omega
      have HO : Hid (OwnInts wi w.heap.size wi.heap.size u3 (chs k k)) := Lib.hid (app.ints_of_owns hO.out)
      have hkz : ¬ (((k + 1 : Nat) : Int) ≤ (k : Int)) := by omega
      go_wp2_with fail
      go_ret
      exact ⟨_, rfl, HO.out, hB.out⟩


set_option maxHeartbeats 1000000 in
theorem bits4 (d : Nat) (w : World) : Calls Try.prog 173 #[.int .i64 (d : Int), .int .i64 4] w fun e w' => ∃ u, e = .returned u ∧ OwnInts w' w.heap.size w'.heap.size u (at_ 4 d) ∧ Below w.heap.size w w' := by
  have HP := Lib.hid (plg.play_at 4 d w (by omega))
  go_enter Try.func173, Try.ntmps173
  go_wp2_with fail
  refine HP.out.mono ?_
  rintro e w' ⟨u, rfl, hu, hb⟩
  have HU := Lib.hid hu
  have HB := Lib.hid hb
  clear hu hb HP
  go_wp2_with fail
  go_ret
  exact ⟨_, rfl, HU.out, HB.out⟩

def two (a b : Nat) (p : Nat) : Nat := if p = 0 then a else b
set_option maxRecDepth 100000 in
set_option maxHeartbeats 4000000 in
theorem places (a b p : Nat) (hp : p ≤ 1) (w : World) : Calls Try.prog 176 #[.agg #[.int .i64 (a : Int), .int .i64 (b : Int)], .int .i64 (p : Int)] w fun e w' => ∃ u, e = .returned u ∧ OwnInts w' w.heap.size w'.heap.size u (pls (two a b p) 4) ∧ Below w.heap.size w w' := by
  obtain ⟨i0, hi, hz0, hz1, hz2⟩ := info_parts infoInt
  obtain ⟨d, hd⟩ : ∃ d, two a b p = d := ⟨_, rfl⟩
  have HBF := Lib.hid (bits4 d)
  have B0 := Lib.hid (below_al (Below.refl w.heap.size w) (.cells #[.int .i64 (a : Int), .int .i64 (b : Int)] 122))
  have K0 := Lib.hid (Blk.new w 122 #[.int .i64 (a : Int), .int .i64 (b : Int)])
  have hcell : (w.alloc (.cells #[.int .i64 (a : Int), .int .i64 (b : Int)] 122)).cell? ⟨w.heap.size, p, none⟩ = some (.int .i64 (d : Int)) := by
    obtain rfl | rfl : p = 0 ∨ p = 1 := by omega
    · rw [← hd]; exact (two_cells K0.out).1
    · rw [← hd]; exact (two_cells K0.out).2.1
  have hmk : (Instr.makeSlice 34 (.int .i64 0) (.int .i64 4)).run Try.prog (w.alloc (.cells #[.int .i64 (a : Int), .int .i64 (b : Int)] 122)) = .ok (.slice (some ⟨(w.alloc (.cells #[.int .i64 (a : Int), .int .i64 (b : Int)] 122)).heap.size, 0, none⟩) 0 4) ((w.alloc (.cells #[.int .i64 (a : Int), .int .i64 (b : Int)] 122)).alloc (.cells (madeCells #[.int .i64 0] 4) 3)) := app.mk0 4 (by omega) (w.alloc (.cells #[.int .i64 (a : Int), .int .i64 (b : Int)] 122))
  have o1 := below_al (Below.refl (w.alloc (.cells #[.int .i64 (a : Int), .int .i64 (b : Int)] 122)).heap.size (w.alloc (.cells #[.int .i64 (a : Int), .int .i64 (b : Int)] 122))) (.cells (madeCells #[.int .i64 0] 4) 3)
  have hcell := below_cell o1 _ _ hcell
  have O1 : Hid (((w.alloc (.cells #[.int .i64 (a : Int), .int .i64 (b : Int)] 122)).alloc (.cells (madeCells #[.int .i64 0] 4) 3)).ownsRow w.heap.size 3 1 (.slice (some ⟨w.heap.size + 1, 0, none⟩) 0 4) (pls d 0).length (i64s (pls d 0))) := Lib.hid (by
    have := World.ownsRow_made (base := w.heap.size) (e := 3) (size := 1) (w.alloc (.cells #[.int .i64 (a : Int), .int .i64 (b : Int)] 122)) (madeCells #[.int .i64 0] 4) 4 (by simp) (by unfold maxLen; omega) (by simp [madeCells])
    simpa [i64s, pls] using this)
  have B1 := Lib.hid (below_tr B0.out o1)
  have pz : (p : Int) < 2 := by omega
  rw [hd]
  clear hd B0 K0 o1
  go_enter Try.func176, Try.ntmps176
  go_wp2_with fail
  refine (HBF.out _).mono ?_
  rintro e w2 ⟨u, rfl, hu, hb⟩
  obtain ⟨P, pb, po, pc, rfl, hcap, hmax, hA, hc⟩ := hu.ints.form
  obtain rfl := hA (by rw [len_at]; omega)
  have HC : Hid (∀ k, k < 4 → w2.cell? ⟨pb, po + k, none⟩ = some (.int .i64 (bit 4 d k))) := Lib.hid (fun k hk => by
    have := hc k (by rw [len_at]; exact hk)
    rw [this]
    simp [at_])
  have HPB : Hid (w.heap.size + 1 + 1 ≤ pb ∧ pb < w2.heap.size) := Lib.hid (by
    have hi2 : In (.slice (some ⟨pb, po, none⟩) (at_ 4 d).length pc) ⟨pb, po, none⟩ := ⟨pb, po, (at_ 4 d).length, pc, rfl, rfl, rfl, Nat.le_refl _, by rw [len_at]; show po < po + 4; omega⟩
    have h1 := hu.ge _ hi2
    have h2 := hu.lt _ hi2
    exact ⟨by simpa using h1, h2⟩)
  have O2 := Lib.hid (app.owns_below O1.out hb)
  have B2 := Lib.hid (below_tr B1.out hb)
  rw [len_at]
  clear hu hb hcap hmax hA hc hcell hmk O1 B1
  go_wp2_with fail
  go_loopw [5, 6, 7, 14] (fun v z6 z7 j wr => ∃ k : Nat, k ≤ 4 ∧ j = .int .i64 (k : Nat) ∧ (∃ z, z6 = z) ∧ (∃ z, z7 = z) ∧ Hid (wr.ownsRow w.heap.size 3 1 v (pls d k).length (i64s (pls d k))) ∧ Hid (Below w.heap.size w wr) ∧ Hid (∀ k, k < 4 → wr.cell? ⟨pb, po + k, none⟩ = some (.int .i64 (bit 4 d k))) ∧ Hid (v.ownBlock ≠ some pb ∧ pb < wr.heap.size)) (fun _ _ _ j _ => 4 - (intOf j).toNat)
  case atStart => exact ⟨0, Nat.zero_le _, rfl, ⟨_, rfl⟩, ⟨_, rfl⟩, O2, B2, HC, Lib.hid ⟨by have := HPB.out; simp [Value.ownBlock]; omega, HPB.out.2⟩⟩
  case round =>
    clear O2 B2 HC
    obtain ⟨k, hk, rfl, ⟨z6, rfl⟩, ⟨z7, rfl⟩, hO, hB, hC, hD⟩ := hrel
    obtain ⟨wi, rfl⟩ : ∃ wi : World, wi = wr := ⟨_, rfl⟩
    have hsz := hB.out.size
    by_cases hlt : k < 4
    · have hkz : (k : Int) < 4 := by omega
      have f1 := hC.out k hlt
      have HLT := Lib.hid hlt
      obtain ⟨z, hz⟩ : ∃ z, bit 4 d k = z := ⟨_, rfl⟩
      rw [hz] at f1
      by_cases h1 : z = 1
      · have dz : (z == 1) = true := by simp [h1]
        have HY := Lib.hid (pls_yes (d := d) (k := k) (hz.trans h1))
        obtain ⟨n, hn⟩ : ∃ n, (pls d k).length = n := ⟨_, rfl⟩
        have hnl := pls_len d k
        rw [hn] at hO hnl
        have HN : Hid ((pls d (k + 1)).length = n + 1) := Lib.hid (by rw [HY.out, List.length_append, hn]; rfl)
        have A1 := Lib.hid (app.owns_below hO.out (below_al (Below.refl _ _) (.cells #[.int .i64 (k : Int)] 3)))
        clear h1 hz hn
        go_wp2_with (at_builtin; go_must (refine boxl.app_lies rfl (.tmp 21) (.tmp 23) 34 rfl (w.heap.size) 3 i0 (.int .i64 0) 1 8 Try.underlying34 hi hz0 hz1 hz2 rfl (by decide) _ _ _ rfl A1.out ⟨wi.heap.size, 0, none⟩ 1 1 [.int .i64 (k : Int)] rfl rfl ?c1 ?c2 ?c3 ?c4 ?c5 ?c6 ?_))
        try (case c1 => first | exact app.one_at _ _ _ | (intro q u hq; have h5 := app.one_at wi (.int .i64 (k : Int)) 3 q u hq; simpa using h5))
        try (case c2 => first | rfl | (intro u hu; simp at hu; subst hu; rfl))
        try (case c3 => unfold maxLen; omega)
        try (case c4 => omega)
        try (case c5 => first | omega | (simp; omega))
        try (case c6 => omega)
        intro v9 w9 hown hgrow hlies
        have B9 := Lib.hid ((below_al hB.out (.cells #[.int .i64 (k : Int)] 3)).grown hgrow (by simp; omega) (fun j hj => by have := (hO.out.lt j hj).1; omega))
        have C9 : Hid (∀ k, k < 4 → w9.cell? ⟨pb, po + k, none⟩ = some (.int .i64 (bit 4 d k))) := Lib.hid (fun q hq => hgrow.cell (below_cell (below_al (Below.refl wi.heap.size wi) (.cells #[.int .i64 (k : Int)] 3)) _ _ (hC.out q hq)) (fun e => hD.out.1 e.symm))
        have D9 : Hid (v9.ownBlock ≠ some pb ∧ pb < w9.heap.size) := Lib.hid (by
          have h2 := hD.out.2
          have h3 := hgrow.size
          refine ⟨fun e => ?_, by simp at h3; omega⟩
          rcases hlies with l | l
          · exact hD.out.1 (l.symm.trans e)
          · rw [l] at e; injection e with e; first | omega | (simp at e; omega))
        have O9 := Lib.hid hown
        rw [app.i64s_snoc] at O9
        clear hown hgrow hlies hO hB hC hD A1
        go_wp2_with fail
        go_roundw
        case rel => exact ⟨k + 1, by have := HLT.out; omega, by go_num, ⟨_, rfl⟩, ⟨_, rfl⟩, Lib.hid (by rw [HN.out, HY.out]; exact O9.out), B9, C9, D9⟩
        case measure => have := HLT.out; simp [intOf]; omega
      · have dz : (z == 1) = false := by simp [h1]
        have HY := Lib.hid (pls_no (d := d) (k := k) (by rw [hz]; exact h1))
        clear h1 hz
        go_wp2_with fail
        go_roundw
        case rel => exact ⟨k + 1, by have := HLT.out; omega, by go_num, ⟨_, rfl⟩, ⟨_, rfl⟩, Lib.hid (by rw [HY.out]; exact hO.out), hB, hC, hD⟩
        case measure => have := HLT.out; simp [intOf]; omega
    · have hkz : ¬ (k : Int) < 4 := by omega
      obtain rfl : k = 4 := by omega
      have HO : Hid (OwnInts wi w.heap.size wi.heap.size u5 (pls d 4)) := Lib.hid (app.ints_of_owns hO.out)
      go_wp2_with fail
      go_ret
      exact ⟨_, rfl, HO.out, hB.out⟩

end Go.Proofs.Ytimfnhejiiagmaa.chc
