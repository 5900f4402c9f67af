/- FoolingSet of both sides. -/
import Derived.Test.YtggodllfaggjiaaFol
import Derived.Test.YtggodllfaggjiaaTki
namespace Go.Proofs.Ytggodllfaggjiaa.foo
open Go.RowKit Go.Deep Go.Proofs.Ytggodllfaggjiaa.base
open Go.Proofs.Ytggodllfaggjiaa.task (okTask wide taskB taskB_yes taskB_no)
open Go.Proofs.Ytggodllfaggjiaa.grid (nn)
open Go.Proofs.Ytggodllfaggjiaa.prs Go.Proofs.Ytggodllfaggjiaa.pro
open Go.Proofs.Ytggodllfaggjiaa.prt (infoA2)
open Go.Proofs.Ytggodllfaggjiaa.fom Go.Proofs.Ytggodllfaggjiaa.fos Go.Proofs.Ytggodllfaggjiaa.fol

def list (T : List (List Int)) (bit : Int) : List (Int × Int) := enc (Lf T bit (cands T bit (wide T) (T.length * wide T) [] 0))
open Classical in
/-- what FoolingSet answers -/
noncomputable def res (T : List (List Int)) (bit : Int) : List (Int × Int) × Bool := if okTask T ∧ (bit = 0 ∨ bit = 1) then (list T bit, true) else ([], false)
theorem res_yes {T : List (List Int)} {bit : Int} (h : okTask T) (hb : bit = 0 ∨ bit = 1) : res T bit = (list T bit, true) := if_pos ⟨h, hb⟩
theorem res_no {T : List (List Int)} {bit : Int} (h : ¬ (okTask T ∧ (bit = 0 ∨ bit = 1))) : res T bit = ([], false) := if_neg h
theorem N16 {T : List (List Int)} (h : okTask T) : T.length * wide T ≤ 16 := le16 h.1.2 h.2.1.2
theorem len_res (T : List (List Int)) (bit : Int) : (res T bit).1.length ≤ 1048576 := by
  by_cases h : okTask T ∧ (bit = 0 ∨ bit = 1)
  · rw [res_yes h.1 h.2]
    have h1 := B_len (T := T) (bit := bit) (m := wide T) (N := T.length * wide T) (begun := []) (a := 0)
    have h2 := N16 h.1
    show (enc _).length ≤ _
    rw [len_enc]
    omega
  · rw [res_no h]; exact Nat.zero_le _

/-- the first k cells with the bit -/
def pref (T : List (List Int)) (bit : Int) (m k : Nat) : List (Nat × Nat) := ((List.range k).map (cell m)).filter (fitsB T bit [])
theorem fitsB_nil (T : List (List Int)) (bit : Int) (p : Nat × Nat) : fitsB T bit [] p = decide (nn T p.1 p.2 = bit) := by simp [fitsB]
theorem pref_yes {T : List (List Int)} {bit : Int} {m k : Nat} {p : Nat × Nat} (h : cell m k = p) (hb : nn T p.1 p.2 = bit) : pref T bit m (k + 1) = pref T bit m k ++ [p] := by
  unfold pref
  rw [List.range_succ, List.map_append, List.filter_append]
  simp [h, fitsB_nil, hb]
theorem pref_no {T : List (List Int)} {bit : Int} {m k : Nat} {p : Nat × Nat} (h : cell m k = p) (hb : ¬ nn T p.1 p.2 = bit) : pref T bit m (k + 1) = pref T bit m k := by
  unfold pref
  rw [List.range_succ, List.map_append, List.filter_append]
  simp [h, fitsB_nil, hb]
theorem pref_len {T : List (List Int)} {bit : Int} {m k : Nat} : (pref T bit m k).length ≤ k := by
  have := List.length_filter_le (fitsB T bit []) ((List.range k).map (cell m))
  simpa [pref] using this
theorem pref_all {T : List (List Int)} {bit : Int} {m N : Nat} : pref T bit m N = cands T bit m N [] 0 := by unfold pref cands; rw [List.range_eq_range']; rfl
theorem cell_at {m i j : Nat} (h : j < m) : cell m (i * m + j) = (i, j) := by
  have hm : 0 < m := by omega
  unfold cell
  rw [Nat.mul_comm, Nat.mul_add_div hm, Nat.div_eq_of_lt h, Nat.mul_add_mod, Nat.mod_eq_of_lt h]
  rfl
theorem pref_mem {T : List (List Int)} {bit : Int} {m X : Nat} (hm : 1 ≤ m) {b : Nat × Nat} (h : b ∈ pref T bit m (X * m)) : b.1 < X ∧ b.2 < m := by
  unfold pref at h
  obtain ⟨a, ha, rfl⟩ := List.mem_map.1 (List.mem_filter.1 h).1
  exact divs rfl hm (List.mem_range.1 ha)
theorem lin {i X m j : Nat} (hi : i < X) (hj : j ≤ m) : i * m + j ≤ X * m := by
  have : (i + 1) * m ≤ X * m := Nat.mul_le_mul_right m hi
  rw [Nat.succ_mul] at this
  omega


set_option maxRecDepth 100000 in
set_option maxHeartbeats 4000000 in
theorem spec_any (v : Value) (T : List (List Int)) (bit : Int) (w : World) (h : IRows w v T) :
    Calls Try.prog 48 #[v, .int .i64 bit] w fun e w' => ∃ u, e = .returned (.tuple #[u, .bool (res T bit).2]) ∧ Pairs w' u (res T bit).1 ∧ Below w.heap.size w w' := by
  have HT := Lib.hid (task.spec_task v T w h)
  have HH := Lib.hid h
  obtain ⟨va, vn, vc, rfl⟩ := h.shape
  clear h
  by_cases hok : okTask T
  · rw [taskB_yes hok] at HT
    by_cases hb : bit = 0 ∨ bit = 1
    · have HR := Lib.hid (res_yes hok hb)
      have HF : Hid (∀ W, Below w.heap.size w W → Calls Try.prog 80 #[.slice va vn vc, .int .i64 bit, .slice (some ⟨W.heap.size, 0, none⟩) 0 0, .int .i64 0] (W.alloc (.cells #[] 86)) fun e w' => ∃ u, e = .returned u ∧ Pairs w' u (list T bit) ∧ Below w.heap.size w w') := Lib.hid (fun W hW => by
        have B1 := below_al hW (.cells #[] 86)
        have h5 := spec_fool (.slice va vn vc) T bit T.length (wide T) (T.length * wide T) hok rfl rfl rfl (T.length * wide T + 1) 0 [] (.slice (some ⟨W.heap.size, 0, none⟩) 0 0) (W.alloc (.cells #[] 86)) (by omega) (Nat.zero_le _) (Nat.le_refl _) (fun b hb => absurd hb (by simp)) (HH.out.below B1) (empty _ _) ⟨_, _, _, rfl⟩
        rw [show ((0 : Nat) : Int) = 0 from rfl] at h5
        refine h5.mono ?_
        rintro e w' ⟨u, rfl, hu, hb⟩
        exact ⟨u, rfl, hu, below_tr B1 hb⟩)
      have l1 : 0 ≤ bit := by omega
      have l2 : bit ≤ 1 := by omega
      clear hok hb
      go_enter Try.func48, Try.ntmps48
      go_wp2_with fail
      refine HT.out.mono ?_
      rintro e w1 ⟨rfl, q, rfl⟩
      go_wp2_with fail
      refine (val.in_yes _ _ _ _ l1 l2).mono ?_
      rintro e w1 ⟨rfl, rfl⟩
      go_wp2_with fail
      refine (HF.out _ (below_drewN (Below.refl _ _) _)).mono ?_
      rintro e w1 ⟨u, rfl, hu, hb⟩
      go_wp2_with fail
      go_ret2
      rw [HR.out]
      exact ⟨_, rfl, hu, hb⟩
    · have HR := Lib.hid (res_no (T := T) (bit := bit) (fun h => hb h.2))
      have l1 : bit < 0 ∨ 1 < bit := by omega
      clear hok hb
      go_enter Try.func48, Try.ntmps48
      go_wp2_with fail
      refine HT.out.mono ?_
      rintro e w1 ⟨rfl, q, rfl⟩
      go_wp2_with fail
      refine (val.in_no _ _ _ _ l1).mono ?_
      rintro e w1 ⟨rfl, rfl⟩
      go_wp2_with fail
      go_ret2
      rw [HR.out]
      exact ⟨_, rfl, empty _ _, below_al (below_drewN (Below.refl _ _) _) _⟩
  · rw [taskB_no hok] at HT
    have HR := Lib.hid (res_no (T := T) (bit := bit) (fun h => hok h.1))
    clear hok
    go_enter Try.func48, Try.ntmps48
    go_wp2_with fail
    refine HT.out.mono ?_
    rintro e w1 ⟨rfl, q, rfl⟩
    go_wp2_with fail
    go_ret2
    rw [HR.out]
    exact ⟨_, rfl, empty _ _, below_al (below_drewN (Below.refl _ _) _) _⟩



set_option maxRecDepth 100000 in
set_option maxHeartbeats 4000000 in
theorem impl_any (v : Value) (T : List (List Int)) (bit : Int) (w : World) (h : IRows w v T) :
    Calls Try.prog 49 #[v, .int .i64 bit] w fun e w' => ∃ u, e = .returned (.tuple #[u, .bool (res T bit).2]) ∧ OwnPairs w' w.heap.size w'.heap.size u (res T bit).1 ∧ Below w.heap.size w w' := by
  have HT := Lib.hid (task.impl_below v T w h)
  have HH := Lib.hid h
  by_cases hok : okTask T
  · rw [taskB_yes hok] at HT
    obtain ⟨i0, hi0, hz0, hz1, hz2⟩ := info_parts infoA2
    by_cases hb : bit = 0 ∨ bit = 1
    · have HR := Lib.hid (res_yes hok hb)
      have HBIT := Lib.hid hb
      obtain ⟨B, d, cap, rb, ro, rc, rfl, hcells⟩ := grid.cells h hok
      have HL := Lib.hid (fun n ps v w => impl_long (.slice (some ⟨B, d, none⟩) T.length cap) T bit T.length (wide T) hok rfl rfl n ps v w)
      have H16 := Lib.hid (N16 hok)
      obtain ⟨X, hX⟩ : ∃ X, T.length = X := ⟨_, rfl⟩
      obtain ⟨m, hm⟩ : ∃ m, wide T = m := ⟨_, rfl⟩
      have HXE := Lib.hid hX
      have HLI : Hid (list T bit = enc (Lf T bit (cands T bit m (X * m) [] 0))) := Lib.hid (by unfold list; rw [hX, hm])
      have hm1 : 1 ≤ m := by rw [← hm]; exact hok.2.1.1
      have hX4 : (X : Int) ≤ 4 := by have := hok.1.2; omega
      have hm4 : (m : Int) ≤ 4 := by have := hok.2.1.2; omega
      rw [hX, hm] at hcells H16 HL
      have HC := Lib.hid hcells
      have HM1 := Lib.hid hm1
      have HMW := Lib.hid hm
      rw [hX] at HT HH ⊢
      clear hok hb hcells h hm1 hX hm
      go_enter Try.func49, Try.ntmps49
      go_wp2_with fail
      refine HT.out.mono ?_
      rintro e w1 ⟨rfl, hb1⟩
      have B1 := Lib.hid hb1
      clear hb1
      go_wp2_with fail
      refine (tki.bit_yes _ _ HBIT.out).mono ?_
      rintro e w1' ⟨rfl, rfl⟩
      go_wp2_with fail
      have hP0 : Hid (w1.ownsRow w.heap.size 86 2 (.slice none 0 0) (pref T bit m (0 * m)).length (pcs (enc (pref T bit m (0 * m))))) := Lib.hid (by rw [Nat.zero_mul]; exact World.ownsRow_nil _ _ _ _)
      go_loopw [6, 7, 8, 9, 10, 21] (fun vb z7 z8 z9 z10 s wr => ∃ i : Nat, i ≤ X ∧ s = .int .i64 (i : Nat) ∧ (∃ vv, vb = vv ∧ Hid (wr.ownsRow w.heap.size 86 2 vv (pref T bit m (i * m)).length (pcs (enc (pref T bit m (i * m)))))) ∧ (∃ z, z7 = z) ∧ (∃ z, z8 = z) ∧ (∃ z, z9 = z) ∧ (∃ z, z10 = z) ∧ Hid (Below w.heap.size w wr)) (fun _ _ _ _ _ s _ => X - (intOf s).toNat)
      case atStart => exact ⟨0, Nat.zero_le _, rfl, ⟨_, rfl, hP0⟩, ⟨_, rfl⟩, ⟨_, rfl⟩, ⟨_, rfl⟩, ⟨_, rfl⟩, B1.out⟩
      case round =>
        clear hP0
        obtain ⟨i, hi, rfl, ⟨vv, hvv, hO⟩, ⟨z7, rfl⟩, ⟨z8, rfl⟩, ⟨z9, rfl⟩, ⟨z10, rfl⟩, hBW⟩ := hrel
        obtain ⟨wo, rfl⟩ : ∃ wo : World, wo = wr := ⟨_, rfl⟩
        subst hvv
        by_cases hlt : i < X
        · have hkz : (i : Int) < (X : Int) := by omega
          have x0 := below_cell hBW.out _ _ (HC.out i hlt).1
          have HLT := Lib.hid hlt
          go_wp2_with fail
          have hO0 : Hid (wo.ownsRow w.heap.size 86 2 u6 (pref T bit m (i * m + 0)).length (pcs (enc (pref T bit m (i * m + 0))))) := hO
          clear x0
          go_loopw [6, 9, 10, 28] (fun vb z9 z10 s wr => ∃ j : Nat, j ≤ m ∧ s = .int .i64 (j : Nat) ∧ (∃ vv, vb = vv ∧ Hid (wr.ownsRow w.heap.size 86 2 vv (pref T bit m (i * m + j)).length (pcs (enc (pref T bit m (i * m + j)))))) ∧ (∃ z, z9 = z) ∧ (∃ z, z10 = z) ∧ Hid (Below w.heap.size w wr)) (fun _ _ _ s _ => m - (intOf s).toNat)
          case atStart => exact ⟨0, Nat.zero_le _, rfl, ⟨_, rfl, hO0⟩, ⟨_, rfl⟩, ⟨_, rfl⟩, hBW⟩
          case round =>
            clear hO0 hO
            obtain ⟨j, hj, rfl, ⟨vv, hvv, hO⟩, ⟨z9, rfl⟩, ⟨z10, rfl⟩, hBI⟩ := hrel
            obtain ⟨wi, rfl⟩ : ∃ wi : World, wi = wr := ⟨_, rfl⟩
            subst hvv
            by_cases hlj : j < m
            · have hjz : (j : Int) < (m : Int) := by omega
              have y0 := below_cell hBI.out _ _ ((HC.out i HLT.out).2 j hlj)
              have HLJ := Lib.hid hlj
              obtain ⟨nv, hnv⟩ : ∃ q, nn T i j = q := ⟨_, rfl⟩
              rw [hnv] at y0
              have HG : Hid ((pref T bit m (i * m + j)).length ≤ 16) := Lib.hid (Nat.le_trans pref_len (Nat.le_trans (lin HLT.out hj) H16.out))
              by_cases hq : nv = bit
              · have e1 : (nv == bit) = true := by simp [hq]
                have HP : Hid (pref T bit m (i * m + (j + 1)) = pref T bit m (i * m + j) ++ [(i, j)]) := Lib.hid (pref_yes (cell_at hlj) (by rw [← hq]; exact hnv))
                have O2 : Hid ((wi.alloc (.cells #[.int .i64 (i : Int), .int .i64 (j : Int)] 86)).ownsRow w.heap.size 86 2 u6 (pref T bit m (i * m + j)).length (pcs (enc (pref T bit m (i * m + j))))) := Lib.hid (app.owns_below hO.out (below_al (Below.refl _ _) _))
                have hsz : w.heap.size ≤ wi.heap.size := hBI.out.size
                clear hq hnv
                go_wp2_with (at_builtin; go_must (refine wpList_append_own _ rfl (.tmp 36) (.tmp 40) 28 rfl w.heap.size 86 i0 (.agg #[.int .i64 0, .int .i64 0]) 2 16 Try.underlying28 hi0 hz0 hz1 hz2 rfl (by decide) _ _ _ rfl O2.out ⟨wi.heap.size, 0, none⟩ 1 1 [.int .i64 (i : Int), .int .i64 (j : Int)] rfl rfl ?d1 ?d2 ?d3 ?d4 ?d5 ?_))
                try (case d1 => first | exact two_at _ _ _ _ | (intro q u hq; have h5 := two_at wi (.int .i64 (i : Int)) (.int .i64 (j : Int)) 86 q u hq; rw [opn.add_none] at h5; simpa using h5))
                case d2 => intro u hu; simp at hu; rcases hu with rfl | rfl <;> rfl
                case d3 => unfold maxLen; have := HG.out; omega
                case d4 => have := HG.out; omega
                try (case d5 => first | omega | (simp; omega))
                intro v3 w3 hown3 hgrow3 _
                have B3 : Hid (Below w.heap.size w w3) := Lib.hid ((below_al hBI.out _).grown hgrow3 (by simp; omega) (fun q hq => (O2.out.lt q hq).1))
                have O3 : Hid (w3.ownsRow w.heap.size 86 2 v3 (pref T bit m (i * m + (j + 1))).length (pcs (enc (pref T bit m (i * m + (j + 1)))))) := Lib.hid (by have h5 := hown3; rw [pcs_snoc, show enc (pref T bit m (i * m + j)) ++ [((i : Int), (j : Int))] = enc (pref T bit m (i * m + j) ++ [(i, j)]) from (enc_snoc (pref T bit m (i * m + j)) (i, j)).symm] at h5; rw [HP.out, List.length_append]; exact h5)
                clear hown3 hgrow3
                go_wp2_with fail
                go_roundw
                case rel => exact ⟨j + 1, by have := HLJ.out; omega, by go_num, ⟨_, rfl, O3⟩, ⟨_, rfl⟩, ⟨_, rfl⟩, B3⟩
                case measure => have := HLJ.out; simp [intOf]; omega
              · have e1 : (nv == bit) = false := by simp [hq]
                have HP : Hid (pref T bit m (i * m + (j + 1)) = pref T bit m (i * m + j)) := Lib.hid (pref_no (cell_at hlj) (fun h => hq (hnv ▸ h)))
                clear hq hnv
                go_wp2_with fail
                go_roundw
                case rel => exact ⟨j + 1, by have := HLJ.out; omega, by go_num, ⟨_, rfl, Lib.hid (by rw [HP.out]; exact hO.out)⟩, ⟨_, rfl⟩, ⟨_, rfl⟩, hBI⟩
                case measure => have := HLJ.out; simp [intOf]; omega
            · obtain rfl : j = m := by omega
              have O4 : Hid (wi.ownsRow w.heap.size 86 2 u6 (pref T bit j ((i + 1) * j)).length (pcs (enc (pref T bit j ((i + 1) * j))))) := Lib.hid (by rw [Nat.succ_mul]; exact hO.out)
              go_wp2_with fail
              go_roundw
              case rel => exact ⟨i + 1, by have := HLT.out; omega, by go_num, ⟨_, rfl, O4⟩, ⟨_, rfl⟩, ⟨_, rfl⟩, ⟨_, rfl⟩, ⟨_, rfl⟩, hBI⟩
              case measure => have := HLT.out; simp [intOf]; omega
        · obtain rfl : i = X := by omega
          have HK : Hid (∃ u : Value, True) := Lib.hid ⟨u6, trivial⟩
          have hcall := HL.out ((pref T bit m (i * m)).length + 1) (pref T bit m (i * m)) u6 wo (Nat.lt_succ_self _) (Nat.le_trans pref_len H16.out) (fun b hb => pref_mem HM1.out hb) (HXE.out ▸ HH.out.below hBW.out) (pairs_of_owns hO.out).pairs
          rw [pref_all, ← HLI.out] at hcall
          have HCALL := Lib.hid hcall
          clear hcall
          go_wp2_with fail
          refine HCALL.out.mono ?_
          rintro e w3 ⟨u, rfl, hu, _, hb3⟩
          go_wp2_with fail
          go_ret2
          rw [HR.out]
          exact ⟨_, rfl, hu.mono hBW.out.size (Nat.le_refl _), below_tr hBW.out hb3⟩
    · have HR := Lib.hid (res_no (T := T) (bit := bit) (fun h => hb h.2))
      have HBIT := Lib.hid hb
      obtain ⟨va, vn, vc, rfl⟩ := h.shape
      clear hok hb h
      go_enter Try.func49, Try.ntmps49
      go_wp2_with fail
      refine HT.out.mono ?_
      rintro e w1 ⟨rfl, hb1⟩
      go_wp2_with fail
      refine (tki.bit_no _ _ HBIT.out).mono ?_
      rintro e w1' ⟨rfl, rfl⟩
      go_wp2_with fail
      go_ret2
      rw [HR.out]
      exact ⟨_, rfl, OwnPairs.nil _ _ _, hb1⟩
  · rw [taskB_no hok] at HT
    have HR := Lib.hid (res_no (T := T) (bit := bit) (fun h => hok h.1))
    obtain ⟨va, vn, vc, rfl⟩ := h.shape
    clear hok h
    go_enter Try.func49, Try.ntmps49
    go_wp2_with fail
    refine HT.out.mono ?_
    rintro e w1 ⟨rfl, hb1⟩
    go_wp2_with fail
    go_ret2
    rw [HR.out]
    exact ⟨_, rfl, OwnPairs.nil _ _ _, hb1⟩


end Go.Proofs.Ytggodllfaggjiaa.foo
