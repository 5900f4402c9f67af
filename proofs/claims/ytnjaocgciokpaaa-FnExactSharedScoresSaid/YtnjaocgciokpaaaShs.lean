/- SharedScores of both sides. -/
import Derived.Test.YtnjaocgciokpaaaCdv
import Derived.BigRegion
namespace Go.Proofs.Ytnjaocgciokpaaa.shs
open Go.RowKit Go.Deep Go.Proofs.Ytnjaocgciokpaaa.base
open Go.Proofs.Ytnjaocgciokpaaa.ints (ret_int infoInt)
open Go.Proofs.Ytnjaocgciokpaaa.cdm
open Go.Proofs.Ytnjaocgciokpaaa.cdt (resS resS_yes resS_no sc_bound)

/-- the sum of the scores of the bit i in the first k codes -/
def ss (css : List (List Int)) (i : Nat) : Nat → Int
  | 0 => 0
  | k + 1 => ss css i k + sc (css.getD k []) i
def sums (css : List (List Int)) (n : Nat) : List Int := (List.range n).map fun i => ss css i css.length
theorem len_sums (css : List (List Int)) (n : Nat) : (sums css n).length = n := by simp [sums]
def okS (n : Int) (css : List (List Int)) : Prop := (1 ≤ n ∧ n ≤ 3) ∧ (1 ≤ css.length ∧ css.length ≤ 1000) ∧ ∀ k (h : k < css.length), okCode n css[k]
open Classical in
noncomputable def res (n : Int) (css : List (List Int)) : List Int × Bool := if okS n css then (sums css n.toNat, true) else ([], false)
theorem res_yes {n : Int} {css : List (List Int)} (h : okS n css) : res n css = (sums css n.toNat, true) := if_pos h
theorem res_no {n : Int} {css : List (List Int)} (h : ¬ okS n css) : res n css = ([], false) := if_neg h
theorem len_res (n : Int) (css : List (List Int)) : (res n css).1.length ≤ 1048576 := by
  by_cases h : okS n css
  · rw [res_yes h, len_sums]; have := h.1.2; omega
  · rw [res_no h]; exact Nat.zero_le _
theorem ss_bound {n : Int} {css : List (List Int)} (i : Nat) : ∀ k, k ≤ css.length → (∀ j (h : j < css.length), j < k → okCode n css[j]) → 0 ≤ ss css i k ∧ ss css i k ≤ 16 * k
  | 0, _, _ => ⟨Int.le_refl _, by simp [ss]⟩
  | k + 1, hk, h => by
    have ⟨h1, h2⟩ := ss_bound i k (by omega) (fun j hj hjk => h j hj (by omega))
    have h3 := sc_bound (ok_len8 (h k (by omega) (by omega))) i
    have e : css.getD k [] = css[k] := by simp [List.getD, show k < css.length by omega]
    show 0 ≤ ss css i k + sc (css.getD k []) i ∧ ss css i k + sc (css.getD k []) i ≤ _
    rw [e]
    push_cast
    omega
/-- the sums when the first q of the scores of the code k have been added -/
def F (css : List (List Int)) (cs : List Int) (k q j : Nat) : Int := ss css j k + if j < q then sc cs j else 0
theorem F_zero (css : List (List Int)) (cs : List Int) (k j : Nat) : F css cs k 0 j = ss css j k := by simp [F]
theorem F_here (css : List (List Int)) (cs : List Int) (k q : Nat) : F css cs k q q = ss css q k := by simp [F]
theorem F_all {css : List (List Int)} {cs : List Int} {k n j : Nat} (hc : css.getD k [] = cs) (h : j < n) : F css cs k n j = ss css j (k + 1) := by
  unfold F; rw [if_pos h]; show _ = ss css j k + _; rw [hc]
theorem F_step (css : List (List Int)) (cs : List Int) (k q j : Nat) : F css cs k (q + 1) j = if j = q then ss css q k + sc cs q else F css cs k q j := by
  unfold F
  by_cases e : j = q
  · subst e; rw [if_pos (by omega), if_pos rfl]
  · rw [if_neg e]
    by_cases h : j < q
    · rw [if_pos (by omega), if_pos h]
    · rw [if_neg (by omega), if_neg h]
theorem row_below {w w' : World} {g : Nat} {t : TypeId} {n : Nat} {f : Nat → Value} (h : w.rowIs g t n f) (hb : Below w.heap.size w w') : w'.rowIs g t n f := by
  have hl := h.lt
  obtain ⟨cs, h1, h2, h3⟩ := h
  exact ⟨cs, (hb.block g hl).trans h1, h2, h3⟩
theorem row_own {w : World} {B g n : Nat} {css : List (List Int)} (h : w.rowIs g 3 n (fun j => .int .i64 (ss css j css.length))) (hB : B ≤ g) (hn : n ≤ maxLen) : OwnInts w B w.heap.size (.slice (some ⟨g, 0, none⟩) n n) (sums css n) := by
  have := ints.own_of_row (xs := sums css n) (B := B) (T := w.heap.size) (g := g) (w := w) (t := 3) (by
    rw [len_sums]
    exact h.congr (fun j hj => by simp [sums, List.getD, hj])) hB h.lt (by rw [len_sums]; exact hn)
  rw [len_sums] at this
  exact this


set_option maxRecDepth 100000 in
set_option maxHeartbeats 8000000 in
theorem spec_any (n : Int) (v : Value) (css : List (List Int)) (w : World) (h : IRows w v css) :
    Calls Try.prog 41 #[.int .i64 n, v] w fun e w' => ∃ u, e = .returned (.tuple #[u, .bool (res n css).2]) ∧ Ints w' u (res n css).1 ∧ Below w.heap.size w w' := by
  obtain ⟨A, b, o, cap, R, rfl, hcap, hmax, hA, hc⟩ := h.form
  clear h
  have hml : (css.length : Int) ≤ 9223372036854775807 := by unfold maxLen at hmax; omega
  clear hmax hcap
  by_cases hn : 1 ≤ n ∧ n ≤ 3
  · have HN := Lib.hid hn
    obtain ⟨m, rfl⟩ : ∃ m : Nat, n = m := ⟨n.toNat, by omega⟩
    have hm3 : (m : Int) ≤ 3 := hn.2
    have hm1 : (1 : Int) ≤ (m : Int) := hn.1
    by_cases hl : 1 ≤ css.length ∧ css.length ≤ 1000
    · have l1 : (1 : Int) ≤ (css.length : Int) := by omega
      have l2 : (css.length : Int) ≤ 1000 := by omega
      have HL := Lib.hid hl
      obtain rfl := hA (by omega)
      have hmk := run_make_row' (P := Try.prog) 22 3 (.int .i64 0) 8 Try.underlying22 infoInt rfl .i64 .i64 m (by omega) (by omega)
      have HC := Lib.hid hc
      have B0 := Lib.hid (below_al (Below.refl w.heap.size w) (.cells (madeCells #[.int .i64 0] m) 3))
      have R0 : Hid ((w.alloc (.cells (madeCells #[.int .i64 0] m) 3)).rowIs w.heap.size 3 m (fun j => .int .i64 (ss css j 0))) := Lib.hid ((World.rowIs_made w _ _ _).congr (fun j _ => by simp [ss]))
      clear hc hA hl hn
      go_enter Try.func41, Try.ntmps41
      go_wp2_with fail
      refine (val.in_yes _ _ _ _ HN.out.1 HN.out.2).mono ?_
      rintro e w' ⟨rfl, rfl⟩
      go_wp2_with fail
      refine (val.in_yes _ _ _ _ l1 l2).mono ?_
      rintro e w' ⟨rfl, rfl⟩
      go_wp2_with fail
      clear hmk
      go_loopw [7, 8, 9] (fun q z8 z9 wr => ∃ k : Nat, k ≤ css.length ∧ q = .int .i64 k ∧ (∃ z, z8 = z) ∧ (∃ z, z9 = z) ∧ Hid (Below w.heap.size w wr) ∧ Hid (wr.rowIs w.heap.size 3 m (fun j => .int .i64 (ss css j k))) ∧ Hid (∀ j (h : j < css.length), j < k → okCode (m : Int) css[j])) (fun q _ _ _ => css.length - (intOf q).toNat)
      case atStart => exact ⟨0, Nat.zero_le _, rfl, ⟨_, rfl⟩, ⟨_, rfl⟩, B0, R0, fun j _ hj => by omega⟩
      case round =>
        clear B0 R0
        obtain ⟨k, hk, rfl, ⟨z8, rfl⟩, ⟨z9, rfl⟩, hB, hR, hO⟩ := hrel
        obtain ⟨wi, rfl⟩ : ∃ wi : World, wi = wr := ⟨_, rfl⟩
        by_cases hlt : k < css.length
        · have hkz : (k : Int) < (css.length : Int) := by omega
          obtain ⟨cs, hcs, g0, hrow, hgd⟩ : ∃ cs, css[k] = cs ∧ wi.cell? ⟨b, o + k, none⟩ = some (R k) ∧ Ints wi (R k) cs ∧ css.getD k [] = cs := ⟨_, rfl, below_cell hB.out _ _ (HC.out k hlt).1, (HC.out k hlt).2.below hB.out, by simp [List.getD, hlt]; try rfl⟩
          have HLT := Lib.hid hlt
          have HCD := Lib.hid (cds.spec_code (m : Int) (R k) cs wi hrow)
          have HGD := Lib.hid hgd
          by_cases hok : okCode (m : Int) cs
          · have HOK : Hid (∀ j (h : j < css.length), j < k + 1 → okCode (m : Int) css[j]) := Lib.hid (fun j hj hjk => by
              by_cases e : j = k
              · subst e; rw [hcs]; exact hok
              · exact hO.out j hj (by omega))
            rw [codeB_yes hok] at HCD
            have HSC := Lib.hid (cdt.spec_scores m (R k) cs wi hrow (ok_len8 hok) (by omega))
            have HS := Lib.hid (fun i => sc_bound (ok_len8 hok) i)
            have SB := Lib.hid (fun i => ss_bound (n := (m : Int)) (css := css) i k (by omega) hO.out)
            have hk1 : (k : Int) ≤ 1000 := by omega
            obtain ⟨ra, rn, rc, hRk⟩ := hrow.shape
            rw [hRk] at g0 HCD HSC
            clear hok hrow hgd hcs hRk hlt
            go_wp2_with fail
            refine HCD.out.mono ?_
            rintro e w' ⟨rfl, rfl⟩
            go_wp2_with fail
            refine HSC.out.mono ?_
            rintro e w2 ⟨u, rfl, hu, hb⟩
            have B2 := Lib.hid (below_tr hB.out hb)
            have R2 := Lib.hid (row_below hR.out hb)
            obtain ⟨A', b', o', cap', rfl, _, _, hA', hc'⟩ := hu.ints.form
            rw [len_scs] at hA' ⊢
            have HC2 : Hid (∀ q, q < m → w2.cell? ⟨b', o' + q, none⟩ = some (.int .i64 (sc cs q)) ∧ w.heap.size < b') := Lib.hid (fun q hq => by
              have h1 := hc' q (by rw [len_scs]; exact hq)
              rw [scs_at] at h1
              refine ⟨h1, ?_⟩
              have h2 := hu.ge ⟨b', o' + q, none⟩ ⟨b', o', m, cap', by rw [hA' (by omega), len_scs], rfl, rfl, by simp, by simp; omega⟩
              have h3 := hR.out.lt
              simp at h2
              omega)
            have R3 : Hid (w2.rowIs w.heap.size 3 m (fun j => .int .i64 (F css cs k 0 j))) := Lib.hid (R2.out.congr (fun j _ => by rw [F_zero]))
            obtain rfl := hA' (by omega)
            clear hb HCD HSC hu hc' R2 hA' g0 hB hR hO
            go_wp2_with fail
            go_loopw [9] (fun z wr => ∃ q : Nat, q ≤ m ∧ z = .int .i64 q ∧ Hid (Below w.heap.size w wr) ∧ Hid (wr.rowIs w.heap.size 3 m (fun j => .int .i64 (F css cs k q j))) ∧ Hid (∀ a x, a.block ≠ w.heap.size → w2.cell? a = some x → wr.cell? a = some x)) (fun z _ => m - (intOf z).toNat)
            case atStart => exact ⟨0, Nat.zero_le _, rfl, B2, R3, fun a x _ h => h⟩
            case round =>
            clear B2 R3
            obtain ⟨q, hq, rfl, hB, hR, hK⟩ := hrel
            obtain ⟨wj, rfl⟩ : ∃ wj : World, wj = wr := ⟨_, rfl⟩
            by_cases hlq : q < m
            · have hqz : (q : Int) < (m : Int) := by omega
              have g0 := hK.out _ _ (by have := (HC2.out q hlq).2; simp; omega) (HC2.out q hlq).1
              have hs := HS.out q
              have hb := SB.out q
              have g2 := hR.out.cell hlq
              rw [F_here] at g2
              have g3 := hR.out.frozen q
              have HST := Lib.hid (fun j => F_step css cs k q j)
              generalize ss css q k = a at g2 hb HST
              generalize sc cs q = b at g0 hs HST
              have kw : wrap64 (a + b) = a + b := IntWalk.wrap64_in _ (by omega)
              have kw2 : IntKind.i64.wrap (a + b) = a + b := IntWalk.i64_in _ (by omega)
              have HRR := Lib.hid (hR.out.set q (.int .i64 (a + b)))
              go_wp2_with fail
              go_region
              go_wp2_with fail
              go_roundw
              case rel => exact ⟨q + 1, by omega, by go_num, Below.setCell (below_dr hB.out) (Nat.le_refl _) _, Lib.hid (HRR.out.congr (fun j hj => by rw [HST.out]; split <;> rfl)), fun a x ha h => (World.cell?_setCell_other _ _ _ _ (fun e => ha (by rw [← e]))).trans (hK.out a x ha h)⟩
              case measure => simp [intOf]; omega
            · have hqz : ¬ (q : Int) < (m : Int) := by omega
              obtain rfl : q = m := by omega
              go_wp2_with fail
              go_roundw
              case rel => exact ⟨k + 1, by have := HLT.out; omega, by go_num, ⟨_, rfl⟩, ⟨_, rfl⟩, hB, Lib.hid (hR.out.congr (fun j hj => by rw [F_all HGD.out hj])), HOK⟩
              case measure => have := HLT.out; simp [intOf]; omega
          · rw [codeB_no hok] at HCD
            have HR : Hid (res (m : Int) css = ([], false)) := Lib.hid (res_no (fun h => hok (hcs ▸ h.2.2 k hlt)))
            obtain ⟨ra, rn, rc, hRk⟩ := hrow.shape
            rw [hRk] at g0 HCD
            clear hok hrow hgd hcs hRk
            go_wp2_with fail
            refine HCD.out.mono ?_
            rintro e w' ⟨rfl, rfl⟩
            go_wp2_with fail
            go_ret2
            rw [HR.out]
            exact ⟨_, rfl, app.empty _ _ _ (Nat.zero_le _), below_al hB.out _⟩
        · have hkz : ¬ (k : Int) < (css.length : Int) := by omega
          obtain rfl : k = css.length := by omega
          have HR : Hid (res (m : Int) css = (sums css m, true)) := Lib.hid (by rw [res_yes ⟨HN.out, HL.out, fun j hj => hO.out j hj hj⟩, Int.toNat_natCast])
          have OW := Lib.hid (row_own (B := w.heap.size) hR.out (Nat.le_refl _) (by unfold maxLen; omega)).ints
          go_wp2_with fail
          go_ret2
          rw [HR.out]
          exact ⟨_, rfl, OW.out, hB.out⟩
    · have HR : Hid (res (m : Int) css = ([], false)) := Lib.hid (res_no (fun h => hl h.2.1))
      have lb : (css.length : Int) < 1 ∨ 1000 < (css.length : Int) := by omega
      clear hc hA hl hn
      go_enter Try.func41, Try.ntmps41
      go_wp2_with fail
      refine (val.in_yes _ _ _ _ HN.out.1 HN.out.2).mono ?_
      rintro e w' ⟨rfl, rfl⟩
      go_wp2_with fail
      refine (val.in_no _ _ _ _ lb).mono ?_
      rintro e w' ⟨rfl, rfl⟩
      clear lb
      go_wp2_with fail
      go_ret2
      rw [HR.out]
      exact ⟨_, rfl, app.empty _ _ _ (Nat.zero_le _), below_al (Below.refl _ _) _⟩
  · have HR : Hid (res n css = ([], false)) := Lib.hid (res_no (fun h => hn h.1))
    have hb : n < 1 ∨ 3 < n := by omega
    clear hc hA hn
    go_enter Try.func41, Try.ntmps41
    go_wp2_with fail
    refine (val.in_no _ _ _ _ hb).mono ?_
    rintro e w' ⟨rfl, rfl⟩
    clear hb
    go_wp2_with fail
    go_ret2
    rw [HR.out]
    exact ⟨_, rfl, app.empty _ _ _ (Nat.zero_le _), below_al (Below.refl _ _) _⟩


set_option maxRecDepth 100000 in
set_option maxHeartbeats 8000000 in
theorem impl_any (n : Int) (v : Value) (css : List (List Int)) (w : World) (h : IRows w v css) :
    Calls Try.prog 43 #[.int .i64 n, v] w fun e w' => ∃ u, e = .returned (.tuple #[u, .bool (res n css).2]) ∧ OwnInts w' w.heap.size w'.heap.size u (res n css).1 ∧ Below w.heap.size w w' := by
  obtain ⟨A, b, o, cap, R, rfl, hcap, hmax, hA, hc⟩ := h.form
  clear h
  have hml : (css.length : Int) ≤ 9223372036854775807 := by unfold maxLen at hmax; omega
  clear hmax hcap
  by_cases hn : 1 ≤ n ∧ n ≤ 3
  · have HN := Lib.hid hn
    obtain ⟨m, rfl⟩ : ∃ m : Nat, n = m := ⟨n.toNat, by omega⟩
    have hm3 : (m : Int) ≤ 3 := hn.2
    have hm1 : (1 : Int) ≤ (m : Int) := hn.1
    by_cases hl : 1 ≤ css.length ∧ css.length ≤ 1000
    · have l1 : ¬ (css.length : Int) < 1 := by omega
      have l2 : decide ((css.length : Int) > 1000) = false := by simp; omega
      have l3 : ¬ (1000 : Int) < (css.length : Int) := by omega
      have l4 : (css.length : Int) ≤ 1000 := by omega
      have HL := Lib.hid hl
      obtain rfl := hA (by omega)
      have hmk := run_make_row' (P := Try.prog) 22 3 (.int .i64 0) 8 Try.underlying22 infoInt rfl .i64 .i64 m (by omega) (by omega)
      have HC := Lib.hid hc
      have B0 := Lib.hid (below_al (Below.refl w.heap.size w) (.cells (madeCells #[.int .i64 0] m) 3))
      have R0 : Hid ((w.alloc (.cells (madeCells #[.int .i64 0] m) 3)).rowIs w.heap.size 3 m (fun j => .int .i64 (ss css j 0))) := Lib.hid ((World.rowIs_made w _ _ _).congr (fun j _ => by simp [ss]))
      clear hc hA hl hn
      go_enter Try.func43, Try.ntmps43
      go_wp2_with fail
      refine (cdi.count_yes _ _ HN.out).mono ?_
      rintro e w' ⟨rfl, rfl⟩
      go_wp2_with fail
      clear hmk
      go_loopw [8, 9, 10, 11, 12, 30] (fun z8 z9 z10 z11 z12 q wr => ∃ k : Nat, k ≤ css.length ∧ q = .int .i64 k ∧ (∃ z, z8 = z) ∧ (∃ z, z9 = z) ∧ (∃ z, z10 = z) ∧ (∃ z, z11 = z) ∧ (∃ z, z12 = z) ∧ Hid (Below w.heap.size w wr) ∧ Hid (wr.rowIs w.heap.size 3 m (fun j => .int .i64 (ss css j k))) ∧ Hid (∀ j (h : j < css.length), j < k → okCode (m : Int) css[j])) (fun _ _ _ _ _ q _ => css.length - (intOf q).toNat)
      case atStart => exact ⟨0, Nat.zero_le _, rfl, ⟨_, rfl⟩, ⟨_, rfl⟩, ⟨_, rfl⟩, ⟨_, rfl⟩, ⟨_, rfl⟩, B0, R0, fun j _ hj => by omega⟩
      case round =>
        clear B0 R0
        obtain ⟨k, hk, rfl, ⟨z8, rfl⟩, ⟨z9, rfl⟩, ⟨z10, rfl⟩, ⟨z11, rfl⟩, ⟨z12, rfl⟩, hB, hR, hO⟩ := hrel
        obtain ⟨wi, rfl⟩ : ∃ wi : World, wi = wr := ⟨_, rfl⟩
        by_cases hlt : k < css.length
        · have hkz : (k : Int) < (css.length : Int) := by omega
          obtain ⟨cs, hcs, g0, hrow, hgd⟩ : ∃ cs, css[k] = cs ∧ wi.cell? ⟨b, o + k, none⟩ = some (R k) ∧ Ints wi (R k) cs ∧ css.getD k [] = cs := ⟨_, rfl, below_cell hB.out _ _ (HC.out k hlt).1, (HC.out k hlt).2.below hB.out, by simp [List.getD, hlt]; try rfl⟩
          have HLT := Lib.hid hlt
          have HCD := Lib.hid (cdv.impl_any (m : Int) (R k) cs wi hrow)
          have HGD := Lib.hid hgd
          by_cases hok : okCode (m : Int) cs
          · have HOK : Hid (∀ j (h : j < css.length), j < k + 1 → okCode (m : Int) css[j]) := Lib.hid (fun j hj hjk => by
              by_cases e : j = k
              · subst e; rw [hcs]; exact hok
              · exact hO.out j hj (by omega))
            rw [resS_yes hok, Int.toNat_natCast] at HCD
            have HS := Lib.hid (fun i => sc_bound (ok_len8 hok) i)
            have SB := Lib.hid (fun i => ss_bound (n := (m : Int)) (css := css) i k (by omega) hO.out)
            have hk1 : (k : Int) ≤ 1000 := by omega
            obtain ⟨ra, rn, rc, hRk⟩ := hrow.shape
            rw [hRk] at g0 HCD
            clear hok hrow hgd hcs hRk hlt
            go_wp2_with fail
            refine HCD.out.mono ?_
            rintro e w2 ⟨u, rfl, hu, hb⟩
            have B2 := Lib.hid (below_tr hB.out hb)
            have R2 := Lib.hid (row_below hR.out hb)
            obtain ⟨A', b', o', cap', rfl, _, _, hA', hc'⟩ := hu.ints.form
            dsimp only at hA' hc' ⊢
            rw [len_scs] at hA' ⊢
            have HC2 : Hid (∀ q, q < m → w2.cell? ⟨b', o' + q, none⟩ = some (.int .i64 (sc cs q)) ∧ w.heap.size < b') := Lib.hid (fun q hq => by
              have h1 := hc' q (by rw [len_scs]; exact hq)
              rw [scs_at] at h1
              refine ⟨h1, ?_⟩
              have h2 := hu.ge ⟨b', o' + q, none⟩ ⟨b', o', m, cap', by rw [hA' (by omega), len_scs], rfl, rfl, by simp, by simp; omega⟩
              have h3 := hR.out.lt
              simp at h2
              omega)
            have R3 : Hid (w2.rowIs w.heap.size 3 m (fun j => .int .i64 (F css cs k 0 j))) := Lib.hid (R2.out.congr (fun j _ => by rw [F_zero]))
            obtain rfl := hA' (by omega)
            clear hb HCD hu hc' R2 hA' g0 hB hR hO
            go_wp2_with fail
            go_loopw [11, 12, 44] (fun z11 z12 z wr => ∃ q : Nat, q ≤ m ∧ z = .int .i64 q ∧ (∃ z, z11 = z) ∧ (∃ z, z12 = z) ∧ Hid (Below w.heap.size w wr) ∧ Hid (wr.rowIs w.heap.size 3 m (fun j => .int .i64 (F css cs k q j))) ∧ Hid (∀ a x, a.block ≠ w.heap.size → w2.cell? a = some x → wr.cell? a = some x)) (fun _ _ z _ => m - (intOf z).toNat)
            case atStart => exact ⟨0, Nat.zero_le _, rfl, ⟨_, rfl⟩, ⟨_, rfl⟩, B2, R3, fun a x _ h => h⟩
            case round =>
            clear B2 R3
            obtain ⟨q, hq, rfl, ⟨z11, rfl⟩, ⟨z12, rfl⟩, hB, hR, hK⟩ := hrel
            obtain ⟨wj, rfl⟩ : ∃ wj : World, wj = wr := ⟨_, rfl⟩
            by_cases hlq : q < m
            · have hqz : (q : Int) < (m : Int) := by omega
              have g0 := hK.out _ _ (by have := (HC2.out q hlq).2; simp; omega) (HC2.out q hlq).1
              have hs := HS.out q
              have hb := SB.out q
              have g2 := hR.out.cell hlq
              rw [F_here] at g2
              have g3 := hR.out.frozen q
              have HST := Lib.hid (fun j => F_step css cs k q j)
              generalize ss css q k = a at g2 hb HST
              generalize sc cs q = b at g0 hs HST
              have kw : wrap64 (a + b) = a + b := IntWalk.wrap64_in _ (by omega)
              have kw2 : IntKind.i64.wrap (a + b) = a + b := IntWalk.i64_in _ (by omega)
              have HRR := Lib.hid (hR.out.set q (.int .i64 (a + b)))
              go_wp2_with fail
              go_roundw
              case rel => exact ⟨q + 1, by omega, by go_num, ⟨_, rfl⟩, ⟨_, rfl⟩, Below.setCell hB.out (Nat.le_refl _) _, Lib.hid (HRR.out.congr (fun j hj => by rw [HST.out]; split <;> rfl)), fun a x ha h => (World.cell?_setCell_other _ _ _ _ (fun e => ha (by rw [← e]))).trans (hK.out a x ha h)⟩
              case measure => simp [intOf]; omega
            · have hqz : ¬ (q : Int) < (m : Int) := by omega
              obtain rfl : q = m := by omega
              go_wp2_with fail
              go_roundw
              case rel => exact ⟨k + 1, by have := HLT.out; omega, by go_num, ⟨_, rfl⟩, ⟨_, rfl⟩, ⟨_, rfl⟩, ⟨_, rfl⟩, ⟨_, rfl⟩, hB, Lib.hid (hR.out.congr (fun j hj => by rw [F_all HGD.out hj])), HOK⟩
              case measure => have := HLT.out; simp [intOf]; omega
          · rw [resS_no hok] at HCD
            have HR : Hid (res (m : Int) css = ([], false)) := Lib.hid (res_no (fun h => hok (hcs ▸ h.2.2 k hlt)))
            obtain ⟨ra, rn, rc, hRk⟩ := hrow.shape
            rw [hRk] at g0 HCD
            clear hok hrow hgd hcs hRk
            go_wp2_with fail
            refine HCD.out.mono ?_
            rintro e w2 ⟨u, rfl, hu, hb⟩
            have HB := Lib.hid (below_tr hB.out hb)
            obtain ⟨ua, un, uc, rfl⟩ := hu.ints.shape
            clear hu hb
            go_wp2_with fail
            go_ret2
            rw [HR.out]
            exact ⟨_, rfl, OwnInts.nil _ _ _, HB.out⟩
        · have hkz : ¬ (k : Int) < (css.length : Int) := by omega
          obtain rfl : k = css.length := by omega
          have HR : Hid (res (m : Int) css = (sums css m, true)) := Lib.hid (by rw [res_yes ⟨HN.out, HL.out, fun j hj => hO.out j hj hj⟩, Int.toNat_natCast])
          have OW := Lib.hid (row_own (B := w.heap.size) hR.out (Nat.le_refl _) (by unfold maxLen; omega))
          go_wp2_with fail
          go_ret2
          rw [HR.out]
          exact ⟨_, rfl, OW.out, hB.out⟩
    · have HR : Hid (res (m : Int) css = ([], false)) := Lib.hid (res_no (fun h => hl h.2.1))
      by_cases l0 : (css.length : Int) < 1
      · clear hc hA hl hn
        go_enter Try.func43, Try.ntmps43
        go_wp2_with fail
        refine (cdi.count_yes _ _ HN.out).mono ?_
        rintro e w' ⟨rfl, rfl⟩
        go_wp2_with fail
        go_ret2
        rw [HR.out]
        exact ⟨_, rfl, OwnInts.nil _ _ _, Below.refl _ _⟩
      · have l2 : decide ((css.length : Int) > 1000) = true := by simp; omega
        have l3 : (1000 : Int) < (css.length : Int) := by omega
        clear hc hA hl hn
        go_enter Try.func43, Try.ntmps43
        go_wp2_with fail
        refine (cdi.count_yes _ _ HN.out).mono ?_
        rintro e w' ⟨rfl, rfl⟩
        go_wp2_with fail
        go_ret2
        rw [HR.out]
        exact ⟨_, rfl, OwnInts.nil _ _ _, Below.refl _ _⟩
  · have HR : Hid (res n css = ([], false)) := Lib.hid (res_no (fun h => hn h.1))
    have HNN := Lib.hid hn
    clear hc hA hn
    go_enter Try.func43, Try.ntmps43
    go_wp2_with fail
    refine (cdi.count_no _ _ HNN.out).mono ?_
    rintro e w' ⟨rfl, rfl⟩
    go_wp2_with fail
    go_ret2
    rw [HR.out]
    exact ⟨_, rfl, OwnInts.nil _ _ _, Below.refl _ _⟩

end Go.Proofs.Ytnjaocgciokpaaa.shs
