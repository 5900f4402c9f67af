/- The length of a spread: what it is; the model's l5Length. -/
import Derived.Test.YtfkdhdiacelcjaaSpd
import Derived.Test.YtfkdhdiacelcjaaCat
import Derived.Deep.RegionWith
namespace Go.Proofs.Ytfkdhdiacelcjaa.spr
open Go.RowKit Go.Deep Go.Proofs.Ytfkdhdiacelcjaa.base
open Go.Proofs.Ytfkdhdiacelcjaa.ints (ret_int infoInts)
open Go.Proofs.Ytfkdhdiacelcjaa.play (within withinB withinB_yes withinB_no)
open Go.Proofs.Ytfkdhdiacelcjaa.sgn (wide okSign signB signB_yes signB_no)
open Go.Proofs.Ytfkdhdiacelcjaa.spd (dot)
open Go.Proofs.Ytfkdhdiacelcjaa.rws (total)

def first (rss : List (List Int)) : List Int := rss.getD 0 []
def okS (mss rss pss : List (List Int)) : Prop :=
  rss.length = mss.length ∧ pss.length = wide mss ∧ (1 ≤ wide rss ∧ wide rss ≤ 4) ∧ ∀ i (h : i < (rss ++ pss).length), within (wide rss) (-9) 9 (rss ++ pss)[i] ∧ dot (rss ++ pss)[i] (rss ++ pss)[i] = dot (first rss) (first rss)
open Classical in
noncomputable def lenS (mss rss pss : List (List Int)) : Int := if okS mss rss pss then dot (first rss) (first rss) else 0
theorem len_yes {mss rss pss : List (List Int)} (h : okS mss rss pss) : lenS mss rss pss = dot (first rss) (first rss) := if_pos h
theorem len_no {mss rss pss : List (List Int)} (h : ¬ okS mss rss pss) : lenS mss rss pss = 0 := if_neg h
theorem first_at {rss : List (List Int)} (h : 0 < rss.length) : first rss = rss[0] := by unfold first; simp [List.getD, h]
theorem app0 {rss pss : List (List Int)} (h : 0 < rss.length) (h' : 0 < (rss ++ pss).length) : (rss ++ pss)[0] = first rss := by rw [first_at h, List.getElem_append_left h]


set_option maxRecDepth 100000 in
set_option maxHeartbeats 4000000 in
theorem spec_len (vm vr vp : Value) (mss rss pss : List (List Int)) (w : World) (hm : IRows w vm mss) (h : IRows w vr rss) (h' : IRows w vp pss) (hok : okSign mss) :
    Calls Try.prog 91 #[vm, vr, vp] w fun e w' => e = .returned (.int .i64 (lenS mss rss pss)) ∧ Below w.heap.size w w' := by
  obtain ⟨s0, si, sz0, sz1, sz2⟩ := info_parts infoInts
  obtain ⟨d, q, cap, rfl, ⟨m0, m1, mc⟩, _⟩ := sgn.cell0 hok hm
  have hX := sgn.len3 hok
  have hY := sgn.wide3 hok
  have hp := sgn.pos hok
  have hkz : (0 : Int) < (mss.length : Int) := by omega
  clear hm
  by_cases h1 : rss.length = mss.length
  · have d1 : ((rss.length : Int) != (mss.length : Int)) = false := by simp [h1]
    by_cases h2 : pss.length = wide mss
    · have d2 : ((pss.length : Int) != ((wide mss : Nat) : Int)) = false := by simp [h2]
      have hrp : 0 < rss.length := by omega
      obtain ⟨b, o, rc, rvals, rfl, hrl, hrc, hro, hri⟩ := cat.parts h hrp
      obtain ⟨b', o', pc, pvals, rfl, hpl, hpc, hpo, hpi⟩ := cat.parts h' (by omega)
      obtain ⟨u0, hu0, hi0⟩ := hri 0 hrp
      obtain ⟨a0, c0, rfl⟩ := sgn.ints_slice hi0
      have gr := hrc 0 _ hu0
      rw [row.opn_add, Nat.add_zero] at gr
      have hwr : wide rss = rss[0].length := sgn.wide_eq hrp
      rw [← hwr] at gr
      rw [← hwr, ← first_at hrp] at hi0
      have hkr : (0 : Int) < (rss.length : Int) := by omega
      have HJ := Lib.hid (cat.joined hrl hri hpi)
      have HI0 := Lib.hid hi0
      clear h h' hri hpi hu0 hwr hi0
      by_cases h3 : 1 ≤ wide rss ∧ wide rss ≤ 4
      · have i1 : (1 : Int) ≤ ((wide rss : Nat) : Int) := by omega
        have i2 : ((wide rss : Nat) : Int) ≤ 4 := by omega
        have HOK : Hid (okS mss rss pss ↔ ∀ i (h : i < (rss ++ pss).length), within (wide rss) (-9) 9 (rss ++ pss)[i] ∧ dot (rss ++ pss)[i] (rss ++ pss)[i] = dot (first rss) (first rss)) := Lib.hid ⟨fun h => h.2.2.2, fun h => ⟨h1, h2, h3, h⟩⟩
        have HA0 := Lib.hid (app0 (pss := pss) hrp)
        have hall : (rss ++ pss).length ≤ 6 := by rw [List.length_append]; omega
        have hallp : 0 < (rss ++ pss).length := by rw [List.length_append]; omega
        have hjl : (rvals ++ pvals).length = (rss ++ pss).length := by rw [List.length_append, List.length_append]; omega
        have HJL := Lib.hid hjl
        have C0 : Hid (cat.Cat w (w.alloc (.cells #[] 22)) w.heap.size (.slice (some ⟨w.heap.size, 0, none⟩) 0 0) []) := Lib.hid ⟨below_al (Below.refl _ _) _, Nat.le_refl _, by simp, by
          have := World.ownsRow_made (base := w.heap.size) (e := 22) (size := 1) w #[] 0 (Nat.le_refl _) (Nat.zero_le _) rfl
          simpa using this⟩
        have hrl3 : rvals.length ≤ 3 := by omega
        have hpl3 : pvals.length ≤ 3 := by omega
        have HRC := Lib.hid (fun (W : World) (hb : Below w.heap.size w W) => fun (j : Nat) (u : Value) (hu : rvals[j]? = some u) => below_cell hb _ _ (hrc j u hu))
        have HPC := Lib.hid (fun (W : World) (hb : Below w.heap.size w W) => fun (j : Nat) (u : Value) (hu : pvals[j]? = some u) => below_cell hb _ _ (hpc j u hu))
        have HRO := Lib.hid hro
        have HPO := Lib.hid hpo
        clear hrc hpc hro hpo h1 h2 h3 hjl
        go_enter Try.func91, Try.ntmps91
        go_wp2_with fail
        refine (val.in_yes _ _ _ _ i1 i2).mono ?_
        rintro e w' ⟨rfl, rfl⟩
        go_wp2_with (at_builtin; go_must (refine wpList_append_own _ rfl (.tmp 31) (.tmp 32) 23 rfl w.heap.size 22 s0 (.slice none 0 0) 1 24 Try.underlying23 si sz0 sz1 sz2 rfl (by decide) _ _ _ rfl C0.out.owns ⟨b, o, none⟩ rss.length rc rvals rfl ?dn ?d1 ?d2 ?d3 ?d4 ?d5 ?_))
        case dn => simp [hrl]
        case d1 => exact HRC.out _ (below_al (Below.refl _ _) _)
        case d2 => exact HRO.out
        case d3 => simp; unfold maxLen; omega
        case d4 => simp; omega
        case d5 => simp
        intro v1 w1 hown1 hgrow1 _
        have C1 : Hid (cat.Cat w w1 w.heap.size v1 rvals) := Lib.hid (by have := C0.out.grow hrl (by simpa using hown1) hgrow1; simpa using this)
        obtain ⟨xa, xl, xc, rfl⟩ := make.shape hown1
        clear hown1 hgrow1 C0
        go_wp2_with (at_builtin; go_must (refine wpList_append_own _ rfl (.tmp 33) (.tmp 34) 23 rfl w.heap.size 22 s0 (.slice none 0 0) 1 24 Try.underlying23 si sz0 sz1 sz2 rfl (by decide) _ _ _ rfl C1.out.owns ⟨b', o', none⟩ pss.length pc pvals rfl ?dn ?d1 ?d2 ?d3 ?d4 ?d5 ?_))
        case dn => simp [hpl]
        case d1 => exact HPC.out _ C1.out.below
        case d2 => exact HPO.out
        case d3 => unfold maxLen; omega
        case d4 => omega
        case d5 => exact C1.out.below.size
        intro v2 w2 hown2 hgrow2 _
        have C2 := C1.out.grow hpl (by rw [hrl]; exact hown2) hgrow2
        have HR2 := C2.rows HJL.out HJ.out
        obtain ⟨A3, b3, o3, c3, R, hv3, _, _, hA3, hc3⟩ := HR2.form
        obtain rfl := hA3 hallp
        obtain ⟨N, hN⟩ : ∃ N, (rss ++ pss).length = N := ⟨_, rfl⟩
        rw [hN] at hv3
        subst hv3
        have B2 := Lib.hid C2.below
        have I2 := Lib.hid (HI0.out.below C2.below)
        have gr2 := below_cell C2.below _ _ gr
        clear hown2 hgrow2 C1 C2 HR2 hA3 HRC HPC HRO HPO gr HJ HI0 HJL mc
        have hNp : 0 < N := by omega
        have hN6 : N ≤ 6 := by omega
        go_wp2_with fail
        go_loopw [6, 8] (fun q' i wr => ∃ k : Nat, k ≤ N ∧ i = .int .i64 k ∧ q' = .int .i64 0 ∧ Hid (∀ j (h : j < (rss ++ pss).length), j < k → within (wide rss) (-9) 9 (rss ++ pss)[j] ∧ dot (rss ++ pss)[j] (rss ++ pss)[j] = dot (first rss) (first rss)) ∧ ∃ n, wr = w2.drewN n) (fun _ i _ => N - (intOf i).toNat)
        case atStart => exact ⟨0, Nat.zero_le _, rfl, rfl, fun j _ hj => by omega, 0, rfl⟩
        case round =>
          obtain ⟨k, hk, rfl, rfl, hH, n, rfl⟩ := hrel
          by_cases hlt : k < N
          · have hkz' : (k : Int) < (N : Int) := by omega
            have hlt' : k < (rss ++ pss).length := by omega
            obtain ⟨g0, g1⟩ := hc3 k (by omega)
            have HG1 := Lib.hid g1
            have HCC := Lib.hid hc3
            have HLT := Lib.hid hlt'
            have HF := Lib.hid (fun (W : World) (hW : ∀ a u, w2.cell? a = some u → W.cell? a = some u) => sgn.spec_row (R k) (rss ++ pss)[k] (wide rss) 9 W (g1.keep hW) (by omega) (by omega))
            clear hc3 g1
            by_cases hw : within (wide rss) (-9) 9 (rss ++ pss)[k]
            · have hw0 : within (wide rss) (-9) 9 (first rss) := by
                rcases Nat.eq_zero_or_pos k with e | e
                · subst e; rw [← HA0.out hlt']; exact hw
                · have := (hH.out 0 (by omega) e).1; rw [HA0.out (by omega)] at this; exact this
              have HD1 := Lib.hid (fun (W : World) (hW : ∀ a u, w2.cell? a = some u → W.cell? a = some u) => spd.spec_dot (R k) (R k) (rss ++ pss)[k] (rss ++ pss)[k] (wide rss) W (HG1.out.keep hW) (HG1.out.keep hW) hw hw (by omega))
              have HD2 := Lib.hid (fun (W : World) (hW : ∀ a u, w2.cell? a = some u → W.cell? a = some u) => spd.spec_dot _ _ (first rss) (first rss) (wide rss) W (I2.out.keep hW) (I2.out.keep hW) hw0 hw0 (by omega))
              have HWI := Lib.hid hw
              rw [withinB_yes hw] at HF
              by_cases hd : dot (rss ++ pss)[k] (rss ++ pss)[k] = dot (first rss) (first rss)
              · have HDD := Lib.hid hd
                have dd : (dot (rss ++ pss)[k] (rss ++ pss)[k] != dot (first rss) (first rss)) = false := by simp [hd]
                clear hw hd hw0
                go_wp2_with fail
                go_quiet (first | (go_at_call 112; go_must (exact ints.quiet_at_same (HF.out _ (fun a u h => by simpa using h)))) | (go_at_call_of 93 (R k); go_must (exact ints.quiet_at (HD1.out _ (fun a u h => by simpa using h)))) | (go_at_call 93; go_must (exact ints.quiet_at (HD2.out _ (fun a u h => by simpa using h)))))
                go_wp2_with fail
                go_roundw
                case rel =>
                  refine ⟨k + 1, by omega, by go_num, rfl, fun j hj hj' => ?_, by first | exact ⟨_, rfl⟩ | exact ⟨_, World.drewN_drewN _ _ _⟩⟩
                  by_cases e : j = k
                  · subst e; exact ⟨HWI.out, HDD.out⟩
                  · exact hH.out j hj (by omega)
                case measure => simp [intOf]; omega
              · have HE : Hid (0 = lenS mss rss pss) := Lib.hid (len_no (fun h => hd (HOK.out.1 h k hlt').2)).symm
                have dd : (dot (rss ++ pss)[k] (rss ++ pss)[k] != dot (first rss) (first rss)) = true := by simp [hd]
                clear hw hd hw0
                go_wp2_with fail
                go_quiet (first | (go_at_call 112; go_must (exact ints.quiet_at_same (HF.out _ (fun a u h => by simpa using h)))) | (go_at_call_of 93 (R k); go_must (exact ints.quiet_at (HD1.out _ (fun a u h => by simpa using h)))) | (go_at_call 93; go_must (exact ints.quiet_at (HD2.out _ (fun a u h => by simpa using h)))))
                go_wp2_with fail
                go_ret
                exact ⟨ret_int HE.out, below_drewN (below_drewN B2.out _) _⟩
            · have HE : Hid (0 = lenS mss rss pss) := Lib.hid (len_no (fun h => hw (HOK.out.1 h k hlt').1)).symm
              rw [withinB_no hw] at HF
              clear hw
              go_wp2_with fail
              go_quiet ((go_at_call 112; go_must (exact ints.quiet_at_same (HF.out _ (fun a u h => by simpa using h)))))
              go_wp2_with fail
              go_ret
              exact ⟨ret_int HE.out, below_drewN (below_drewN B2.out _) _⟩
          · have hkz' : ¬ (k : Int) < (N : Int) := by omega
            have HE : Hid (dot (first rss) (first rss) = lenS mss rss pss) := Lib.hid (len_yes (HOK.out.2 (fun i hi => hH.out i hi (by omega)))).symm
            have hw0 : within (wide rss) (-9) 9 (first rss) := by
              have := (hH.out 0 (by omega) (by omega)).1; rw [HA0.out (by omega)] at this; exact this
            have HD2 := Lib.hid (fun (W : World) (hW : ∀ a u, w2.cell? a = some u → W.cell? a = some u) => spd.spec_dot _ _ (first rss) (first rss) (wide rss) W (I2.out.keep hW) (I2.out.keep hW) hw0 hw0 (by omega))
            clear hc3 hw0
            go_wp2_with fail
            go_quiet ((go_at_call 93; go_must (exact ints.quiet_at (HD2.out _ (fun a u h => by simpa using h)))))
            go_wp2_with fail
            go_ret
            exact ⟨ret_int HE.out, below_drewN (below_drewN B2.out _) _⟩
      · have HE : Hid (0 = lenS mss rss pss) := Lib.hid (len_no (fun h => h3 h.2.2.1)).symm
        have hbad : ((wide rss : Nat) : Int) < 1 ∨ 4 < ((wide rss : Nat) : Int) := by omega
        clear hrc hpc hro hpo h1 h2 h3 HJ HI0 hrl hpl
        go_enter Try.func91, Try.ntmps91
        go_wp2_with fail
        refine (val.in_no _ _ _ _ hbad).mono ?_
        rintro e w' ⟨rfl, rfl⟩
        go_wp2_with fail
        go_ret
        exact ⟨ret_int HE.out, Below.refl _ _⟩
    · have d2 : ((pss.length : Int) != ((wide mss : Nat) : Int)) = true := by simp; omega
      have HE : Hid (0 = lenS mss rss pss) := Lib.hid (len_no (fun h => h2 h.2.1)).symm
      obtain ⟨A, b, o, rc, R, rfl, _, _, _, _⟩ := h.form
      obtain ⟨A', b', o', pc, R', rfl, _, _, _, _⟩ := h'.form
      clear h h' h1 h2
      go_enter Try.func91, Try.ntmps91
      go_wp2_with fail
      go_ret
      exact ⟨ret_int HE.out, Below.refl _ _⟩
  · have d1 : ((rss.length : Int) != (mss.length : Int)) = true := by simp; omega
    have HE : Hid (0 = lenS mss rss pss) := Lib.hid (len_no (fun h => h1 h.1)).symm
    obtain ⟨A, b, o, rc, R, rfl, _, _, _, _⟩ := h.form
    obtain ⟨A', b', o', pc, R', rfl, _, _, _, _⟩ := h'.form
    clear h h' h1
    go_enter Try.func91, Try.ntmps91
    go_wp2_with fail
    go_ret
    exact ⟨ret_int HE.out, Below.refl _ _⟩


end Go.Proofs.Ytfkdhdiacelcjaa.spr
