/- FindParityProof of the model. -/
import Derived.Test.YtkikdecepdbbnaaFps
import Derived.Test.YtkikdecepdbbnaaFpm
import Derived.Test.YtkikdecepdbbnaaLst
namespace Go.Proofs.Ytkikdecepdbbnaa.fpt
open Go.RowKit Go.Deep Go.Proofs.Ytkikdecepdbbnaa.base
open Go.Proofs.Ytkikdecepdbbnaa.ints (ret_int infoInt)
open Go.Proofs.Ytkikdecepdbbnaa.rws (total len_le_total)
open Go.Proofs.Ytkikdecepdbbnaa.val (ret_b)
open Go.Proofs.Ytkikdecepdbbnaa.scm
open Go.Proofs.Ytkikdecepdbbnaa.fpm

/-- nil just where the list is empty, and a slice of its own otherwise -/
def Fst (bv : Value) (l : List Int) : Prop := (l = [] ∧ bv = .slice none 0 0) ∨ (¬ l = [] ∧ ∃ g c, bv = .slice (some ⟨g, 0, none⟩) l.length c)
theorem bne0 {l : List Int} (h : ¬ l = []) : ((l.length : Int) == 0) = false := by
  cases l with
  | nil => exact absurd rfl h
  | cons a t => simp; omega


set_option maxRecDepth 100000 in
set_option maxHeartbeats 4000000 in
theorem spec_any (x : Int) (u : Value) (xss : List (List Int)) (v : Value) (ws : List Int) (w : World) (h : scene.GV w v ws u xss) (hm : total xss ≤ 1048576) :
    Calls Try.prog 33 #[.agg #[.int .i64 x, u, v]] w fun e w' => ∃ u', e = .returned (.tuple #[u', .bool (findR x xss ws).2]) ∧ Ints w' u' (findR x xss ws).1 ∧ Below w.heap.size w w' := by
  obtain ⟨i0, hi, hz0, hz1, hz2⟩ := info_parts infoInt
  obtain ⟨A, cap, rfl⟩ : ∃ A c, u = .slice A xss.length c := by obtain ⟨A, b, o, cap, R, hu, _⟩ := h.rows.form; exact ⟨A, cap, hu⟩
  obtain ⟨C, cap', rfl⟩ : ∃ A c, v = .slice A ws.length c := by obtain ⟨A, c, hv, _⟩ := h.ints; exact ⟨A, c, by rw [hv, len_i64s]⟩
  have H := Lib.hid h
  obtain ⟨w0, hw0⟩ : ∃ w0, (w.alloc (.cells #[.int .i64 x, .slice A xss.length cap, .slice C ws.length cap'] 28)).alloc (.cells #[] 3) = w0 := ⟨_, rfl⟩
  have K0 : Hid (Blk w0 w.heap.size 28 #[.int .i64 x, .slice A xss.length cap, .slice C ws.length cap']) := Lib.hid (by rw [← hw0]; exact (Blk.new w _ _).alloc _)
  have B0 : Hid (Below w.heap.size w w0) := Lib.hid (by rw [← hw0]; exact below_al (below_al (Below.refl _ _) _) _)
  have HI := Lib.hid (scv.spec_good x _ xss _ ws w0 (h.below B0.out) hm)
  clear h
  by_cases hok : okScene x xss ws
  · have HI := HI
    rw [sceneB_yes hok] at HI
    rw [findR_yes hok]
    have hx10 := hok.len
    obtain ⟨c, hc⟩ : ∃ c : Nat, 2 ^ xss.length = c := ⟨_, rfl⟩
    have h1024 : c ≤ 1024 := by rw [← hc]; exact two_pow hx10
    have hw : wrap64 (2 ^ xss.length) = (c : Int) := by rw [shl_len hx10, hc]
    have hc1 : 1 ≤ c := by rw [← hc]; exact Nat.two_pow_pos _
    have HPR := Lib.hid (fun (W : World) (lv : Value) (d : Nat) (hW : Below w.heap.size w W) (hl : Ints W lv (places xss.length d)) => scp.spec_proof x _ xss _ ws lv (places xss.length d) W (H.out.below hW) hl hok (rising_pass xss.length))
    have HLB := Lib.hid (len_best xss ws)
    have HLP := Lib.hid (fun d => len_pass (bitf d) xss.length)
    rw [hc]
    clear hok hc
    obtain ⟨c0, c1, c2, c3⟩ := scene.three_cells K0.out
    go_enter Try.func33, Try.ntmps33
    go_wp2_with fail
    refine HI.out.mono ?_
    rintro e w1 ⟨rfl, hb1⟩
    have B1 := Lib.hid (below_tr B0.out hb1)
    have K1 := Lib.hid (K0.out.below hb1)
    clear c0 c1 c2 c3 hb1 K0 B0
    obtain ⟨c0, c1, c2, c3⟩ := scene.three_cells K1.out
    have O1 : Hid (Ints w1 (.slice (some ⟨w.heap.size + 1, 0, none⟩) 0 0) (best xss ws 1) ∧ ∃ a cc, (Value.slice (some ⟨w.heap.size + 1, 0, none⟩) 0 0) = .slice a (best xss ws 1).length cc) := Lib.hid (by rw [best_one]; exact ⟨app.empty _ _ _ (Nat.zero_le _), _, _, rfl⟩)
    have HW := Lib.hid hw
    clear hw
    go_wp2_with fail
    clear c0 c1 c2 c3
    go_loopw [4, 5, 6, 7] (fun bv i z6 z7 wr => ∃ k : Nat, 1 ≤ k ∧ k ≤ c ∧ i = .int .i64 k ∧ (∃ z, z6 = z) ∧ (∃ z, z7 = z) ∧ Hid (Ints wr bv (best xss ws k) ∧ ∃ a cc, bv = .slice a (best xss ws k).length cc) ∧ Hid (Below w.heap.size w wr) ∧ Hid (Blk wr w.heap.size 28 #[.int .i64 x, .slice A xss.length cap, .slice C ws.length cap'])) (fun _ i _ _ _ => c - (intOf i).toNat)
    case atStart => exact ⟨1, Nat.le_refl _, hc1, rfl, ⟨_, rfl⟩, ⟨_, rfl⟩, O1, B1, K1⟩
    case round =>
      obtain ⟨k, hk1, hk, rfl, ⟨y6, rfl⟩, ⟨y7, rfl⟩, hO, hB, hK⟩ := hrel
      clear O1 B1 K1
      obtain ⟨wo, rfl⟩ : ∃ wo : World, wo = wr := ⟨_, rfl⟩
      obtain ⟨ba, bc, rfl⟩ := hO.out.2
      obtain ⟨c0, c1, c2, c3⟩ := scene.three_cells hK.out
      have hw := HW.out
      by_cases hlt : k < c
      · have hkz : (k : Int) < (c : Int) := by omega
        have Q1 : Hid ((wo.alloc (.cells #[] 3)).ownsRow wo.heap.size 3 1 (.slice (some ⟨wo.heap.size, 0, none⟩) 0 0) 0 (i64s (pass (bitf k) 0))) := Lib.hid (by
          have := World.ownsRow_made (base := wo.heap.size) (e := 3) (size := 1) wo #[] 0 (Nat.le_refl _) (Nat.zero_le _) rfl
          simpa [i64s, pass] using this)
        have P1 := Lib.hid (below_al (Below.refl wo.heap.size wo) (.cells #[] 3))
        go_wp2_with fail
        clear c0 c1 c2 c3 hw
        go_loopw [6, 7] (fun out j wi => ∃ t : Nat, t ≤ xss.length ∧ j = .int .i64 t ∧ ∃ m, Hid (wi.ownsRow wo.heap.size 3 1 out m (i64s (pass (bitf k) t))) ∧ Hid (Below wo.heap.size wo wi)) (fun _ j _ => xss.length - (intOf j).toNat)
        case atStart => exact ⟨0, Nat.zero_le _, rfl, _, Q1, P1⟩
        case round =>
          clear Q1 P1
          obtain ⟨t, ht, rfl, m, hQ, hP⟩ := hrel
          obtain ⟨wi, rfl⟩ : ∃ wi : World, wi = wr := ⟨_, rfl⟩
          have KI := Lib.hid (hK.out.below hP.out)
          obtain ⟨c0, c1, c2, c3⟩ := scene.three_cells KI.out
          obtain rfl : m = (pass (bitf k) t).length := by
            have := hQ.out.1
            rw [len_i64s] at this; omega
          have HLE := Lib.hid (len_pass (bitf k) t)
          by_cases htl : t < xss.length
          · have htz : (t : Int) < (xss.length : Int) := by omega
            have ha := and_one (k := t) (show k < 4096 by omega)
            by_cases hb : k / 2 ^ t % 2 = 1
            · have HL : Hid (pass (bitf k) (t + 1) = pass (bitf k) t ++ [(t : Int)]) := Lib.hid (pass_yes (by unfold bitf; rw [hb]; rfl))
              rw [hb] at ha
              clear hb
              have hsz := hP.out.size
              go_wp2_with (at_builtin; go_must (refine wpList_append_own _ rfl (.tmp 34) (.tmp 36) 23 rfl wo.heap.size 3 i0 (.int .i64 0) 1 8 Try.underlying23 hi hz0 hz1 hz2 rfl (by decide) _ _ _ rfl (hQ.out.alloc _) ⟨wi.heap.size, 0, none⟩ 1 1 [.int .i64 (t : Int)] rfl rfl ?c1 ?c2 ?c3 ?c4 ?c5 ?_))
              try (case c1 => exact app.one_at _ _ _)
              case c2 => first | rfl | (intro u hu; simp at hu; subst hu; rfl)
              case c3 => have := HLE.out; unfold maxLen; omega
              case c4 => have := HLE.out; omega
              try (case c5 => first | omega | (simp; omega))
              intro v' w3 hown' hgrow _
              have Q3 : Hid (w3.ownsRow wo.heap.size 3 1 v' (pass (bitf k) (t + 1)).length (i64s (pass (bitf k) (t + 1)))) := Lib.hid (by
                rw [HL.out, ← app.i64s_snoc, List.length_append]; exact hown')
              have P3 : Hid (Below wo.heap.size wo w3) := Lib.hid ((below_al hP.out _).grown hgrow (by have := hP.out.size; simp; omega) (fun j hj => (hQ.out.lt j hj).1))
              obtain ⟨xa, xl, xc, rfl⟩ := make.shape hown'
              clear hown' hgrow hsz c0 c1 c2 c3 KI
              go_wp2_with fail
              go_roundw
              case rel => exact ⟨t + 1, by omega, by go_num, _, Q3, P3⟩
              case measure => simp [intOf]; omega
            · have hb0 : k / 2 ^ t % 2 = 0 := by omega
              have Q3 : Hid (wi.ownsRow wo.heap.size 3 1 _ _ (i64s (pass (bitf k) (t + 1)))) := Lib.hid (by
                rw [pass_no (show bitf k t = false by unfold bitf; rw [hb0]; rfl)]; exact hQ.out)
              rw [hb0] at ha
              clear hb hb0
              go_wp2_with fail
              go_roundw
              case rel => exact ⟨t + 1, by omega, by go_num, _, Q3, hP⟩
              case measure => simp [intOf]; omega
          · have htz : ¬ (t : Int) < (xss.length : Int) := by omega
            have ht2 : t = xss.length := by omega
            have L2 : Hid (OwnInts wi wo.heap.size wi.heap.size u6 (places xss.length k)) := Lib.hid (by have := app.ints_of_owns hQ.out; rw [ht2] at this; exact this)
            have B2 := Lib.hid (below_tr hB.out hP.out)
            have O2 := Lib.hid (hO.out.1.below hP.out)
            obtain ⟨la, lc, rfl⟩ : ∃ a c, u6 = .slice a (places xss.length k).length c := by obtain ⟨A, c, hv, _⟩ := L2.out.ints; exact ⟨A, c, by rw [hv, len_i64s]⟩
            have HP := Lib.hid (HPR.out wi _ k B2.out L2.out.ints)
            clear hQ ht2 HLE
            cases hpf : scr.proofB xss ws (places xss.length k) with
            | false =>
              have HBN := Lib.hid (best_no1 hpf)
              rw [hpf] at HP
              clear hpf
              go_wp2_with fail
              refine HP.out.mono ?_
              rintro e w3 ⟨rfl, hb⟩
              have B3 := Lib.hid (below_tr B2.out hb)
              have K3 := Lib.hid (KI.out.below hb)
              have O3 : Hid (Ints w3 (.slice ba (best xss ws k).length bc) (best xss ws (k + 1)) ∧ ∃ a cc, (Value.slice ba (best xss ws k).length bc) = .slice a (best xss ws (k + 1)).length cc) := Lib.hid (by rw [HBN.out]; exact ⟨O2.out.below hb, _, _, rfl⟩)
              clear hb c0 c1 c2 c3
              go_wp2_with fail
              go_roundw
              case rel => exact ⟨k + 1, by omega, by omega, by go_num, ⟨_, rfl⟩, ⟨_, rfl⟩, O3, B3, K3⟩
              case measure => simp [intOf]; omega
            | true =>
              rw [hpf] at HP
              by_cases hbe : best xss ws k = []
              · have HBY := Lib.hid (best_yes hpf (.inl hbe))
                have dz : (((best xss ws k).length : Int) == 0) = true := by rw [hbe]; rfl
                clear hpf hbe
                go_wp2_with fail
                refine HP.out.mono ?_
                rintro e w3 ⟨rfl, hb⟩
                have B3 := Lib.hid (below_tr B2.out hb)
                have K3 := Lib.hid (KI.out.below hb)
                have O3 : Hid (Ints w3 (.slice la (places xss.length k).length lc) (best xss ws (k + 1)) ∧ ∃ a cc, (Value.slice la (places xss.length k).length lc) = .slice a (best xss ws (k + 1)).length cc) := Lib.hid (by rw [HBY.out]; exact ⟨L2.out.ints.below hb, _, _, rfl⟩)
                clear hb c0 c1 c2 c3
                go_wp2_with fail
                go_roundw
                case rel => exact ⟨k + 1, by omega, by omega, by go_num, ⟨_, rfl⟩, ⟨_, rfl⟩, O3, B3, K3⟩
                case measure => simp [intOf]; omega
              · have dz := bne0 hbe
                have HLB1 := HLB.out k
                have HLP1 := HLP.out k
                have HCM := Lib.hid (fun W (hW : Below wi.heap.size wi W) => l7before _ _ (places xss.length k) (best xss ws k) W (L2.out.ints.below hW) (O2.out.below hW) (by show (pass _ _).length ≤ _; omega) (by omega))
                clear HLB1 HLP1
                cases hbf : beforeB (places xss.length k) (best xss ws k) with
                | true =>
                  have HBY := Lib.hid (best_yes hpf (.inr hbf))
                  rw [hbf] at HCM
                  clear hpf hbf hbe
                  go_wp2_with fail
                  refine HP.out.mono ?_
                  rintro e w3 ⟨rfl, hb⟩
                  go_wp2_with fail
                  refine (HCM.out _ hb).mono ?_
                  rintro e w4 ⟨rfl, q, rfl⟩
                  have B3 := Lib.hid (below_drewN (below_tr B2.out hb) q)
                  have K3 := Lib.hid (KI.out.below (below_drewN hb q))
                  have O3 : Hid (Ints (w3.drewN q) (.slice la (places xss.length k).length lc) (best xss ws (k + 1)) ∧ ∃ a cc, (Value.slice la (places xss.length k).length lc) = .slice a (best xss ws (k + 1)).length cc) := Lib.hid (by rw [HBY.out]; exact ⟨L2.out.ints.below (below_drewN hb q), _, _, rfl⟩)
                  clear hb c0 c1 c2 c3
                  go_wp2_with fail
                  go_roundw
                  case rel => exact ⟨k + 1, by omega, by omega, by go_num, ⟨_, rfl⟩, ⟨_, rfl⟩, O3, B3, K3⟩
                  case measure => simp [intOf]; omega
                | false =>
                  have HBY := Lib.hid (best_no2 hbe hbf)
                  rw [hbf] at HCM
                  clear hpf hbf hbe
                  go_wp2_with fail
                  refine HP.out.mono ?_
                  rintro e w3 ⟨rfl, hb⟩
                  go_wp2_with fail
                  refine (HCM.out _ hb).mono ?_
                  rintro e w4 ⟨rfl, q, rfl⟩
                  have B3 := Lib.hid (below_drewN (below_tr B2.out hb) q)
                  have K3 := Lib.hid (KI.out.below (below_drewN hb q))
                  have O3 : Hid (Ints (w3.drewN q) (.slice ba (best xss ws k).length bc) (best xss ws (k + 1)) ∧ ∃ a cc, (Value.slice ba (best xss ws k).length bc) = .slice a (best xss ws (k + 1)).length cc) := Lib.hid (by rw [HBY.out]; exact ⟨O2.out.below (below_drewN hb q), _, _, rfl⟩)
                  clear hb c0 c1 c2 c3
                  go_wp2_with fail
                  go_roundw
                  case rel => exact ⟨k + 1, by omega, by omega, by go_num, ⟨_, rfl⟩, ⟨_, rfl⟩, O3, B3, K3⟩
                  case measure => simp [intOf]; omega
      · have hkz : ¬ (k : Int) < (c : Int) := by omega
        obtain rfl : k = c := by omega
        have O2 := Lib.hid hO.out.1
        have HD : Hid (posB (best xss ws k) = decide ((0 : Int) < ((best xss ws k).length : Int))) := Lib.hid rfl
        go_wp2_with fail
        go_ret2
        exact ⟨.slice ba (best xss ws k).length bc, by show Ending.returned (.tuple #[.slice ba (best xss ws k).length bc, .bool _]) = .returned (.tuple #[.slice ba (best xss ws k).length bc, .bool (posB (best xss ws k))]); rw [HD.out]; first | rfl | simp, O2.out, hB.out⟩
  · have HI := HI
    rw [sceneB_no hok] at HI
    rw [findR_no hok]
    clear hok
    obtain ⟨c0, c1, c2, c3⟩ := scene.three_cells K0.out
    go_enter Try.func33, Try.ntmps33
    go_wp2_with fail
    refine HI.out.mono ?_
    rintro e w1 ⟨rfl, hb1⟩
    have B1 := Lib.hid (below_tr B0.out hb1)
    clear c0 c1 c2 c3 hb1
    go_wp2_with fail
    go_ret2
    exact ⟨_, rfl, app.empty _ _ _ (Nat.zero_le _), B1.out⟩


end Go.Proofs.Ytkikdecepdbbnaa.fpt
