/- LocalValue and BestPlays of the program. -/
import Derived.Test.YtkajebhagkbcaabLocal
namespace Go.Proofs.Ytkajebhagkbcaab.loc
open Go.RowKit Go.Deep Go.Proofs.Ytkajebhagkbcaab.base
open Go.Proofs.Ytkajebhagkbcaab.val (okSizes okBox ret_b)
open Go.Proofs.Ytkajebhagkbcaab.play (within)
open Go.Proofs.Ytkajebhagkbcaab.worth (okFun funB funB_yes funB_no worth)
open Go.Proofs.Ytkajebhagkbcaab.ints (infoInts ret_int)
open Go.Proofs.Ytkajebhagkbcaab.rws (total)

set_option maxHeartbeats 4000000 in
theorem impl_both (x y : Int) (vf : Value) (fss : List (List Int)) (w : World) (h : IRows w vf fss) (hnf : total fss ≤ 1048576) :
    Calls Try.prog 60 #[.int .i64 x, .int .i64 y, vf] w fun e w' => ∃ u, e = .returned (.tuple #[.int .i64 (res x y fss).1, u, .bool (res x y fss).2.2]) ∧ OwnRows w' w.heap.size w'.heap.size u (res x y fss).2.1 ∧ Below w.heap.size w w' := by
  obtain ⟨s0, si, sz0, sz1, sz2⟩ := info_parts infoInts
  have HF := Lib.hid h
  obtain ⟨fa, fn, fc, rfl⟩ := h.shape
  have HL := Lib.hid (plays.impl_any x y w)
  clear h
  by_cases hs : okSizes x y
  · have HR := Lib.hid (plays.res_yes hs)
    obtain ⟨n, hn⟩ : ∃ n, (x + y).toNat = n := ⟨_, rfl⟩
    have h6 : n ≤ 6 := by have := hs.1.2; have := hs.2.2; omega
    obtain ⟨c, hc⟩ : ∃ c, 2 ^ n = c := ⟨_, rfl⟩
    have hpos : 0 < c := hc ▸ Nat.two_pow_pos n
    have h64 : c ≤ 64 := hc ▸ plays.two_pow h6
    have HAL : Hid (plays.all (x + y).toNat = plays.upto n c) := Lib.hid (by unfold plays.all; rw [hn, hc])
    have HN := Lib.hid hn
    have HS := Lib.hid hs
    have HV : Hid (val x y fss = mx (g x y fss) c) := Lib.hid (by unfold val; rw [hn, hc])
    have HBE : Hid (best x y fss = ((bl (g x y fss) c).map (plays.at_ n))) := Lib.hid (by unfold best; rw [hn, hc])
    clear hs hn h6 hc
    by_cases hf : okFun x y fss
    · have HO := Lib.hid hf
      rw [res_yes hf]
      clear hf
      go_enter Try.func60, Try.ntmps60
      go_wp2_with fail
      refine HL.out.mono ?_
      rw [HR.out]
      rintro e w1 ⟨u, rfl, hu, hb⟩
      have hu' : OwnRows w1 w.heap.size w1.heap.size u (plays.upto n c) := HAL.out ▸ hu
      obtain ⟨vals0, hv0⟩ := hu'
      have HV0 := Lib.hid hv0
      have B1 := Lib.hid hb
      have hB0 := Lib.hid hb.size
      obtain ⟨A, b, o, cap, hvv, hcap, hmax, hA, hcc⟩ := hv0.outer.form
      have hlv : vals0.length = c := by rw [hv0.len, plays.len_upto]
      rw [hlv] at hvv hcap hA
      subst hvv
      have HCC := Lib.hid hcc
      have HLV := Lib.hid hlv
      clear hu hb HL hmax hcc hv0 hlv HR HAL
      go_wp2_with fail
      go_loopw [6, 7, 8, 11, 12, 14, 15, 16, 27] (fun q6 q7 q8 m v z1 z2 z3 i wr => ∃ k : Nat, ∃ d : Int, k ≤ c ∧ i = .int .i64 k ∧ m = .int .i64 d ∧ q6 = .int .i64 0 ∧ q7 = .slice none 0 0 ∧ q8 = .bool false ∧ (∃ z', z1 = z') ∧ (∃ z', z2 = z') ∧ (∃ z', z3 = z') ∧ Hid (d = mx (g x y fss) k) ∧ Hid (Pick wr w.heap.size w1.heap.size v ((bl (g x y fss) k).map (fun p => vals0.getD p .nilFunc)) ((bl (g x y fss) k).map (plays.at_ n))) ∧ Hid (Below w1.heap.size w1 wr)) (fun _ _ _ _ _ _ _ _ i _ => c - (intOf i).toNat)
      case atStart => exact ⟨0, 0, Nat.zero_le _, rfl, rfl, rfl, rfl, rfl, ⟨_, rfl⟩, ⟨_, rfl⟩, ⟨_, rfl⟩, rfl, Pick.none _ _ _ hB0.out (Nat.le_refl _), Below.refl _ _⟩
      case round =>
        obtain ⟨k, d, hk, rfl, rfl, rfl, rfl, rfl, ⟨z1, rfl⟩, ⟨z2, rfl⟩, ⟨z3, rfl⟩, hD, hP, hB⟩ := hrel
        obtain ⟨wo, rfl⟩ : ∃ wo : World, wo = wr := ⟨_, rfl⟩
        by_cases hlt : k < c
        · have hkz : (k : Int) < (c : Int) := by omega
          obtain rfl := hA (by omega)
          obtain ⟨u, huk, hui⟩ := own_at HV0.out (r := k) (by rw [plays.len_upto]; exact hlt)
          have eat : (plays.upto n c)[k]'(by rw [plays.len_upto]; exact hlt) = plays.at_ n k := by simp [plays.upto]
          rw [eat] at hui
          obtain ⟨ua, ul, uc, rfl⟩ := hui.ints.shape
          have UK := Lib.hid hui
          have HUK : Hid (vals0.getD k .nilFunc = .slice ua ul uc) := Lib.hid (by simp [List.getD, huk])
          have HDIS : Hid (∀ q ∈ ((bl (g x y fss) k).map (fun p => vals0.getD p .nilFunc)), ∀ p, In q p → ¬ In (.slice ua ul uc) p) := Lib.hid (fun q hq p hp hp' => by
            obtain ⟨j, hj, rfl⟩ := List.mem_map.1 hq
            have hjk := bl_lt _ hj
            have hjl : j < vals0.length := by rw [HLV.out]; omega
            have e : vals0.getD j .nilFunc = vals0[j] := by simp [List.getD, hjl]
            rw [e] at hp
            exact HV0.out.each j k _ _ (by omega) (List.getElem?_eq_getElem hjl) huk p hp hp')
          have g1 := below_cell hB.out _ _ (HCC.out k _ huk)
          have hcall := pworth.impl_any x y (.slice fa fn fc) (.slice ua ul uc) fss _ wo (HF.out.below (below_tr B1.out hB.out)) (hui.ints.below hB.out) hnf
          have ew : pworth.res x y fss (plays.at_ n k) = (g x y fss k, true) := by
            have := pworth.res_yes (⟨HS.out, at_within HS.out k, HO.out⟩ : pworth.all x y fss (plays.at_ (x + y).toNat k))
            rw [HN.out] at this
            rw [this]
            unfold g
            rw [HN.out]
          rw [ew] at hcall
          have HCA := Lib.hid hcall
          have hbl := bl_len (g x y fss) k
          obtain ⟨va, vm, vc, hvv, hvm⟩ : ∃ A m cp, u12 = .slice A m cp ∧ m = (bl (g x y fss) k).length := by
            obtain ⟨A, cp, hv, _⟩ := app.sl_of_owns hP.out.owns
            exact ⟨A, _, cp, hv, by simp⟩
          subst hvv
          clear hui huk eat hcall ew
          by_cases h0 : k = 0
          · have t0 : ((vm : Int) == 0) = true := by rw [hvm]; subst h0; rfl
            have HNEW : Hid (k = 0 ∨ mx (g x y fss) k < g x y fss k) := Lib.hid (.inl h0)
            clear h0 hvm
            have HM : Hid (g x y fss k = mx (g x y fss) (k + 1)) := Lib.hid (mx_new HNEW.out).symm
            have HBL := Lib.hid (bl_new HNEW.out)
            generalize g x y fss k = q at *
            have te : (q == q) = true := beq_self_eq_true q
            go_wp2_with fail
            refine HCA.out.mono ?_
            rintro e w2 ⟨rfl, hb⟩
            have B2 := Lib.hid (below_tr hB.out hb)
            have P2 := Lib.hid (hP.out.keep hb)
            have U2 := Lib.hid (UK.out.keep B2.out)
            have B2a := Lib.hid (below_al B2.out (.cells #[.slice ua ul uc] 40))
            have P2a := Lib.hid (P2.out.keep (below_al (Below.refl _ _) (.cells #[.slice ua ul uc] 40)))
            have U2a := Lib.hid (U2.out.keep (below_al (Below.refl _ _) (.cells #[.slice ua ul uc] 40)))
            have hsz := B2.out.size
            have hszb := hB0.out
            clear hb hB hP HCA
            have PN := Lib.hid (Pick.none (w2.alloc (.cells #[.slice ua ul uc] 40)) w.heap.size w1.heap.size hszb (Nat.le_trans hsz (by simp)))
            go_wp2_with (at_builtin; refine wpList_append_own _ rfl (.tmp 53) (.tmp 55) 22 rfl w1.heap.size 40 s0 (.slice none 0 0) 1 24 Try.underlying22 si sz0 sz1 sz2 rfl (by decide) _ _ _ rfl PN.out.owns ⟨w2.heap.size, 0, none⟩ 1 1 [.slice ua ul uc] rfl rfl ?c11 ?c21 ?c31 ?c41 ?c51 ?_)
            try (case c11 => exact app.one_at _ _ _)
            case c21 => first | rfl | (intro u hu; simp at hu; subst hu; rfl)
            case c31 => first | (unfold maxLen; omega) | (simp only [List.length_nil]; unfold maxLen; omega)
            case c41 => first | omega | (simp only [List.length_nil]; omega)
            case c51 => first | omega | (simp; omega)
            intro v' w3 hown' hgrow _
            have P3 : Hid (Pick w3 w.heap.size w1.heap.size v' ((bl (g x y fss) (k + 1)).map (fun p => vals0.getD p .nilFunc)) ((bl (g x y fss) (k + 1)).map (plays.at_ n))) := Lib.hid (by
              have := PN.out.grow U2a.out (fun q hq => by simp at hq) hown' hgrow
              rw [HBL.out]
              simp only [List.map_cons, List.map_nil]
              rw [HUK.out]
              exact this)
            have B3 : Hid (Below w1.heap.size w1 w3) := Lib.hid (B2a.out.grown hgrow B2a.out.size (fun j hj => by simp [Value.ownBlock] at hj))
            obtain ⟨xa, xl, xc, rfl⟩ := make.shape hown'
            clear hown' hgrow P2 P2a U2 U2a B2a
            go_wp2_with fail
            go_roundw
            case rel => exact ⟨k + 1, _, by omega, by go_num, rfl, rfl, rfl, rfl, ⟨_, rfl⟩, ⟨_, rfl⟩, ⟨_, rfl⟩, HM, P3, B3⟩
            case measure => simp [intOf]; omega
          · have hvp : 0 < vm := by rw [hvm]; exact bl_pos _ k (by omega)
            have t0 : ((vm : Int) == 0) = false := by simp; omega
            have HVM := Lib.hid hvm
            by_cases hgt : mx (g x y fss) k < g x y fss k
            · have HNEW : Hid (k = 0 ∨ mx (g x y fss) k < g x y fss k) := Lib.hid (.inr hgt)
              have t1 : d < g x y fss k := by rw [hD.out]; exact hgt
              clear h0 hgt hvm
              have HM : Hid (g x y fss k = mx (g x y fss) (k + 1)) := Lib.hid (mx_new HNEW.out).symm
              have HBL := Lib.hid (bl_new HNEW.out)
              generalize g x y fss k = q at *
              have te : (q == q) = true := beq_self_eq_true q
              go_wp2_with fail
              refine HCA.out.mono ?_
              rintro e w2 ⟨rfl, hb⟩
              have B2 := Lib.hid (below_tr hB.out hb)
              have P2 := Lib.hid (hP.out.keep hb)
              have U2 := Lib.hid (UK.out.keep B2.out)
              have B2a := Lib.hid (below_al B2.out (.cells #[.slice ua ul uc] 40))
              have P2a := Lib.hid (P2.out.keep (below_al (Below.refl _ _) (.cells #[.slice ua ul uc] 40)))
              have U2a := Lib.hid (U2.out.keep (below_al (Below.refl _ _) (.cells #[.slice ua ul uc] 40)))
              have hsz := B2.out.size
              have hszb := hB0.out
              clear hb hB hP HCA
              have PN := Lib.hid (Pick.none (w2.alloc (.cells #[.slice ua ul uc] 40)) w.heap.size w1.heap.size hszb (Nat.le_trans hsz (by simp)))
              go_wp2_with (at_builtin; refine wpList_append_own _ rfl (.tmp 53) (.tmp 55) 22 rfl w1.heap.size 40 s0 (.slice none 0 0) 1 24 Try.underlying22 si sz0 sz1 sz2 rfl (by decide) _ _ _ rfl PN.out.owns ⟨w2.heap.size, 0, none⟩ 1 1 [.slice ua ul uc] rfl rfl ?c12 ?c22 ?c32 ?c42 ?c52 ?_)
              try (case c12 => exact app.one_at _ _ _)
              case c22 => first | rfl | (intro u hu; simp at hu; subst hu; rfl)
              case c32 => first | (unfold maxLen; omega) | (simp only [List.length_nil]; unfold maxLen; omega)
              case c42 => first | omega | (simp only [List.length_nil]; omega)
              case c52 => first | omega | (simp; omega)
              intro v' w3 hown' hgrow _
              have P3 : Hid (Pick w3 w.heap.size w1.heap.size v' ((bl (g x y fss) (k + 1)).map (fun p => vals0.getD p .nilFunc)) ((bl (g x y fss) (k + 1)).map (plays.at_ n))) := Lib.hid (by
                have := PN.out.grow U2a.out (fun q hq => by simp at hq) hown' hgrow
                rw [HBL.out]
                simp only [List.map_cons, List.map_nil]
                rw [HUK.out]
                exact this)
              have B3 : Hid (Below w1.heap.size w1 w3) := Lib.hid (B2a.out.grown hgrow B2a.out.size (fun j hj => by simp [Value.ownBlock] at hj))
              obtain ⟨xa, xl, xc, rfl⟩ := make.shape hown'
              clear hown' hgrow P2 P2a U2 U2a B2a
              go_wp2_with fail
              go_roundw
              case rel => exact ⟨k + 1, _, by omega, by go_num, rfl, rfl, rfl, rfl, ⟨_, rfl⟩, ⟨_, rfl⟩, ⟨_, rfl⟩, HM, P3, B3⟩
              case measure => simp [intOf]; omega
            · have HOLD : Hid (¬ (k = 0 ∨ mx (g x y fss) k < g x y fss k)) := Lib.hid (fun h => h.elim h0 hgt)
              clear h0 hgt hvm
              by_cases heq : g x y fss k = mx (g x y fss) k
              · skip
                have HM : Hid (d = mx (g x y fss) (k + 1)) := Lib.hid (by rw [mx_old HOLD.out]; exact hD.out)
                have HBL := Lib.hid (bl_more HOLD.out heq)
                have te : (g x y fss k == d) = true := by simp [heq, hD.out]
                have t2 : decide (d < g x y fss k) = false := by simp; rw [heq, hD.out]; exact Int.le_refl _
                clear heq
                generalize g x y fss k = q at *
                go_wp2_with fail
                refine HCA.out.mono ?_
                rintro e w2 ⟨rfl, hb⟩
                have B2 := Lib.hid (below_tr hB.out hb)
                have P2 := Lib.hid (hP.out.keep hb)
                have U2 := Lib.hid (UK.out.keep B2.out)
                have B2a := Lib.hid (below_al B2.out (.cells #[.slice ua ul uc] 40))
                have P2a := Lib.hid (P2.out.keep (below_al (Below.refl _ _) (.cells #[.slice ua ul uc] 40)))
                have U2a := Lib.hid (U2.out.keep (below_al (Below.refl _ _) (.cells #[.slice ua ul uc] 40)))
                have hsz := B2.out.size
                have hszb := hB0.out
                clear hb hB hP HCA
                go_wp2_with (at_builtin; refine wpList_append_own _ rfl (.tmp 53) (.tmp 55) 22 rfl w1.heap.size 40 s0 (.slice none 0 0) 1 24 Try.underlying22 si sz0 sz1 sz2 rfl (by decide) _ _ _ rfl P2a.out.owns ⟨w2.heap.size, 0, none⟩ 1 1 [.slice ua ul uc] rfl rfl ?c13 ?c23 ?c33 ?c43 ?c53 ?_)
                try (case c13 => exact app.one_at _ _ _)
                case c23 => first | rfl | (intro u hu; simp at hu; subst hu; rfl)
                case c33 => first | (unfold maxLen; omega) | (simp only [List.length_map]; unfold maxLen; omega)
                case c43 => first | omega | (simp only [List.length_map]; omega)
                case c53 => first | omega | (simp; omega)
                intro v' w3 hown' hgrow _
                have P3 : Hid (Pick w3 w.heap.size w1.heap.size v' ((bl (g x y fss) (k + 1)).map (fun p => vals0.getD p .nilFunc)) ((bl (g x y fss) (k + 1)).map (plays.at_ n))) := Lib.hid (by
                  have := P2a.out.grow U2a.out HDIS.out (by simpa using hown') hgrow
                  rw [HBL.out]
                  simp only [List.map_append, List.map_cons, List.map_nil]
                  rw [HUK.out]
                  exact this)
                have B3 : Hid (Below w1.heap.size w1 w3) := Lib.hid (B2a.out.grown hgrow B2a.out.size (fun j hj => (P2a.out.owns.lt j hj).1))
                obtain ⟨xa, xl, xc, rfl⟩ := make.shape hown'
                clear hown' hgrow P2 P2a U2 U2a B2a
                go_wp2_with fail
                go_roundw
                case rel => exact ⟨k + 1, _, by omega, by go_num, rfl, rfl, rfl, rfl, ⟨_, rfl⟩, ⟨_, rfl⟩, ⟨_, rfl⟩, HM, P3, B3⟩
                case measure => simp [intOf]; omega
              · skip
                have HM : Hid (d = mx (g x y fss) (k + 1)) := Lib.hid (by rw [mx_old HOLD.out]; exact hD.out)
                have HBL := Lib.hid (bl_old HOLD.out heq)
                have te : (g x y fss k == d) = false := by simp [hD.out]; exact heq
                have t2 : decide (d < g x y fss k) = false := by
                  have := HOLD.out
                  have e := hD.out
                  simp
                  omega
                clear heq
                generalize g x y fss k = q at *
                go_wp2_with fail
                refine HCA.out.mono ?_
                rintro e w2 ⟨rfl, hb⟩
                have B2 := Lib.hid (below_tr hB.out hb)
                have P2 := Lib.hid (hP.out.keep hb)
                have U2 := Lib.hid (UK.out.keep B2.out)
                have B2a := Lib.hid (below_al B2.out (.cells #[.slice ua ul uc] 40))
                have P2a := Lib.hid (P2.out.keep (below_al (Below.refl _ _) (.cells #[.slice ua ul uc] 40)))
                have U2a := Lib.hid (U2.out.keep (below_al (Below.refl _ _) (.cells #[.slice ua ul uc] 40)))
                have hsz := B2.out.size
                have hszb := hB0.out
                clear hb hB hP HCA
                have P3 : Hid (Pick w2 w.heap.size w1.heap.size (.slice va vm vc) ((bl (g x y fss) (k + 1)).map (fun p => vals0.getD p .nilFunc)) ((bl (g x y fss) (k + 1)).map (plays.at_ n))) := Lib.hid (by rw [HBL.out]; exact P2.out)
                have B3 := B2
                go_wp2_with fail
                go_roundw
                case rel => exact ⟨k + 1, _, by omega, by go_num, rfl, rfl, rfl, rfl, ⟨_, rfl⟩, ⟨_, rfl⟩, ⟨_, rfl⟩, HM, P3, B3⟩
                case measure => simp [intOf]; omega
        · have hkz : ¬ (k : Int) < (c : Int) := by omega
          obtain rfl : k = c := by omega
          obtain ⟨va, vm, vc, hvv⟩ := make.shape hP.out.owns
          subst hvv
          have HR := Lib.hid hP.out.rows
          go_wp2_with fail
          refine bodyPost_ret (v := .tuple #[.int .i64 d, .slice va vm vc, .bool true]) (by simp [results, Try.results60, go_sem]) rfl ⟨.slice va vm vc, ?_, ?_, below_tr B1.out hB.out⟩
          · rw [HV.out, hD.out]
          · rw [HBE.out]; exact HR.out
    · rw [res_no hf]
      have HO := Lib.hid hf
      clear hf
      go_enter Try.func60, Try.ntmps60
      go_wp2_with fail
      refine HL.out.mono ?_
      rw [HR.out]
      rintro e w1 ⟨u, rfl, hu, hb⟩
      have hu' : OwnRows w1 w.heap.size w1.heap.size u (plays.upto n c) := HAL.out ▸ hu
      obtain ⟨vals0, hv0⟩ := hu'
      have HV0 := Lib.hid hv0
      have B1 := Lib.hid hb
      have hB0 := Lib.hid hb.size
      obtain ⟨A, b, o, cap, hvv, hcap, hmax, hA, hcc⟩ := hv0.outer.form
      have hlv : vals0.length = c := by rw [hv0.len, plays.len_upto]
      rw [hlv] at hvv hcap hA
      subst hvv
      have HCC := Lib.hid hcc
      have HLV := Lib.hid hlv
      clear hu hb HL hmax hcc hv0 hlv HR HAL
      go_wp2_with fail
      go_loopw [6, 7, 8, 11, 12, 14, 15, 16, 27] (fun q6 q7 q8 m v z1 z2 z3 i wr => i = .int .i64 0 ∧ m = .int .i64 0 ∧ q6 = .int .i64 0 ∧ q7 = .slice none 0 0 ∧ q8 = .bool false ∧ (∃ z', z1 = z') ∧ (∃ z', z2 = z') ∧ (∃ z', z3 = z') ∧ w1 = wr) (fun _ _ _ _ _ _ _ _ i _ => c - (intOf i).toNat)
      case atStart => exact ⟨rfl, rfl, rfl, rfl, rfl, ⟨_, rfl⟩, ⟨_, rfl⟩, ⟨_, rfl⟩, rfl⟩
      case round =>
        obtain ⟨rfl, rfl, rfl, rfl, rfl, ⟨z1, rfl⟩, ⟨z2, rfl⟩, ⟨z3, rfl⟩, rfl⟩ := hrel
        have hkz : (0 : Int) < (c : Int) := by omega
        obtain rfl := hA (by omega)
        obtain ⟨u, huk, hui⟩ := own_at HV0.out (r := 0) (by rw [plays.len_upto]; exact hpos)
        obtain ⟨ua, ul, uc, rfl⟩ := hui.ints.shape
        have g1 := HCC.out 0 _ huk
        rw [Nat.add_zero] at g1
        have hcall := pworth.impl_any x y (.slice fa fn fc) (.slice ua ul uc) fss _ w1 (HF.out.below B1.out) hui.ints hnf
        rw [pworth.res_no (fun h => HO.out h.2.2)] at hcall
        have HCA := Lib.hid hcall
        clear hui huk hcall
        go_wp2_with fail
        refine HCA.out.mono ?_
        rintro e w2 ⟨rfl, hb⟩
        have B2 := Lib.hid (below_tr B1.out hb)
        clear hb
        go_wp2_with fail
        refine bodyPost_ret (v := .tuple #[.int .i64 0, .slice none 0 0, .bool false]) (by simp [results, Try.results60, go_sem]) rfl ⟨_, rfl, OwnRows.nil _ _ _, B2.out⟩
  · have HR := Lib.hid (plays.res_no hs)
    rw [res_no (fun h => hs h.1)]
    clear hs
    go_enter Try.func60, Try.ntmps60
    go_wp2_with fail
    refine HL.out.mono ?_
    rw [HR.out]
    rintro e w1 ⟨u, rfl, hu, hb⟩
    obtain ⟨ua, ul, uc, rfl⟩ := hu.rows.shape
    have B1 := Lib.hid hb
    clear hu hb HL
    go_wp2_with fail
    refine bodyPost_ret (v := .tuple #[.int .i64 0, .slice none 0 0, .bool false]) (by simp [results, Try.results60, go_sem]) rfl ⟨_, rfl, OwnRows.nil _ _ _, B1.out⟩

theorem impl_value (x y : Int) (vf : Value) (fss : List (List Int)) (w : World) (h : IRows w vf fss) (hnf : total fss ≤ 1048576) :
    Calls Try.prog 18 #[.int .i64 x, .int .i64 y, vf] w fun e w' => e = .returned (.tuple #[.int .i64 (res x y fss).1, .bool (res x y fss).2.2]) ∧ Below w.heap.size w w' := by
  have HC := Lib.hid (impl_both x y vf fss w h hnf)
  obtain ⟨fa, fn, fc, rfl⟩ := h.shape
  clear h
  generalize (res x y fss).1 = r1 at *
  generalize (res x y fss).2.1 = r2 at *
  generalize (res x y fss).2.2 = r3 at *
  go_enter Try.func18, Try.ntmps18
  go_wp2_with fail
  refine HC.out.mono ?_
  rintro e w1 ⟨u, rfl, hu, hb⟩
  obtain ⟨ua, ul, uc, rfl⟩ := hu.rows.shape
  have B1 := Lib.hid hb
  clear hu hb
  go_wp2_with fail
  go_ret2
  exact ⟨rfl, B1.out⟩

theorem impl_best (x y : Int) (vf : Value) (fss : List (List Int)) (w : World) (h : IRows w vf fss) (hnf : total fss ≤ 1048576) :
    Calls Try.prog 21 #[.int .i64 x, .int .i64 y, vf] w fun e w' => ∃ u, e = .returned (.tuple #[u, .bool (res x y fss).2.2]) ∧ OwnRows w' w.heap.size w'.heap.size u (res x y fss).2.1 ∧ Below w.heap.size w w' := by
  have HC := Lib.hid (impl_both x y vf fss w h hnf)
  obtain ⟨fa, fn, fc, rfl⟩ := h.shape
  clear h
  generalize (res x y fss).1 = r1 at *
  generalize (res x y fss).2.1 = r2 at *
  generalize (res x y fss).2.2 = r3 at *
  go_enter Try.func21, Try.ntmps21
  go_wp2_with fail
  refine HC.out.mono ?_
  rintro e w1 ⟨u, rfl, hu, hb⟩
  obtain ⟨ua, ul, uc, rfl⟩ := hu.rows.shape
  have B1 := Lib.hid hb
  have U1 := Lib.hid hu
  clear hu hb
  go_wp2_with fail
  go_ret2
  exact ⟨_, rfl, U1.out, B1.out⟩

end Go.Proofs.Ytkajebhagkbcaab.loc
