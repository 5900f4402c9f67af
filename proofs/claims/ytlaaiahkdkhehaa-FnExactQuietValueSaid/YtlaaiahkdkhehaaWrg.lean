/- WorthRange of the model and of the program. -/
import Derived.Test.YtlaaiahkdkhehaaExw
import Derived.Test.YtlaaiahkdkhehaaPart
namespace Go.Proofs.Ytlaaiahkdkhehaa.wrg
open Go.RowKit Go.Deep Go.Proofs.Ytlaaiahkdkhehaa.base
open Go.Proofs.Ytlaaiahkdkhehaa.ints (ret_int infoInt infoInts)
open Go.Proofs.Ytlaaiahkdkhehaa.rws (total)
open Go.Proofs.Ytlaaiahkdkhehaa.boxl (Pl)
open Go.Proofs.Ytlaaiahkdkhehaa.ext (ext exts len_exts ext_ok ext_tot)
open Go.Proofs.Ytlaaiahkdkhehaa.worth (okFun funB funB_yes funB_no worth)
open Go.Proofs.Ytlaaiahkdkhehaa.maxi (bst bst_all bst_lt bst_new bst_old lst lst_new lst_old at_ at_get)
open Go.Proofs.Ytlaaiahkdkhehaa.exw (wl len_wl data data_yes data_no all_ext)

/-- the worths, one after another -/
def G (fss : List (List Int)) : Nat → Int := at_ (wl fss 24)
theorem G_at (fss : List (List Int)) {i : Nat} (h : i < 24) : G fss i = worth fss (ext i) := by simp [G, at_, wl, List.getD, h, exw.g]
def lo (fss : List (List Int)) : Int := lst (G fss) 24
def hi (fss : List (List Int)) : Int := G fss (bst (G fss) 24)
open Classical in
noncomputable def res (fss : List (List Int)) : Int × Int × Bool := if okFun 2 2 fss then (lo fss, hi fss, true) else (0, 0, false)
theorem res_yes {fss : List (List Int)} (h : okFun 2 2 fss) : res fss = (lo fss, hi fss, true) := if_pos h
theorem res_no {fss : List (List Int)} (h : ¬ okFun 2 2 fss) : res fss = (0, 0, false) := if_neg h


theorem least_fst (a b : Int) (w : World) (h : a < b) : Calls Try.prog 98 #[.int .i64 a, .int .i64 b] w fun e w' => e = .returned (.int .i64 a) ∧ w = w' := by
  have d : decide (a < b) = true := by simp [h]
  go_enter Try.func98, Try.ntmps98
  go_wp2
  go_ret
  exact ⟨rfl, rfl⟩
theorem least_snd (a b : Int) (w : World) (h : ¬ a < b) : Calls Try.prog 98 #[.int .i64 a, .int .i64 b] w fun e w' => e = .returned (.int .i64 b) ∧ w = w' := by
  have d : decide (a < b) = false := by simp; omega
  go_enter Try.func98, Try.ntmps98
  go_wp2
  go_ret
  exact ⟨rfl, rfl⟩
theorem least_any (a b : Int) (w : World) : Calls Try.prog 98 #[.int .i64 a, .int .i64 b] w fun e w' => e = .returned (.int .i64 (if b < a then b else a)) ∧ w = w' := by
  by_cases h : a < b
  · rw [if_neg (by omega)]; exact least_fst a b w h
  · have e : (if b < a then b else a) = b := by split <;> omega
    rw [e]; exact least_snd a b w h


theorem most_any (a b : Int) (w : World) : Calls Try.prog 99 #[.int .i64 a, .int .i64 b] w fun e w' => e = .returned (.int .i64 (if a < b then b else a)) ∧ w = w' := by
  by_cases h : b < a
  · rw [if_neg (by omega)]; exact part.most_fst a b w h
  · have e : (if a < b then b else a) = b := by split <;> omega
    rw [e]; exact part.most_snd a b w h



set_option maxHeartbeats 8000000 in
theorem spec_any (v : Value) (fss : List (List Int)) (w : World) (h : IRows w v fss) (hn : total fss ≤ 1048576) :
    Calls Try.prog 44 #[v] w fun e w' => e = .returned (.tuple #[.int .i64 (res fss).1, .int .i64 (res fss).2.1, .bool (res fss).2.2]) ∧ Below w.heap.size w w' := by
  have hr := worth.spec_fun 2 2 v fss w h hn
  obtain ⟨fa, fn, fc, rfl⟩ := h.shape
  have H := Lib.hid h
  clear h
  by_cases hf : okFun 2 2 fss
  · rw [funB_yes hf] at hr
    rw [res_yes hf]
    have HR := Lib.hid hr
    have HF := Lib.hid hf
    clear hr hf
    go_enter Try.func44, Try.ntmps44
    go_wp2_with fail
    refine HR.out.mono ?_
    rintro e w0 ⟨rfl, rfl⟩
    go_wp2_with fail
    refine (ext.l6extremes _).mono ?_
    rintro e w1 ⟨bv, us, rfl, hP⟩
    have h0 : ∃ gb cap, bv = .slice (some ⟨gb, 0, none⟩) 24 cap := by
      obtain ⟨gb, cap, u0, hbv, _⟩ := hP.at_ (i := 0) (by rw [len_exts]; omega)
      rw [len_exts] at hbv
      exact ⟨gb, cap, hbv⟩
    obtain ⟨gb, cap, rfl⟩ := h0
    have P1 := Lib.hid hP
    have B1 := Lib.hid hP.below
    obtain ⟨ua, ul, uc, q0, q1, q2, q3, hbr⟩ := exw.mid P1.out (B' := w.heap.size) (Nat.le_refl _) (fun _ _ _ => rfl) (i := 0) (by rw [len_exts]; omega)
    simp only [Nat.zero_mul, Nat.zero_add] at q0 q1 q2 q3
    rw [show (exts 24)[0]'(by rw [len_exts]; omega) = ext 0 from by simp [exts]] at hbr
    have HW := Lib.hid (fun (W : World) (hb : Below w1.heap.size w1 W) => worth.l2worth 2 2 2 (.slice fa fn fc) (.slice ua ul uc) fss (ext 0) W (H.out.below (below_tr B1.out hb)) (hbr.below hb) (all_ext HF.out 0))
    rw [← G_at fss (i := 0) (by omega)] at HW
    clear hP hbr
    go_wp2_with fail
    go_region_held3 (fun w' => w'.cell? ⟨gb, 0, none⟩ = some (.int .i64 2) ∧ w'.cell? ⟨gb, 1, none⟩ = some (.int .i64 2) ∧ w'.cell? ⟨gb, 2, none⟩ = some (.int .i64 2) ∧ w'.cell? ⟨gb, 3, none⟩ = some (.slice ua ul uc) ∧ Below w1.heap.size w1 w')
      ((refine held4 q0 q1 q2 q3 ?_; repeat (first | exact Below.refl _ _ | assumption | refine below_dr ?_ | refine below_tr ?_ (by assumption))))
      (first
        | (go_at_call 97; (with_reducible refine (HW.out _ ?_).mono ?_); (with_reducible exact below_dr (Below.refl _ _)); rintro e w5 ⟨rfl, hb1⟩)
        | (go_at_call 97; (with_reducible refine (HW.out _ ?_).mono ?_); (with_reducible exact below_tr (below_dr (Below.refl _ _)) hb1); rintro e w6 ⟨rfl, hb2⟩))
    have B6 := Lib.hid (below_tr (below_tr (below_dr (Below.refl w1.heap.size w1)) hb1) hb2)
    have L1 : Hid (G fss 0 = lst (G fss) 1) := Lib.hid rfl
    have M1 : Hid (G fss 0 = G fss (bst (G fss) 1)) := Lib.hid rfl
    clear HW q0 q1 q2 q3 hb1 hb2
    go_wp2_with fail
    go_loopw [6, 7, 8] (fun a b i wr => ∃ k : Nat, 1 ≤ k ∧ k ≤ 24 ∧ i = .int .i64 k ∧ (∃ z : Int, a = .int .i64 z ∧ Hid (z = lst (G fss) k)) ∧ (∃ z : Int, b = .int .i64 z ∧ Hid (z = G fss (bst (G fss) k))) ∧ Hid (Below w1.heap.size w1 wr)) (fun _ _ i _ => 24 - (intOf i).toNat)
    case atStart => exact ⟨1, by omega, by omega, rfl, ⟨_, rfl, L1⟩, ⟨_, rfl, M1⟩, B6⟩
    case round =>
      obtain ⟨k, hk1, hk, rfl, ⟨y, rfl, hy⟩, ⟨z, rfl, hz⟩, hB⟩ := hrel
      clear B6 L1 M1
      obtain ⟨wi, rfl⟩ : ∃ wi : World, wi = wr := ⟨_, rfl⟩
      by_cases hlt : k < 24
      · have hkz : (k : Int) < 24 := by omega
        obtain ⟨ua, ul, uc, q0, q1, q2, q3, hbr⟩ := exw.mid P1.out (B' := w.heap.size) (Nat.le_refl _) (fun q _ h2 => hB.out.block q h2) (i := k) (by rw [len_exts]; exact hlt)
        rw [show (exts 24)[k]'(by rw [len_exts]; exact hlt) = ext k from by simp [exts]] at hbr
        have HW := Lib.hid (fun (W : World) (hb : Below wi.heap.size wi W) => worth.l2worth 2 2 2 (.slice fa fn fc) (.slice ua ul uc) fss (ext k) W (H.out.below (below_tr (below_tr B1.out hB.out) hb)) (hbr.below hb) (all_ext HF.out k))
        rw [← G_at fss (i := k) hlt] at HW
        have HL : Hid ((if G fss k < y then G fss k else y) = lst (G fss) (k + 1)) := Lib.hid (by
          rw [hy.out]
          by_cases hn : G fss k < lst (G fss) k
          · rw [lst_new (.inr hn), if_pos hn]
          · rw [lst_old (by omega), if_neg hn])
        have HM : Hid ((if z < G fss k then G fss k else z) = G fss (bst (G fss) (k + 1))) := Lib.hid (by
          rw [hz.out]
          by_cases hn : G fss (bst (G fss) k) < G fss k
          · rw [bst_new (.inr hn), if_pos hn]
          · rw [bst_old (by omega), if_neg hn])
        generalize hgk : G fss k = gk at *
        clear hgk hbr
        go_wp2_with fail
        refine (HW.out _ (Below.refl _ _)).mono ?_
        rintro e w2 ⟨rfl, hb⟩
        have hb2 := Lib.hid hb
        go_wp2_with fail
        refine (least_any y gk _).mono ?_
        rintro e w3 ⟨rfl, rfl⟩
        have q0' := below_cell hb _ _ q0
        have q1' := below_cell hb _ _ q1
        have q2' := below_cell hb _ _ q2
        have q3' := below_cell hb _ _ q3
        rw [HL.out]
        clear q0 q1 q2 q3 hb
        go_wp2_with fail
        refine (HW.out _ hb2.out).mono ?_
        rintro e w4 ⟨rfl, hb⟩
        have B4 := Lib.hid (below_tr (below_tr hB.out hb2.out) hb)
        clear hb
        go_wp2_with fail
        refine (most_any z gk _).mono ?_
        rintro e w5 ⟨rfl, rfl⟩
        rw [HM.out]
        clear q0' q1' q2' q3' HW
        go_wp2_with fail
        go_roundw
        case rel => exact ⟨k + 1, by omega, by omega, by go_num, ⟨_, rfl, Lib.hid rfl⟩, ⟨_, rfl, Lib.hid rfl⟩, B4⟩
        case measure => simp [intOf]; omega
      · have hkz : ¬ (k : Int) < 24 := by omega
        have hk24 : k = 24 := by omega
        have E1 : Hid (y = lo fss) := Lib.hid (by rw [hy.out, hk24]; rfl)
        have E2 : Hid (z = hi fss) := Lib.hid (by rw [hz.out, hk24]; rfl)
        clear hk24
        go_wp2_with fail
        refine bodyPost_ret (v := .tuple #[.int .i64 y, .int .i64 z, .bool true]) (by simp [results, Try.results44, go_sem]) rfl ⟨part.ret_three E1.out E2.out, below_tr B1.out hB.out⟩
  · rw [funB_no hf] at hr
    rw [res_no hf]
    have HR := Lib.hid hr
    clear hr hf
    go_enter Try.func44, Try.ntmps44
    go_wp2_with fail
    refine HR.out.mono ?_
    rintro e w0 ⟨rfl, rfl⟩
    go_wp2_with fail
    refine bodyPost_ret (v := .tuple #[.int .i64 0, .int .i64 0, .bool false]) (by simp [results, Try.results44, go_sem]) rfl ⟨rfl, Below.refl _ _⟩



set_option maxHeartbeats 4000000 in
theorem impl_any (v : Value) (fss : List (List Int)) (w : World) (h : IRows w v fss) (hn : total fss ≤ 1048576) :
    Calls Try.prog 46 #[v] w fun e w' => e = .returned (.tuple #[.int .i64 (res fss).1, .int .i64 (res fss).2.1, .bool (res fss).2.2]) ∧ Below w.heap.size w w' := by
  have HC := Lib.hid (exw.worths v fss w h hn)
  obtain ⟨fa, fn, fc, rfl⟩ := h.shape
  clear h
  by_cases hf : okFun 2 2 fss
  · rw [funB_yes hf, data_yes hf] at HC
    rw [res_yes hf]
    have HMX := Lib.hid (fun (v : Value) (W : World) (h : Ints W v (wl fss 24)) => maxi.max_any v (wl fss 24) W h (by rw [len_wl]; omega) (by rw [len_wl]; omega))
    have HMN := Lib.hid (fun (v : Value) (W : World) (h : Ints W v (wl fss 24)) => maxi.min_any v (wl fss 24) W h (by rw [len_wl]; omega) (by rw [len_wl]; omega))
    rw [len_wl] at HMX HMN
    have HMX' : Hid (∀ (v : Value) (W : World), Ints W v (wl fss 24) → Calls Try.prog 76 #[v] W fun e w' => e = .returned (.int .i64 (hi fss)) ∧ W = w') := Lib.hid HMX.out
    have HMN' : Hid (∀ (v : Value) (W : World), Ints W v (wl fss 24) → Calls Try.prog 102 #[v] W fun e w' => e = .returned (.int .i64 (lo fss)) ∧ W = w') := Lib.hid HMN.out
    generalize lo fss = l at HMN' ⊢
    generalize hi fss = m at HMX' ⊢
    clear hf HMX HMN
    go_enter Try.func46, Try.ntmps46
    go_wp2_with fail
    refine HC.out.mono ?_
    rintro e w1 ⟨u, rfl, hu, hb⟩
    obtain ⟨ua, ul, uc, rfl⟩ := hu.ints.shape
    have HU := Lib.hid hu.ints
    have B1 := Lib.hid hb
    clear hu hb HC
    go_wp2_with fail
    refine (HMN'.out _ _ HU.out).mono ?_
    rintro e w2 ⟨rfl, rfl⟩
    go_wp2_with fail
    refine (HMX'.out _ _ HU.out).mono ?_
    rintro e w2 ⟨rfl, rfl⟩
    go_wp2_with fail
    refine bodyPost_ret (v := .tuple #[.int .i64 l, .int .i64 m, .bool true]) (by simp [results, Try.results46, go_sem]) rfl ⟨rfl, B1.out⟩
  · rw [funB_no hf, data_no hf] at HC
    rw [res_no hf]
    clear hf
    go_enter Try.func46, Try.ntmps46
    go_wp2_with fail
    refine HC.out.mono ?_
    rintro e w1 ⟨u, rfl, hu, hb⟩
    have B1 := Lib.hid hb
    clear hu hb HC
    go_wp2_with fail
    refine bodyPost_ret (v := .tuple #[.int .i64 0, .int .i64 0, .bool false]) (by simp [results, Try.results46, go_sem]) rfl ⟨rfl, B1.out⟩


end Go.Proofs.Ytlaaiahkdkhehaa.wrg
