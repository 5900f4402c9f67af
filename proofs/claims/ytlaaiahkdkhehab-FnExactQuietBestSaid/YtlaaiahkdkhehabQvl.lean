/- QuietValue and QuietBest of the model and of the program. -/
import Derived.Test.YtlaaiahkdkhehabWrg
import Derived.Test.YtlaaiahkdkhehabBsc
import Derived.Test.YtlaaiahkdkhehabAsk
namespace Go.Proofs.Ytlaaiahkdkhehab.qvl
open Go.RowKit Go.Deep Go.Proofs.Ytlaaiahkdkhehab.base
open Go.Proofs.Ytlaaiahkdkhehab.ints (ret_int infoInt infoInts)
open Go.Proofs.Ytlaaiahkdkhehab.rws (total)
open Go.Proofs.Ytlaaiahkdkhehab.boxl (Pl)
open Go.Proofs.Ytlaaiahkdkhehab.ext (ext exts len_exts ext_ok ext_tot)
open Go.Proofs.Ytlaaiahkdkhehab.worth (okFun funB funB_yes funB_no worth)
open Go.Proofs.Ytlaaiahkdkhehab.maxi (bst bst_all bst_lt bst_new bst_old at_ at_get)
open Go.Proofs.Ytlaaiahkdkhehab.exw (wl len_wl data data_yes data_no all_ext)
open Go.Proofs.Ytlaaiahkdkhehab.wrg (G G_at hi)
open Go.Proofs.Ytlaaiahkdkhehab.gval (okGame gameB gameB_yes gameB_no)
open Go.Proofs.Ytlaaiahkdkhehab.two (asksB asksB_yes asksB_no)

def gok (x y : Int) (ws : List Int) (xss : List (List Int)) : Prop := okGame x y ws xss ∧ x = 2 ∧ y = 2
open Classical in
noncomputable def gokB (x y : Int) (ws : List Int) (xss : List (List Int)) : Bool := if gok x y ws xss then true else false
theorem gokB_yes {x y : Int} {ws : List Int} {xss : List (List Int)} (h : gok x y ws xss) : gokB x y ws xss = true := if_pos h
theorem gokB_no {x y : Int} {ws : List Int} {xss : List (List Int)} (h : ¬ gok x y ws xss) : gokB x y ws xss = false := if_neg h
def fs (ws : List Int) (xss : List (List Int)) : List (List Int) := gfun.rows ws xss 4
theorem fs_ok {ws : List Int} {xss : List (List Int)} (h : okGame 2 2 ws xss) : okFun 2 2 (fs ws xss) := bsc.fun_ok h
theorem fs_tot (ws : List Int) (xss : List (List Int)) : total (fs ws xss) ≤ 1048576 := make.total_rowsOf _ _ (by omega)
theorem fs_len {ws : List Int} {xss : List (List Int)} (h : okGame 2 2 ws xss) : xss.length = 4 := by have := h.2.2.1; omega
def best (fss : List (List Int)) : Nat := bst (G fss) 24
open Classical in
noncomputable def res (x y : Int) (ws : List Int) (xss : List (List Int)) : Int × Bool := if gok x y ws xss then (hi (fs ws xss), true) else (0, false)
theorem res_yes {x y : Int} {ws : List Int} {xss : List (List Int)} (h : gok x y ws xss) : res x y ws xss = (hi (fs ws xss), true) := if_pos h
theorem res_no {x y : Int} {ws : List Int} {xss : List (List Int)} (h : ¬ gok x y ws xss) : res x y ws xss = (0, false) := if_neg h
open Classical in
noncomputable def bres (x y : Int) (ws : List Int) (xss : List (List Int)) : Int × Bool := if gok x y ws xss then ((best (fs ws xss) : Int), true) else (0, false)
theorem bres_yes {x y : Int} {ws : List Int} {xss : List (List Int)} (h : gok x y ws xss) : bres x y ws xss = ((best (fs ws xss) : Int), true) := if_pos h
theorem bres_no {x y : Int} {ws : List Int} {xss : List (List Int)} (h : ¬ gok x y ws xss) : bres x y ws xss = (0, false) := if_neg h
theorem best_lt (fss : List (List Int)) : best fss < 24 := bst_lt _ (by omega)


set_option maxHeartbeats 8000000 in
theorem l6best (v : Value) (fss : List (List Int)) (w : World) (h : IRows w v fss) (hf : okFun 2 2 fss) :
    Calls Try.prog 61 #[v] w fun e w' => e = .returned (.int .i64 (best fss : Int)) ∧ Below w.heap.size w w' := by
  obtain ⟨fa, fn, fc, rfl⟩ := h.shape
  have H := Lib.hid h
  have HF := Lib.hid hf
  clear h hf
  go_enter Try.func61, Try.ntmps61
  go_wp2_with fail
  refine (ext.l6extremes _).mono ?_
  rintro e w1 ⟨bv, us, rfl, hP⟩
  have h0 : ∃ gb cap, bv = .slice (some ⟨gb, 0, none⟩) 24 cap := by
    obtain ⟨gb, cap, u0, hbv, _⟩ := hP.at_ (i := 0) (by rw [len_exts]; omega)
    rw [len_exts] at hbv
    exact ⟨gb, cap, hbv⟩
  obtain ⟨gb, cap, rfl⟩ := h0
  have P1 := Lib.hid hP
  have B1 := Lib.hid hP.below
  clear hP
  go_wp2_with fail
  go_loopw [4, 5] (fun m i wr => ∃ k : Nat, 1 ≤ k ∧ k ≤ 24 ∧ i = .int .i64 k ∧ (∃ q : Nat, m = .int .i64 q ∧ q < 24 ∧ Hid (q = bst (G fss) k)) ∧ Hid (Below w1.heap.size w1 wr)) (fun _ i _ => 24 - (intOf i).toNat)
  case atStart => exact ⟨1, by omega, by omega, rfl, ⟨0, rfl, by omega, Lib.hid rfl⟩, Lib.hid (Below.refl _ _)⟩
  case round =>
    obtain ⟨k, hk1, hk, rfl, ⟨q, rfl, hq24, hq⟩, hB⟩ := hrel
    obtain ⟨wi, rfl⟩ : ∃ wi : World, wi = wr := ⟨_, rfl⟩
    by_cases hlt : k < 24
    · have hkz : (k : Int) < 24 := by omega
      have hqz : (q : Int) < 24 := by omega
      obtain ⟨ua, ul, uc, a0, a1, a2, a3, hbr⟩ := exw.mid P1.out (B' := w.heap.size) (Nat.le_refl _) (fun q _ h2 => hB.out.block q h2) (i := k) (by rw [len_exts]; exact hlt)
      rw [show (exts 24)[k]'(by rw [len_exts]; exact hlt) = ext k from by simp [exts]] at hbr
      obtain ⟨va, vl, vc, b0, b1, b2, b3, hbq⟩ := exw.mid P1.out (B' := w.heap.size) (Nat.le_refl _) (fun q _ h2 => hB.out.block q h2) (i := q) (by rw [len_exts]; exact hq24)
      rw [show (exts 24)[q]'(by rw [len_exts]; exact hq24) = ext q from by simp [exts]] at hbq
      have HK := Lib.hid (fun (W : World) (hb : Below wi.heap.size wi W) => worth.l2worth 2 2 2 (.slice fa fn fc) (.slice ua ul uc) fss (ext k) W (H.out.below (below_tr (below_tr B1.out hB.out) hb)) (hbr.below hb) (all_ext HF.out k))
      have HQ := Lib.hid (fun (W : World) (hb : Below wi.heap.size wi W) => worth.l2worth 2 2 2 (.slice fa fn fc) (.slice va vl vc) fss (ext q) W (H.out.below (below_tr (below_tr B1.out hB.out) hb)) (hbq.below hb) (all_ext HF.out q))
      rw [← G_at fss (i := k) hlt] at HK
      rw [← G_at fss (i := q) hq24] at HQ
      clear hbr hbq
      by_cases hn : G fss q < G fss k
      · have HX : Hid (k = bst (G fss) (k + 1)) := Lib.hid (by rw [bst_new (.inr (by rw [← hq.out]; exact hn))])
        have dn : decide (G fss q < G fss k) = true := by simp [hn]
        clear hn
        generalize G fss q = y at dn HQ
        generalize G fss k = z at dn HK
        go_wp2_with fail
        go_region_held3 (fun w' => w'.cell? ⟨gb, k * 4, none⟩ = some (.int .i64 2) ∧ w'.cell? ⟨gb, k * 4 + 1, none⟩ = some (.int .i64 2) ∧ w'.cell? ⟨gb, k * 4 + 2, none⟩ = some (.int .i64 2) ∧ w'.cell? ⟨gb, k * 4 + 3, none⟩ = some (.slice ua ul uc) ∧ w'.cell? ⟨gb, q * 4, none⟩ = some (.int .i64 2) ∧ w'.cell? ⟨gb, q * 4 + 1, none⟩ = some (.int .i64 2) ∧ w'.cell? ⟨gb, q * 4 + 2, none⟩ = some (.int .i64 2) ∧ w'.cell? ⟨gb, q * 4 + 3, none⟩ = some (.slice va vl vc) ∧ Below wi.heap.size wi w')
          ((refine held8 a0 a1 a2 a3 b0 b1 b2 b3 ?_; repeat (first | exact Below.refl _ _ | assumption | refine below_dr ?_ | refine below_tr ?_ (by assumption))))
          (first
            | (go_at_call 117; (with_reducible refine (HK.out _ ?_).mono ?_); (with_reducible exact below_dr (Below.refl _ _)); rintro e w5 ⟨rfl, hb1⟩)
            | (go_at_call 117; (with_reducible refine (HQ.out _ ?_).mono ?_); (with_reducible exact below_tr (below_dr (Below.refl _ _)) hb1); rintro e w6 ⟨rfl, hb2⟩))
        have B6 := Lib.hid (below_tr hB.out (below_tr (below_tr (below_dr (Below.refl wi.heap.size wi)) hb1) hb2))
        clear HK HQ a0 a1 a2 a3 b0 b1 b2 b3 hb1 hb2
        go_wp2_with fail
        go_roundw
        case rel => exact ⟨k + 1, by omega, by omega, by go_num, ⟨k, rfl, hlt, HX⟩, B6⟩
        case measure => simp [intOf]; omega
      · have HX : Hid (q = bst (G fss) (k + 1)) := Lib.hid (by rw [bst_old (by rw [← hq.out]; omega)]; exact hq.out)
        have dn : decide (G fss q < G fss k) = false := by simp; omega
        clear hn
        generalize G fss q = y at dn HQ
        generalize G fss k = z at dn HK
        go_wp2_with fail
        go_region_held3 (fun w' => w'.cell? ⟨gb, k * 4, none⟩ = some (.int .i64 2) ∧ w'.cell? ⟨gb, k * 4 + 1, none⟩ = some (.int .i64 2) ∧ w'.cell? ⟨gb, k * 4 + 2, none⟩ = some (.int .i64 2) ∧ w'.cell? ⟨gb, k * 4 + 3, none⟩ = some (.slice ua ul uc) ∧ w'.cell? ⟨gb, q * 4, none⟩ = some (.int .i64 2) ∧ w'.cell? ⟨gb, q * 4 + 1, none⟩ = some (.int .i64 2) ∧ w'.cell? ⟨gb, q * 4 + 2, none⟩ = some (.int .i64 2) ∧ w'.cell? ⟨gb, q * 4 + 3, none⟩ = some (.slice va vl vc) ∧ Below wi.heap.size wi w')
          ((refine held8 a0 a1 a2 a3 b0 b1 b2 b3 ?_; repeat (first | exact Below.refl _ _ | assumption | refine below_dr ?_ | refine below_tr ?_ (by assumption))))
          (first
            | (go_at_call 117; (with_reducible refine (HK.out _ ?_).mono ?_); (with_reducible exact below_dr (Below.refl _ _)); rintro e w5 ⟨rfl, hb1⟩)
            | (go_at_call 117; (with_reducible refine (HQ.out _ ?_).mono ?_); (with_reducible exact below_tr (below_dr (Below.refl _ _)) hb1); rintro e w6 ⟨rfl, hb2⟩))
        have B6 := Lib.hid (below_tr hB.out (below_tr (below_tr (below_dr (Below.refl wi.heap.size wi)) hb1) hb2))
        clear HK HQ a0 a1 a2 a3 b0 b1 b2 b3 hb1 hb2
        go_wp2_with fail
        go_roundw
        case rel => exact ⟨k + 1, by omega, by omega, by go_num, ⟨q, rfl, hq24, HX⟩, B6⟩
        case measure => simp [intOf]; omega
    · have hkz : ¬ (k : Int) < 24 := by omega
      have hk24 : k = 24 := by omega
      have E1 : Hid ((q : Int) = (best fss : Int)) := Lib.hid (by rw [hq.out, hk24]; rfl)
      clear hk24
      go_wp2_with fail
      go_ret
      exact ⟨ret_int E1.out, below_tr B1.out hB.out⟩



set_option maxHeartbeats 2000000 in
theorem l6game (x y : Int) (v : Value) (ws : List Int) (u : Value) (xss : List (List Int)) (w : World) (h : game.GV w v ws u xss) (hn : ws.length ≤ 1048576) (hm : total xss ≤ 1048576) :
    Calls Try.prog 60 #[.agg #[.int .i64 x, .int .i64 y, v, u]] w fun e w' => e = .returned (.bool (gokB x y ws xss)) ∧ Below w.heap.size w w' := by
  obtain ⟨va, vn, vc, ua, un, uc, rfl, rfl⟩ := h.shape
  have B0 := Lib.hid (below_al (Below.refl w.heap.size w) (.cells #[.int .i64 x, .int .i64 y, .slice va vn vc, .slice ua un uc] 29))
  have K0 := Lib.hid (Blk.new w 29 #[.int .i64 x, .int .i64 y, .slice va vn vc, .slice ua un uc])
  have hr := gval.spec_any x y _ ws _ xss _ (h.below B0.out) hn hm
  clear h
  by_cases hok : okGame x y ws xss
  · rw [gameB_yes hok] at hr
    have HR := Lib.hid hr
    clear hr
    by_cases hx : x = 2
    · have dx : (x == 2) = true := by simp [hx]
      by_cases hy : y = 2
      · have dy : (y == 2) = true := by simp [hy]
        rw [gokB_yes ⟨hok, hx, hy⟩]
        clear hok hx hy
        go_enter Try.func60, Try.ntmps60
        go_wp2_with fail
        refine HR.out.mono ?_
        rintro e w1 ⟨rfl, hb⟩
        have B1 := Lib.hid (below_tr B0.out hb)
        have K1 := Lib.hid (K0.out.below hb)
        obtain ⟨c0, c1, c2, c3, c4⟩ := four_cells K1.out
        clear hb HR B0 K0
        go_wp2_with fail
        go_ret
        exact ⟨rfl, B1.out⟩
      · have dy : (y == 2) = false := by simp [hy]
        rw [gokB_no (fun h => hy h.2.2)]
        clear hok hx hy
        go_enter Try.func60, Try.ntmps60
        go_wp2_with fail
        refine HR.out.mono ?_
        rintro e w1 ⟨rfl, hb⟩
        have B1 := Lib.hid (below_tr B0.out hb)
        have K1 := Lib.hid (K0.out.below hb)
        obtain ⟨c0, c1, c2, c3, c4⟩ := four_cells K1.out
        clear hb HR B0 K0
        go_wp2_with fail
        go_ret
        exact ⟨rfl, B1.out⟩
    · have dx : (x == 2) = false := by simp [hx]
      rw [gokB_no (fun h => hx h.2.1)]
      clear hok hx
      go_enter Try.func60, Try.ntmps60
      go_wp2_with fail
      refine HR.out.mono ?_
      rintro e w1 ⟨rfl, hb⟩
      have B1 := Lib.hid (below_tr B0.out hb)
      have K1 := Lib.hid (K0.out.below hb)
      obtain ⟨c0, c1, c2, c3, c4⟩ := four_cells K1.out
      clear hb HR B0 K0
      go_wp2_with fail
      go_ret
      exact ⟨rfl, B1.out⟩
  · rw [gameB_no hok] at hr
    rw [gokB_no (fun h => hok h.1)]
    have HR := Lib.hid hr
    clear hr hok
    go_enter Try.func60, Try.ntmps60
    go_wp2_with fail
    refine HR.out.mono ?_
    rintro e w1 ⟨rfl, hb⟩
    have B1 := Lib.hid (below_tr B0.out hb)
    clear hb HR B0 K0
    go_wp2_with fail
    go_ret
    exact ⟨rfl, B1.out⟩


theorem ret_ib {a b : Int} {t : Bool} (h : a = b) : Ending.returned (.tuple #[.int .i64 a, .bool t]) = .returned (.tuple #[.int .i64 b, .bool t]) := by rw [h]




set_option maxHeartbeats 4000000 in
theorem spec_best (x y : Int) (v : Value) (ws : List Int) (u : Value) (xss : List (List Int)) (w : World) (h : game.GV w v ws u xss) (hn : ws.length ≤ 1048576) (hm : total xss ≤ 1048576) :
    Calls Try.prog 16 #[.agg #[.int .i64 x, .int .i64 y, v, u]] w fun e w' => e = .returned (.tuple #[.int .i64 (bres x y ws xss).1, .bool (bres x y ws xss).2]) ∧ Below w.heap.size w w' := by
  obtain ⟨va, vn, vc, ua, un, uc, rfl, rfl⟩ := h.shape
  have H := Lib.hid h
  have B0 := Lib.hid (below_al (Below.refl w.heap.size w) (.cells #[.int .i64 x, .int .i64 y, .slice va vn vc, .slice ua un uc] 29))
  have K0 := Lib.hid (Blk.new w 29 #[.int .i64 x, .int .i64 y, .slice va vn vc, .slice ua un uc])
  have hr := l6game x y _ ws _ xss _ (h.below B0.out) hn hm
  clear h
  by_cases hg : gok x y ws xss
  · rw [gokB_yes hg] at hr
    rw [bres_yes hg]
    obtain ⟨hok, rfl, rfl⟩ := hg
    have HLF := Lib.hid (fun (W : World) (hv : game.GV W (.slice va vn vc) ws (.slice ua un uc) xss) => gfun.l4fun 2 2 (.slice va vn vc) ws (.slice ua un uc) xss W hv hok)
    rw [fs_len hok] at HLF
    have HF := Lib.hid (fs_ok hok)
    have HR := Lib.hid hr
    clear hr hok
    go_enter Try.func16, Try.ntmps16
    go_wp2_with fail
    refine HR.out.mono ?_
    rintro e w1 ⟨rfl, hb⟩
    have B1 := Lib.hid (below_tr B0.out hb)
    have K1 := Lib.hid (K0.out.below hb)
    obtain ⟨c0, c1, c2, c3, c4⟩ := four_cells K1.out
    clear hb HR B0 K0
    go_wp2_with fail
    refine (HLF.out _ (H.out.below B1.out)).mono ?_
    rintro e w2 ⟨fv, rfl, hfv, hb⟩
    obtain ⟨fa, fn, fc, rfl⟩ := hfv.rows.shape
    have FR : Hid (IRows w2 (.slice fa fn fc) (fs ws xss)) := Lib.hid hfv.rows
    have B2 := Lib.hid (below_tr B1.out hb)
    clear hb hfv HLF c0 c1 c2 c3 c4
    go_wp2_with fail
    refine (l6best _ (fs ws xss) _ FR.out HF.out).mono ?_
    rintro e w4 ⟨rfl, hb⟩
    have B4 := Lib.hid (below_tr B2.out hb)
    clear hb
    go_wp2_with fail
    go_ret2
    exact ⟨rfl, B4.out⟩
  · rw [gokB_no hg] at hr
    rw [bres_no hg]
    have HR := Lib.hid hr
    clear hr hg
    go_enter Try.func16, Try.ntmps16
    go_wp2_with fail
    refine HR.out.mono ?_
    rintro e w1 ⟨rfl, hb⟩
    have B1 := Lib.hid (below_tr B0.out hb)
    clear hb HR B0 K0
    go_wp2_with fail
    go_ret2
    exact ⟨rfl, B1.out⟩


/-! ### the program -/
open Classical in
noncomputable def sdata (x y : Int) (ws : List Int) (xss : List (List Int)) : List Int := if gok x y ws xss then wl (fs ws xss) 24 else []
theorem sdata_yes {x y : Int} {ws : List Int} {xss : List (List Int)} (h : gok x y ws xss) : sdata x y ws xss = wl (fs ws xss) 24 := if_pos h
theorem sdata_no {x y : Int} {ws : List Int} {xss : List (List Int)} (h : ¬ gok x y ws xss) : sdata x y ws xss = [] := if_neg h

set_option maxHeartbeats 4000000 in
theorem scores (x y : Int) (v : Value) (ws : List Int) (u : Value) (xss : List (List Int)) (w : World) (h : game.GV w v ws u xss) (hn : ws.length ≤ 1048576) (hm : total xss ≤ 1048576) :
    Calls Try.prog 63 #[.agg #[.int .i64 x, .int .i64 y, v, u]] w fun e w' => ∃ r, e = .returned (.tuple #[r, .bool (gokB x y ws xss)]) ∧ OwnInts w' w.heap.size w'.heap.size r (sdata x y ws xss) ∧ Below w.heap.size w w' := by
  obtain ⟨va, vn, vc, ua, un, uc, rfl, rfl⟩ := h.shape
  have B0 := Lib.hid (below_al (Below.refl w.heap.size w) (.cells #[.int .i64 x, .int .i64 y, .slice va vn vc, .slice ua un uc] 29))
  have K0 := Lib.hid (Blk.new w 29 #[.int .i64 x, .int .i64 y, .slice va vn vc, .slice ua un uc])
  have HR := Lib.hid (gfun.impl_any x y _ ws _ xss _ (h.below B0.out) hn hm)
  have HAS := Lib.hid (two.asks x y)
  clear h
  by_cases hok : okGame x y ws xss
  · rw [gfun.res_yes hok] at HR
    by_cases h2 : x = 2 ∧ y = 2
    · obtain ⟨rfl, rfl⟩ := h2
      rw [gokB_yes ⟨hok, rfl, rfl⟩, sdata_yes ⟨hok, rfl, rfl⟩]
      rw [asksB_yes] at HAS
      have HF := Lib.hid (fs_ok hok)
      clear hok
      go_enter Try.func63, Try.ntmps63
      go_wp2_with fail
      refine HR.out.mono ?_
      rintro e w1 ⟨fv, rfl, hu, hb⟩
      obtain ⟨fa, fn, fc, rfl⟩ := hu.rows.shape
      have FR : Hid (IRows w1 (.slice fa fn fc) (fs ws xss)) := Lib.hid hu.rows
      have B1 := Lib.hid (below_tr B0.out hb)
      have K1 := Lib.hid (K0.out.below hb)
      obtain ⟨c0, c1, c2, c3, c4⟩ := four_cells K1.out
      clear hb hu HR B0 K0
      go_wp2_with fail
      refine (HAS.out _).mono ?_
      rintro e w2 ⟨rfl, rfl⟩
      have HX := Lib.hid (exw.worths _ (fs ws xss) _ FR.out (fs_tot ws xss))
      rw [funB_yes HF.out, data_yes HF.out] at HX
      go_wp2_with fail
      refine HX.out.mono ?_
      rintro e w3 ⟨r, rfl, hr, hb⟩
      obtain ⟨xa, xl, xc, rfl⟩ := hr.ints.shape
      have B3 := Lib.hid (below_tr B1.out hb)
      have hz := B1.out.size
      have HRR := Lib.hid (hr.mono (B' := w.heap.size) (by omega) (Nat.le_refl _))
      clear hr hb HX c0 c1 c2 c3 c4
      go_wp2_with fail
      go_ret2
      exact ⟨_, rfl, HRR.out, B3.out⟩
    · rw [gokB_no (fun h => h2 h.2), sdata_no (fun h => h2 h.2)]
      rw [asksB_no h2] at HAS
      clear hok h2
      go_enter Try.func63, Try.ntmps63
      go_wp2_with fail
      refine HR.out.mono ?_
      rintro e w1 ⟨fv, rfl, hu, hb⟩
      obtain ⟨fa, fn, fc, rfl⟩ := hu.rows.shape
      have B1 := Lib.hid (below_tr B0.out hb)
      have K1 := Lib.hid (K0.out.below hb)
      obtain ⟨c0, c1, c2, c3, c4⟩ := four_cells K1.out
      clear hb hu HR B0 K0
      go_wp2_with fail
      refine (HAS.out _).mono ?_
      rintro e w2 ⟨rfl, rfl⟩
      go_wp2_with fail
      go_ret2
      exact ⟨_, rfl, OwnInts.nil _ _ _, B1.out⟩
  · rw [gfun.res_no hok] at HR
    rw [gokB_no (fun h => hok h.1), sdata_no (fun h => hok h.1)]
    clear hok
    go_enter Try.func63, Try.ntmps63
    go_wp2_with fail
    refine HR.out.mono ?_
    rintro e w1 ⟨fv, rfl, hu, hb⟩
    have B1 := Lib.hid (below_tr B0.out hb)
    clear hb hu HR B0 K0
    go_wp2_with fail
    go_ret2
    exact ⟨_, rfl, OwnInts.nil _ _ _, B1.out⟩



set_option maxHeartbeats 4000000 in
theorem impl_best (x y : Int) (v : Value) (ws : List Int) (u : Value) (xss : List (List Int)) (w : World) (h : game.GV w v ws u xss) (hn : ws.length ≤ 1048576) (hm : total xss ≤ 1048576) :
    Calls Try.prog 18 #[.agg #[.int .i64 x, .int .i64 y, v, u]] w fun e w' => e = .returned (.tuple #[.int .i64 (bres x y ws xss).1, .bool (bres x y ws xss).2]) ∧ Below w.heap.size w w' := by
  obtain ⟨va, vn, vc, ua, un, uc, rfl, rfl⟩ := h.shape
  have B0 := Lib.hid (below_al (Below.refl w.heap.size w) (.cells #[.int .i64 x, .int .i64 y, .slice va vn vc, .slice ua un uc] 29))
  have HR := Lib.hid (scores x y _ ws _ xss _ (h.below B0.out) hn hm)
  clear h
  by_cases hg : gok x y ws xss
  · rw [gokB_yes hg, sdata_yes hg] at HR
    rw [bres_yes hg]
    have hba := bst_all (G (fs ws xss)) 24 (by omega)
    have HIX := Lib.hid (fun (v : Value) (W : World) (h : Ints W v (wl (fs ws xss) 24)) => maxi.index_at v (wl (fs ws xss) 24) (hi (fs ws xss)) (best (fs ws xss)) W h (by rw [len_wl]; exact best_lt _) rfl (fun j hj => Int.ne_of_lt (hba.2.2 j hj)) (by rw [len_wl]; omega))
    have HMX := Lib.hid (fun (v : Value) (W : World) (h : Ints W v (wl (fs ws xss) 24)) => maxi.max_any v (wl (fs ws xss) 24) W h (by rw [len_wl]; omega) (by rw [len_wl]; omega))
    rw [len_wl] at HMX
    have HMX' : Hid (∀ (v : Value) (W : World), Ints W v (wl (fs ws xss) 24) → Calls Try.prog 65 #[v] W fun e w' => e = .returned (.int .i64 (hi (fs ws xss))) ∧ W = w') := Lib.hid HMX.out
    generalize hi (fs ws xss) = m at HMX' HIX
    generalize best (fs ws xss) = q at HIX ⊢
    clear hg HMX hba
    go_enter Try.func18, Try.ntmps18
    go_wp2_with fail
    refine HR.out.mono ?_
    rintro e w1 ⟨r, rfl, hr, hb⟩
    obtain ⟨xa, xl, xc, rfl⟩ := hr.ints.shape
    have HU := Lib.hid hr.ints
    have B1 := Lib.hid (below_tr B0.out hb)
    clear hr hb HR B0
    go_wp2_with fail
    refine (HMX'.out _ _ HU.out).mono ?_
    rintro e w2 ⟨rfl, rfl⟩
    go_wp2_with fail
    refine (HIX.out _ _ HU.out).mono ?_
    rintro e w2 ⟨rfl, rfl⟩
    go_wp2_with fail
    go_ret2
    exact ⟨rfl, B1.out⟩
  · rw [gokB_no hg, sdata_no hg] at HR
    rw [bres_no hg]
    clear hg
    go_enter Try.func18, Try.ntmps18
    go_wp2_with fail
    refine HR.out.mono ?_
    rintro e w1 ⟨r, rfl, hr, hb⟩
    have B1 := Lib.hid (below_tr B0.out hb)
    clear hr hb HR B0
    go_wp2_with fail
    go_ret2
    exact ⟨rfl, B1.out⟩


end Go.Proofs.Ytlaaiahkdkhehab.qvl
