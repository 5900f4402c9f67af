/- The worths of all extreme Boxes: extremeBoxes and extremeWorths of the program. -/
import Derived.Test.YtlaaiahkdkhehabExt
import Derived.Test.YtlaaiahkdkhehabWorthc
namespace Go.Proofs.Ytlaaiahkdkhehab.exw
open Go.RowKit Go.Deep Go.Proofs.Ytlaaiahkdkhehab.base
open Go.Proofs.Ytlaaiahkdkhehab.ints (ret_int infoInt infoInts)
open Go.Proofs.Ytlaaiahkdkhehab.rws (total)
open Go.Proofs.Ytlaaiahkdkhehab.val (okSizes okBox)
open Go.Proofs.Ytlaaiahkdkhehab.boxl (Pl four cells cells_snoc infoBox)
open Go.Proofs.Ytlaaiahkdkhehab.ext (ext exts len_exts exts_succ ext_ok ext_tot)
open Go.Proofs.Ytlaaiahkdkhehab.worth (okFun funB funB_yes funB_no worth)

def g (fss : List (List Int)) (i : Nat) : Int := worth fss (ext i)
def wl (fss : List (List Int)) (n : Nat) : List Int := (List.range n).map (g fss)
theorem wl_succ (fss : List (List Int)) (n : Nat) : wl fss (n + 1) = wl fss n ++ [g fss n] := by simp [wl, List.range_succ]
theorem len_wl (fss : List (List Int)) (n : Nat) : (wl fss n).length = n := by simp [wl]
open Classical in
noncomputable def data (fss : List (List Int)) : List Int := if okFun 2 2 fss then wl fss 24 else []
theorem data_yes {fss : List (List Int)} (h : okFun 2 2 fss) : data fss = wl fss 24 := if_pos h
theorem data_no {fss : List (List Int)} (h : ¬ okFun 2 2 fss) : data fss = [] := if_neg h
theorem all_ext {fss : List (List Int)} (h : okFun 2 2 fss) (i : Nat) : worth.all 2 2 2 fss (ext i) := ⟨ext_ok i, h⟩

/-- one of the gathered Boxes, seen from a later world that has left the blocks from B' on below T as they were -/
theorem mid {w w1 wr : World} {B B' g n cap : Nat} {us : List Value} {rss : List (List (List Int))} (h : Pl w w1 B (.slice (some ⟨g, 0, none⟩) n cap) us rss) (hB' : B' ≤ w.heap.size)
    (hm : ∀ k, B' ≤ k → k < w1.heap.size → wr.heap[k]? = w1.heap[k]?) {i : Nat} (hi : i < rss.length) :
    ∃ ua ul uc, wr.cell? ⟨g, i * 4, none⟩ = some (.int .i64 2) ∧ wr.cell? ⟨g, i * 4 + 1, none⟩ = some (.int .i64 2) ∧ wr.cell? ⟨g, i * 4 + 2, none⟩ = some (.int .i64 2) ∧ wr.cell? ⟨g, i * 4 + 3, none⟩ = some (.slice ua ul uc) ∧ IRows wr (.slice ua ul uc) rss[i] := by
  obtain ⟨g', cap', u, hv, hu, hc, Bi, Ti, ho, hb, ht⟩ := h.at_ hi
  injection hv with e1 e2 e3
  injection e1 with e1
  injection e1 with e1
  subst e1
  have hg := h.owns.lt g (by simp [Value.ownBlock])
  obtain ⟨ua, ul, uc, rfl⟩ := ho.rows.shape
  have key : ∀ k, k < 4 → wr.cell? ⟨g, i * 4 + k, none⟩ = (four (.slice ua ul uc))[k]? := fun k hk => by
    have h1 := hc k hk
    rw [← h1, Nat.mul_comm]
    exact pile.cell_heap (hm g (by have := h.base; omega) hg.2)
  exact ⟨ua, ul, uc, key 0 (by omega), key 1 (by omega), key 2 (by omega), key 3 (by omega), (boxl.rows_heap ho (fun k h1 h2 => hm k (by omega) (by omega))).rows⟩


set_option maxRecDepth 100000 in
set_option maxHeartbeats 8000000 in
theorem boxes (w : World) :
    Calls Try.prog 158 #[] w fun e w' => ∃ v, e = .returned v ∧ ∃ us, Pl w w' w.heap.size v us (exts 24) := by
  obtain ⟨s0, si, sz0, sz1, sz2⟩ := info_parts infoBox
  have hmk : ∀ W : World, (Instr.makeSlice 115 (.int .i64 0) (.int .i64 24)).run Try.prog W = .ok (.slice (some ⟨W.heap.size, 0, none⟩) 0 24) (W.alloc (.cells (madeCells #[.int .i64 0, .int .i64 0, .int .i64 0, .slice none 0 0] 96) 40)) := fun W => by
    have := run_make (P := Try.prog) W 115 40 s0 (.agg #[.int .i64 0, .int .i64 0, .int .i64 0, .slice none 0 0]) Try.underlying115 si sz0 .i64 .i64 0 24 (Int.le_refl _) (by omega) (by rw [sz2]; omega) (by omega)
    simp only [sz1] at this
    exact this
  have P0 : Hid (Pl w (w.alloc (.cells (madeCells #[.int .i64 0, .int .i64 0, .int .i64 0, .slice none 0 0] 96) 40)) w.heap.size (.slice (some ⟨w.heap.size, 0, none⟩) 0 24) [] (exts 0)) := Lib.hid (by
    refine Pl.start (below_al (Below.refl _ _) _) (Nat.le_refl _) ?_ (by simp)
    have := World.ownsRow_made (base := w.heap.size) (e := 40) (size := 4) w (madeCells #[.int .i64 0, .int .i64 0, .int .i64 0, .slice none 0 0] 96) 24 (Nat.le_refl _) (by unfold maxLen; omega) (by simp [madeCells])
    simpa using this)
  go_enter Try.func158, Try.ntmps158
  go_wp2_with fail
  clear hmk
  go_loopw [1, 2, 3, 4, 6] (fun v _ _ _ i wr => ∃ k : Nat, k ≤ 24 ∧ i = .int .i64 k ∧ ∃ us, Hid (Pl w wr w.heap.size v us (exts k))) (fun _ _ _ _ i _ => 24 - (intOf i).toNat)
  case atStart => exact ⟨0, Nat.zero_le _, rfl, _, P0⟩
  case round =>
    obtain ⟨k, hk, rfl, us, hP⟩ := hrel
    clear P0
    obtain ⟨wi, rfl⟩ : ∃ wi : World, wi = wr := ⟨_, rfl⟩
    by_cases hlt : k < 24
    · have hkz : (k : Int) < 24 := by omega
      have HC := Lib.hid (ext.impl_any (k : Int) wi)
      rw [ext.res_yes hlt] at HC
      go_wp2_with fail
      refine HC.out.mono ?_
      rintro e w2 ⟨u, rfl, hu, hb⟩
      obtain ⟨ua, ul, uc, rfl⟩ := hu.rows.shape
      have hz := hb.size
      have hu : OwnRows w2 wi.heap.size w2.heap.size (.slice ua ul uc) (ext k) := hu
      have P2 := Lib.hid (((hP.out.keep hb).keep (below_al (Below.refl _ _) (.cells #[.int .i64 2, .int .i64 2, .int .i64 2, .slice ua ul uc] 40))).keep (below_al (Below.refl _ _) (.cells #[.int .i64 2, .int .i64 2, .int .i64 2, .slice ua ul uc] 40)))
      have U2 := Lib.hid ((hu.keep (below_al (Below.refl _ _) (.cells #[.int .i64 2, .int .i64 2, .int .i64 2, .slice ua ul uc] 40))).keep (below_al (Below.refl _ _) (.cells #[.int .i64 2, .int .i64 2, .int .i64 2, .slice ua ul uc] 40)))
      have HAP := Lib.hid (hP.out.apart (m := wi.heap.size) (T := w2.heap.size) (by omega))
      have hw0 := hP.out.below.size
      have hle := Lib.hid (len_exts k)
      have hown := Lib.hid P2.out.owns
      rw [hle.out] at hown
      clear hu hb HC
      go_wp2_with (at_builtin; go_must (refine boxl.app_lies rfl (.tmp 14) (.tmp 16) 115 rfl w.heap.size 40 s0 (.agg #[.int .i64 0, .int .i64 0, .int .i64 0, .slice none 0 0]) 4 48 Try.underlying115 si sz0 sz1 sz2 rfl (by decide) _ _ _ rfl hown.out ⟨w2.heap.size + 1, 0, none⟩ 1 1 (four (.slice ua ul uc)) rfl rfl ?c1 ?c2 ?c3 ?c4 ?c5 (by decide) ?_))
      case c1 =>
        intro j x hj
        have hbk : ((w2.alloc (.cells #[.int .i64 2, .int .i64 2, .int .i64 2, .slice ua ul uc] 40)).alloc (.cells #[.int .i64 2, .int .i64 2, .int .i64 2, .slice ua ul uc] 40)).heap[w2.heap.size + 1]? = some (.cells #[.int .i64 2, .int .i64 2, .int .i64 2, .slice ua ul uc] 40 (0, 0)) := by
          have := heap_alloc_new (w2.alloc (.cells #[.int .i64 2, .int .i64 2, .int .i64 2, .slice ua ul uc] 40)) (.cells #[.int .i64 2, .int .i64 2, .int .i64 2, .slice ua ul uc] 40)
          rw [show (w2.alloc (.cells #[.int .i64 2, .int .i64 2, .int .i64 2, .slice ua ul uc] 40)).heap.size = w2.heap.size + 1 from by simp] at this
          exact this
        rw [row.opn_add, Joins.cell_of_block hbk]
        simpa [four] using hj
      case c2 => intro x hx; simp [four] at hx; rcases hx with rfl | rfl <;> rfl
      case c3 => unfold maxLen; omega
      case c4 => omega
      case c5 => simp; omega
      intro v' w3 hown' hgrow hlies
      have P3 : Hid (Pl w w3 w.heap.size v' (us ++ [.slice ua ul uc]) (exts (k + 1))) := Lib.hid (by
        rw [exts_succ]
        refine P2.out.grow U2.out (by omega) (by simp; omega) HAP.out ?_ hgrow (by simpa using hlies)
        rw [hle.out]
        exact hown')
      obtain ⟨xa, xl, xc, rfl⟩ := boxl.shapez hown'
      clear hown' hgrow hlies P2 U2 HAP hown hP
      go_wp2_with fail
      go_roundw
      case rel => exact ⟨k + 1, by omega, by go_num, _, P3⟩
      case measure => simp [intOf]; omega
    · have hkz : ¬ (k : Int) < 24 := by omega
      have hk24 : k = 24 := by omega
      obtain ⟨xa, xl, xc, hx⟩ := boxl.shapez hP.out.owns
      subst hx
      have P5 : Hid (Pl w wi w.heap.size (.slice xa xl xc) us (exts 24)) := Lib.hid (by have := hP.out; rw [hk24] at this; exact this)
      clear hP hk24
      go_wp2_with fail
      go_ret
      exact ⟨_, rfl, us, P5.out⟩



set_option maxRecDepth 100000 in
set_option maxHeartbeats 8000000 in
theorem worths (v : Value) (fss : List (List Int)) (w : World) (h : IRows w v fss) (hn : total fss ≤ 1048576) :
    Calls Try.prog 120 #[v] w fun e w' => ∃ u, e = .returned (.tuple #[u, .bool (funB 2 2 fss)]) ∧ OwnInts w' w.heap.size w'.heap.size u (data fss) ∧ Below w.heap.size w w' := by
  obtain ⟨i0, hi, hz0, hz1, hz2⟩ := info_parts infoInt
  obtain ⟨fa, fn, fc, rfl⟩ := h.shape
  have H := Lib.hid h
  clear h
  have hmk : ∀ W : World, (Instr.makeSlice 22 (.int .i64 0) (.int .i64 24)).run Try.prog W = .ok (.slice (some ⟨W.heap.size, 0, none⟩) 0 24) (W.alloc (.cells (madeCells #[.int .i64 0] 24) 3)) := fun W => app.mk0 24 (by omega) W
  have O0 : Hid ((w.alloc (.cells (madeCells #[.int .i64 0] 24) 3)).ownsRow w.heap.size 3 1 (.slice (some ⟨w.heap.size, 0, none⟩) 0 24) 0 (i64s (wl fss 0))) := Lib.hid (by
    have := World.ownsRow_made (base := w.heap.size) (e := 3) (size := 1) w (madeCells #[.int .i64 0] 24) 24 (Nat.le_refl _) (by unfold maxLen; omega) (by simp [madeCells])
    simpa [i64s, wl] using this)
  have B0 := Lib.hid (below_al (Below.refl w.heap.size w) (.cells (madeCells #[.int .i64 0] 24) 3))
  go_enter Try.func120, Try.ntmps120
  go_wp2_with fail
  clear hmk
  refine (boxes _).mono ?_
  rintro e w1 ⟨bv, rfl, us, hP⟩
  have h0 : ∃ gb cap, bv = .slice (some ⟨gb, 0, none⟩) 24 cap := by
    obtain ⟨gb, cap, u0, hbv, _⟩ := hP.at_ (i := 0) (by rw [len_exts]; omega)
    rw [len_exts] at hbv
    exact ⟨gb, cap, hbv⟩
  obtain ⟨gb, cap, rfl⟩ := h0
  have B1 := Lib.hid (below_tr B0.out hP.below)
  have O1 := Lib.hid (app.owns_below O0.out hP.below)
  have P1 := Lib.hid hP
  have D1 : Hid (∀ q, (Value.slice (some ⟨w.heap.size, 0, none⟩) 0 24).ownBlock = some q → q < w.heap.size + 1 ∨ w1.heap.size ≤ q) := Lib.hid (fun q hq => by simp [Value.ownBlock] at hq; omega)
  have hw01 : w.heap.size + 1 ≤ w1.heap.size := by have := hP.below.size; simpa using this
  clear hP B0 O0
  go_wp2_with fail
  go_loopw [4, 6, 7, 8, 12] (fun out _ _ _ i wr => ∃ k : Nat, k ≤ 24 ∧ i = .int .i64 k ∧ Hid (wr.ownsRow w.heap.size 3 1 out k (i64s (wl fss k))) ∧ Hid (Below w.heap.size w wr) ∧ Hid (∀ q, out.ownBlock = some q → q < w.heap.size + 1 ∨ w1.heap.size ≤ q) ∧ Hid (∀ q, w.heap.size + 1 ≤ q → q < w1.heap.size → wr.heap[q]? = w1.heap[q]?) ∧ w1.heap.size ≤ wr.heap.size ∧ Hid (k = 0 ∨ okFun 2 2 fss)) (fun _ _ _ _ i _ => 24 - (intOf i).toNat)
  case atStart => exact ⟨0, Nat.zero_le _, rfl, O1, B1, D1, Lib.hid (fun _ _ _ => rfl), Nat.le_refl _, Lib.hid (.inl rfl)⟩
  case round =>
    obtain ⟨k, hk, rfl, hO, hB, hD, hM, hS, hF⟩ := hrel
    clear O1 B1 D1
    obtain ⟨wi, rfl⟩ : ∃ wi : World, wi = wr := ⟨_, rfl⟩
    by_cases hlt : k < 24
    · have hkz : (k : Int) < 24 := by omega
      obtain ⟨ua, ul, uc, q0, q1, q2, q3, hbr⟩ := mid P1.out (B' := w.heap.size + 1) (by simp) hM.out (i := k) (by rw [len_exts]; exact hlt)
      rw [show (exts 24)[k]'(by rw [len_exts]; exact hlt) = ext k from by simp [exts]] at hbr
      have HW := Lib.hid (worth.impl_any 2 2 2 (.slice fa fn fc) (.slice ua ul uc) fss (ext k) (wi.alloc (.cells #[.int .i64 2, .int .i64 2, .int .i64 2, .slice ua ul uc] 40)) (H.out.below (below_al hB.out _)) (hbr.below (below_al (Below.refl _ _) _)) hn (ext_tot k))
      by_cases hf : okFun 2 2 fss
      · rw [worth.res_yes (all_ext hf k)] at HW
        have HF := Lib.hid hf
        clear hf hbr hF
        go_wp2_with fail
        refine HW.out.mono ?_
        rintro e w2 ⟨rfl, hb⟩
        have hba := Lib.hid (below_tr (below_al (Below.refl wi.heap.size wi) (.cells #[.int .i64 2, .int .i64 2, .int .i64 2, .slice ua ul uc] 40)) hb)
        have hbb := Lib.hid (below_tr hba.out (below_al (Below.refl w2.heap.size w2) (.cells #[.int .i64 (g fss k)] 3)))
        have hz := hba.out.size
        have hw0 := hB.out.size
        have hown := Lib.hid (app.owns_below hO.out hbb.out)
        have hs3 : w.heap.size ≤ (w2.alloc (.cells #[.int .i64 (g fss k)] 3)).heap.size := by simp; omega
        clear hb HW q0 q1 q2 q3
        have HG : Hid (worth fss (ext k) = g fss k) := Lib.hid rfl
        rw [HG.out]
        generalize hgk : g fss k = gk at *
        go_wp2_with (at_builtin; go_must (refine boxl.app_lies rfl (.tmp 24) (.tmp 26) 22 rfl w.heap.size 3 i0 (.int .i64 0) 1 8 Try.underlying22 hi hz0 hz1 hz2 rfl (by decide) _ _ _ rfl hown.out ⟨w2.heap.size, 0, none⟩ 1 1 [.int .i64 gk] rfl rfl ?c1 ?c2 ?c3 ?c4 ?c5 (by decide) ?_))
        try (case c1 => exact app.one_at _ _ _)
        case c2 => first | rfl | (intro u hu; simp at hu; subst hu; rfl)
        case c3 => unfold maxLen; omega
        case c4 => omega
        case c5 => first | omega | (simp; omega)
        intro v' w3 hown' hgrow hlies
        have O3 : Hid (w3.ownsRow w.heap.size 3 1 v' (k + 1) (i64s (wl fss (k + 1)))) := Lib.hid (by rw [wl_succ, ← app.i64s_snoc, hgk]; exact hown')
        have B3 := Lib.hid ((below_tr hB.out hbb.out).grown hgrow hs3 (fun j hj => (hO.out.lt j hj).1))
        have D3 : Hid (∀ q, v'.ownBlock = some q → q < w.heap.size + 1 ∨ w1.heap.size ≤ q) := Lib.hid (ext.near (w := w2.alloc (.cells #[.int .i64 gk] 3)) (by simp; omega) hD.out (by simpa using hlies))
        have M3 : Hid (∀ q, w.heap.size + 1 ≤ q → q < w1.heap.size → w3.heap[q]? = w1.heap[q]?) := Lib.hid (fun q h1 h2 => by
          rw [hgrow.block q (by simp; omega) (fun e => by have := hD.out q e.symm; omega), hbb.out.block q (by omega)]
          exact hM.out q h1 h2)
        have S3 : w1.heap.size ≤ w3.heap.size := by have := hgrow.size; simp at this; omega
        obtain ⟨xa, xl, xc, rfl⟩ := make.shape hown'
        clear hown' hgrow hlies hown hO hB hD hM hba hbb hgk HG
        go_wp2_with fail
        go_roundw
        case rel => exact ⟨k + 1, by omega, by go_num, O3, B3, D3, M3, S3, Lib.hid (.inr HF.out)⟩
        case measure => simp [intOf]; omega
      · rw [worth.res_no (fun h => hf h.2)] at HW
        have HE := Lib.hid (funB_no hf)
        have HDT := Lib.hid (data_no hf)
        clear hf hbr hF hO hD hM
        go_wp2_with fail
        refine HW.out.mono ?_
        rintro e w2 ⟨rfl, hb⟩
        have hba := Lib.hid (below_tr (below_al (Below.refl wi.heap.size wi) (.cells #[.int .i64 2, .int .i64 2, .int .i64 2, .slice ua ul uc] 40)) hb)
        clear hb HW q0 q1 q2 q3
        go_wp2_with fail
        go_ret2
        rw [HE.out, HDT.out]
        exact ⟨_, rfl, OwnInts.nil _ _ _, below_tr hB.out hba.out⟩
    · have hkz : ¬ (k : Int) < 24 := by omega
      have hk24 : k = 24 := by omega
      have hf : okFun 2 2 fss := by rcases hF.out with e | e; omega; exact e
      have HE := Lib.hid (funB_yes hf)
      have HDT := Lib.hid (data_yes hf)
      have HU := Lib.hid (app.ints_of_owns hO.out)
      rw [hk24] at HU
      obtain ⟨xa, xl, xc, rfl⟩ := HU.out.ints.shape
      clear hk24 hf hF hO hD hM
      go_wp2_with fail
      go_ret2
      rw [HE.out, HDT.out]
      exact ⟨_, rfl, HU.out, hB.out⟩


end Go.Proofs.Ytlaaiahkdkhehab.exw
