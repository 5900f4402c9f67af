/- FlipEvent of the program, whole. -/
import Derived.Test.YtkikdecepdbbnaaFle
namespace Go.Proofs.Ytkikdecepdbbnaa.flf
open Go.RowKit Go.Deep Go.Proofs.Ytkikdecepdbbnaa.base
open Go.Proofs.Ytkikdecepdbbnaa.rws (total len_le_total)
open Go.Proofs.Ytkikdecepdbbnaa.play (within withinB withinB_yes withinB_no)
open Go.Proofs.Ytkikdecepdbbnaa.scm
open Go.Proofs.Ytkikdecepdbbnaa.lst
open Go.Proofs.Ytkikdecepdbbnaa.fle

theorem og_nil (w : World) (B T : Nat) (h : B ≤ T) : scene.OG w B T (.slice none 0 0) [] (.slice none 0 0) [] := scene.OG.nil w B T h
theorem bB_dr {w1 w : World} {B : Nat} (h : Below B w1 w) : Below B w1 w.drew := h.drew
theorem bB_tr {w1 w w' : World} {B : Nat} (hB : B ≤ w1.heap.size) (h : Below B w1 w) (k : Below w.heap.size w w') : Below B w1 w' := h.trans (k.mono (Nat.le_trans hB h.size))


set_option maxRecDepth 100000 in
set_option maxHeartbeats 8000000 in
theorem impl_any (x : Int) (u : Value) (xss : List (List Int)) (v : Value) (ws : List Int) (t : Int) (w : World) (h : scene.GV w v ws u xss) (hm : total xss ≤ 1048576) :
    Calls Try.prog 41 #[.agg #[.int .i64 x, u, v], .int .i64 t] w fun e w' => ∃ v' u', e = .returned (.tuple #[.agg #[.int .i64 (flipR x xss ws t).x, u', v'], .bool (flipR x xss ws t).ok]) ∧ scene.OG w' w.heap.size w'.heap.size v' (flipR x xss ws t).ws u' (flipR x xss ws t).rows ∧ Below w.heap.size w w' := by
  obtain ⟨A, cap, rfl⟩ : ∃ A c, u = .slice A xss.length c := by obtain ⟨A, b, o, cap, R, hu, _⟩ := h.rows.form; exact ⟨A, cap, hu⟩
  obtain ⟨C, cap', rfl⟩ : ∃ A c, v = .slice A ws.length c := by obtain ⟨A, c, hv, _⟩ := h.ints; exact ⟨A, c, by rw [hv, len_i64s]⟩
  have H := Lib.hid h
  obtain ⟨w0, hw0⟩ : ∃ w0, (w.alloc (.cells #[.int .i64 x, .slice A xss.length cap, .slice C ws.length cap'] 28)).alloc (.cells #[.int .i64 0, .slice none 0 0, .slice none 0 0] 28) = w0 := ⟨_, rfl⟩
  have K0 : Hid (Blk w0 w.heap.size 28 #[.int .i64 x, .slice A xss.length cap, .slice C ws.length cap']) := Lib.hid (by rw [← hw0]; exact (Blk.new w _ _).alloc _)
  have R0 : Hid (Blk w0 (w.heap.size + 1) 28 #[.int .i64 0, .slice none 0 0, .slice none 0 0]) := Lib.hid (by
    have := Blk.new (w.alloc (.cells #[.int .i64 x, .slice A xss.length cap, .slice C ws.length cap'] 28)) 28 #[.int .i64 0, .slice none 0 0, .slice none 0 0]
    rw [← hw0]
    simpa using this)
  have B0 : Hid (Below w.heap.size w w0) := Lib.hid (by rw [← hw0]; exact below_al (below_al (Below.refl _ _) _) _)
  have HI := Lib.hid (scv.impl_scene x _ xss _ ws w0 (h.below B0.out) hm)
  clear h
  by_cases hok : okScene x xss ws
  · have HI := HI
    rw [sceneB_yes hok] at HI
    by_cases t0 : 0 ≤ t
    · have d0 : decide (t < 0) = false := by simp; omega
      by_cases t1 : t < x
      · have d1 : decide (x ≤ t) = false := by simp; omega
        rw [flipR_yes ⟨hok, t0, t1⟩]
        have HCN := Lib.hid (fun W (hW : Below w.heap.size w W) => clone_any _ ws W (H.out.ints.below hW) (by have := hok.sums.1; have := hok.len; omega))
        have HCP := Lib.hid (fun W (hW : Below w.heap.size w W) => clone_pos _ ws W (H.out.ints.below hW) (by have := hok.sums.1; have := hok.len; omega))
        have HFR := Lib.hid (fun W (hW : Below w.heap.size w W) => impl_from x _ xss _ ws 0 W (H.out.below hW) hok.len (by omega) (bounds hok))
        have HLW : Hid (ws.length = xss.length) := Lib.hid (by have := hok.sums.1; omega)
        have HW01 := Lib.hid (fun k (hk : k < ws.length) => hok.sums.2 k hk)
        have hx10 := hok.len
        have HCL : Hid (∀ W (hW : Below w.heap.size w W), Calls Try.prog 76 #[.slice C ws.length cap'] W fun e w' => ∃ ra rc, e = .returned (.slice ra ws.length rc) ∧ OwnInts w' W.heap.size w'.heap.size (.slice ra ws.length rc) ws ∧ (0 < ws.length → ∃ g, ra = some ⟨g, 0, none⟩ ∧ w'.ownsRow W.heap.size 3 1 (.slice ra ws.length rc) ws.length (i64s ws)) ∧ Below W.heap.size W w') := Lib.hid (fun W hW => by
          by_cases hz : 0 < ws.length
          · refine (HCP.out W hW hz).mono ?_
            rintro e w' ⟨r, rfl, hr, hb⟩
            obtain ⟨g, cp, rfl⟩ : ∃ g cp, r = .slice (some ⟨g, 0, none⟩) ws.length cp := by
              rcases hr.2 with ⟨_, h2⟩ | ⟨g, cp, cur, hv, _⟩
              · omega
              · exact ⟨g, cp, hv⟩
            exact ⟨_, _, rfl, app.ints_of_owns hr, fun _ => ⟨g, rfl, hr⟩, hb⟩
          · refine (HCN.out W hW).mono ?_
            rintro e w' ⟨r, rfl, hr, hb⟩
            obtain ⟨a, c, hv⟩ : ∃ A c, r = .slice A ws.length c := by obtain ⟨A, c, hv, _⟩ := hr.ints; exact ⟨A, c, by rw [hv, len_i64s]⟩
            subst hv
            exact ⟨_, _, rfl, hr, fun h => absurd h hz, hb⟩)
        have HLS : Hid (lists 0 xss = xss) := Lib.hid (lists_zero xss)
        clear hok HCN HCP
        obtain ⟨AA, b, o, cp0, R, hv, _, _, hA, hc⟩ := H.out.rows.form
        injection hv with v1 v2 v3
        subst v1
        subst v3
        obtain ⟨c0, c1, c2, c3⟩ := scene.three_cells K0.out
        go_enter Try.func41, Try.ntmps41
        go_wp2_with fail
        refine HI.out.mono ?_
        rintro e w1 ⟨rfl, hb1⟩
        have B1 := Lib.hid (below_tr B0.out hb1)
        have K1 := Lib.hid (K0.out.below hb1)
        have R1 := Lib.hid (R0.out.below hb1)
        have hr1 := R1.out.lt
        clear c0 c1 c2 c3 hb1 B0 K0 R0
        obtain ⟨c0, c1, c2, c3⟩ := scene.three_cells K1.out
        obtain ⟨r0, r1, r2, r3⟩ := scene.three_cells R1.out
        have rf : ∀ k, w1.frozen? ⟨w.heap.size + 1, k, none⟩ = false := fun k => Joins.unfrozen_of_block R1.out k
        go_wp2_with fail
        refine (HCL.out _ B1.out).mono ?_
        rintro e w2 ⟨ra, rc, rfl, ho, hp, hb2⟩
        have B2 := Lib.hid (below_tr B1.out hb2)
        have K2 := Lib.hid (K1.out.below hb2)
        have R2 := Lib.hid (R1.out.below hb2)
        obtain ⟨m, hmm⟩ : ∃ m, w1.heap.size = m := ⟨_, rfl⟩
        rw [hmm] at ho hp hr1
        have hm2 : m ≤ w2.heap.size := by rw [← hmm]; exact hb2.size
        have O2 : Hid (OwnInts w2 m w2.heap.size (.slice ra ws.length rc) (flk xss ws t 0) ∧ (0 < ws.length → ∃ g, ra = some ⟨g, 0, none⟩ ∧ w2.ownsRow m 3 1 (.slice ra ws.length rc) ws.length (i64s (flk xss ws t 0)))) := Lib.hid (by rw [flk_zero]; exact ⟨ho, hp⟩)
        clear c0 c1 c2 c3 r0 r1 r2 r3 rf hb2 ho hp K1 B1 R1 hmm
        obtain ⟨c0, c1, c2, c3⟩ := scene.three_cells K2.out
        go_wp2_with fail
        go_loopw [7, 8, 29] (fun z7 z8 i wr => ∃ k : Nat, k ≤ xss.length ∧ i = .int .i64 k ∧ (∃ z', z7 = z') ∧ (∃ z', z8 = z') ∧ Hid (OwnInts wr m wr.heap.size (.slice ra ws.length rc) (flk xss ws t k) ∧ (0 < ws.length → ∃ g, ra = some ⟨g, 0, none⟩ ∧ wr.ownsRow m 3 1 (.slice ra ws.length rc) ws.length (i64s (flk xss ws t k)))) ∧ Hid (Below w.heap.size w wr ∧ m ≤ wr.heap.size) ∧ Hid (Blk wr w.heap.size 28 #[.int .i64 x, .slice A xss.length cap, .slice C ws.length cap']) ∧ Hid (Blk wr (w.heap.size + 1) 28 #[.int .i64 0, .slice none 0 0, .slice none 0 0])) (fun _ _ i _ => xss.length - (intOf i).toNat)
        case atStart => exact ⟨0, Nat.zero_le _, rfl, ⟨_, rfl⟩, ⟨_, rfl⟩, O2, ⟨B2.out, hm2⟩, K2, R2⟩
        case round =>
          obtain ⟨k, hk, rfl, ⟨z7, rfl⟩, ⟨z8, rfl⟩, hO, hBM, hK, hR⟩ := hrel
          have hB := Lib.hid hBM.out.1
          have hmi := hBM.out.2
          clear O2 B2 K2 R2 c0 c1 c2 c3 hm2
          obtain ⟨wi, rfl⟩ : ∃ wi : World, wi = wr := ⟨_, rfl⟩
          by_cases hlt : k < xss.length
          · have hkz : (k : Int) < (xss.length : Int) := by omega
            obtain rfl := hA (by omega)
            have hltw : k < ws.length := by have := HLW.out; omega
            have hkw : (k : Int) < (ws.length : Int) := by omega
            obtain ⟨g, rfl, hown⟩ := hO.out.2 (by omega)
            obtain ⟨g0, gi⟩ := hc k hlt
            have g0 := below_cell hB.out _ _ g0
            have HCT := Lib.hid (contains_any (R k) xss[k] t wi (gi.below hB.out))
            have hgd : xss.getD k [] = xss[k] := by simp [List.getD, hlt]
            have HC := Lib.hid hc
            clear hc hA
            by_cases hin : t ∈ xss[k]
            · rw [decide_eq_true hin] at HCT
              have HF := flk_yes xss ws hltw (hgd ▸ hin)
              have hfa := flk_at xss ws t hltw
              have Q2 := ownsRow_set hown hltw (.int .i64 (1 - ws[k]))
              rw [HF] at Q2
              have hgm : m ≤ g := (hown.lt g rfl).1
              have hgl := (hown.lt g rfl).2
              have g2 : wi.cell? ⟨g, k, none⟩ = some (.int .i64 ws[k]) := by
                obtain ⟨A3, b3, o3, cap3, hv3, _, _, hA3, hc3⟩ := hO.out.1.ints.form
                have h3 := hc3 k (by rw [len_flk]; exact hltw)
                rw [hfa] at h3
                injection hv3 with e1 e2 e3
                rw [← e1] at hA3
                have h4 := hA3 (by rw [len_flk]; omega)
                injection h4 with h4
                injection h4 with h5 h6
                rw [← h5, ← h6, Nat.zero_add] at h3
                exact h3
              have rf : ∀ q, wi.frozen? ⟨g, q, none⟩ = false := fun q => by
                obtain ⟨cc, hcc⟩ := make.own_type hown (b := g) rfl
                exact Joins.unfrozen_of_block hcc q
              have hw := Wrote.setCell (S := fun p => p.block = g) (p := (⟨g, k, none⟩ : Addr)) (Wrote.refl _ wi) rfl (.int .i64 (1 - ws[k]))
              have O3 : Hid (OwnInts (wi.setCell ⟨g, k, none⟩ (.int .i64 (1 - ws[k]))) m (wi.setCell ⟨g, k, none⟩ (.int .i64 (1 - ws[k]))).heap.size (.slice (some ⟨g, 0, none⟩) ws.length rc) (flk xss ws t (k + 1)) ∧ (0 < ws.length → ∃ g', (some ⟨g, 0, none⟩ : Option Addr) = some ⟨g', 0, none⟩ ∧ (wi.setCell ⟨g, k, none⟩ (.int .i64 (1 - ws[k]))).ownsRow m 3 1 (.slice (some ⟨g, 0, none⟩) ws.length rc) ws.length (i64s (flk xss ws t (k + 1))))) := Lib.hid ⟨app.ints_of_owns Q2, fun _ => ⟨g, rfl, Q2⟩⟩
              have B3 : Hid (Below w.heap.size w (wi.setCell ⟨g, k, none⟩ (.int .i64 (1 - ws[k]))) ∧ m ≤ (wi.setCell ⟨g, k, none⟩ (.int .i64 (1 - ws[k]))).heap.size) := Lib.hid ⟨hB.out.setCell (by show w.heap.size ≤ g; omega) _, by rw [hw.size]; exact hmi⟩
              have K3 := Lib.hid (hK.out.wrote hw (fun p hp e => by have h1 : p.block = g := hp; omega))
              have R3 := Lib.hid (hR.out.wrote hw (fun p hp e => by have h1 : p.block = g := hp; omega))
              have h01 := HW01.out k hltw
              clear hin HF hfa Q2 hown hw
              generalize ws[k] = z at *
              go_wp2_with fail
              refine HCT.out.mono ?_
              rintro e w' ⟨rfl, rfl⟩
              go_wp2_with fail
              go_roundw
              case rel => exact ⟨k + 1, by omega, by go_num, ⟨_, rfl⟩, ⟨_, rfl⟩, O3, B3, K3, R3⟩
              case measure => simp [intOf]; omega
            · rw [decide_eq_false hin] at HCT
              have HF := flk_no xss ws (e := t) (k := k) (by rw [hgd]; exact hin)
              have O3 := hO
              rw [← HF] at O3
              clear hin HF hown
              go_wp2_with fail
              refine HCT.out.mono ?_
              rintro e w' ⟨rfl, rfl⟩
              go_wp2_with fail
              go_roundw
              case rel => exact ⟨k + 1, by omega, by go_num, ⟨_, rfl⟩, ⟨_, rfl⟩, O3, hBM, hK, hR⟩
              case measure => simp [intOf]; omega
          · have hkz : ¬ (k : Int) < (xss.length : Int) := by omega
            obtain rfl : k = xss.length := by omega
            obtain ⟨c0, c1, c2, c3⟩ := scene.three_cells hK.out
            have hl0 : w.heap.size < w.heap.size + 1 := by omega
            have hBz : w.heap.size + 1 ≤ wi.heap.size := by omega
            have HF0 := Lib.hid (fun W (hW : Below wi.heap.size wi W) => HFR.out W (below_tr hB.out hW))
            clear hc hA HFR
            go_wp2_with fail
            go_region_held3 (fun w' => w'.cell? ⟨w.heap.size, 0, none⟩ = some (.int .i64 x) ∧ w'.cell? ⟨w.heap.size, 1, none⟩ = some (.slice A xss.length cap) ∧ w'.cell? ⟨w.heap.size, 2, none⟩ = some (.slice C ws.length cap') ∧ Below (w.heap.size + 1) wi w')
              ((refine heldB3 c0 c1 c2 hl0 hl0 hl0 ?_; repeat (first | (with_reducible exact Below.refl _ _) | (with_reducible assumption) | (with_reducible refine Below.setCell ?_ (by simp) _) | (with_reducible refine bB_dr ?_) | (with_reducible refine bB_tr hBz ?_ (by assumption)))))
              ((go_at_call 78; (with_reducible refine (HF0.out _ ?_).mono ?_); (repeat (first | (with_reducible exact Below.refl _ _) | (with_reducible refine below_dr ?_) | (with_reducible refine below_tr ?_ (by assumption)))); rintro e w3 ⟨u', rfl, hu', hq⟩; (obtain ⟨xa, xn, xc, rfl⟩ := hu'.rows.shape); (have R4 := Lib.hid (hR.out.below (below_tr (below_dr (Below.refl _ _)) hq))); (obtain ⟨q0, q1, q2, q3⟩ := scene.three_cells R4.out); (have rf4 : ∀ k, w3.frozen? ⟨w.heap.size + 1, k, none⟩ = false := fun k => Joins.unfrozen_of_block R4.out k)))
            have BX := Lib.hid (below_tr (below_dr (Below.refl _ _)) hq)
            have B3 := Lib.hid (below_tr hB.out BX.out)
            have O3 := Lib.hid (hO.out.1.keep BX.out)
            have U3 : Hid (OwnRows w3 wi.heap.size w3.heap.size (.slice xa xn xc) xss) := Lib.hid (by have := hu'; rw [HLS.out] at this; exact this.mono (by simp) (Nat.le_refl _))
            have WR := set3_wrote w3 (w.heap.size + 1) (.int .i64 x) (.slice xa xn xc) (.slice ra ws.length rc)
            have hmw : w.heap.size + 1 < m := hr1
            have hwi3 : wi.heap.size ≤ w3.heap.size := BX.out.size
            have B4 := Lib.hid (set3_below (.int .i64 x) (.slice xa xn xc) (.slice ra ws.length rc) (by omega : w.heap.size ≤ w.heap.size + 1) B3.out)
            have O4 := Lib.hid (O3.out.wrote WR (fun p (hp : p.block = w.heap.size + 1) => by omega))
            have U4 := Lib.hid (U3.out.wrote WR (fun p (hp : p.block = w.heap.size + 1) => by omega))
            have hsz4 : (set3 w3 (w.heap.size + 1) (.int .i64 x) (.slice xa xn xc) (.slice ra ws.length rc)).heap.size = w3.heap.size := WR.size
            have K4 := set3_same (.int .i64 x) (.slice xa xn xc) (.slice ra ws.length rc) R4.out
            obtain ⟨y0, y1, y2, y3⟩ := scene.three_cells K4
            have WX : set3 w3 (w.heap.size + 1) (.int .i64 x) (.slice xa xn xc) (.slice ra ws.length rc) = ((w3.setCell ⟨w.heap.size + 1, 0, none⟩ (.int .i64 x)).setCell ⟨w.heap.size + 1, 1, none⟩ (.slice xa xn xc)).setCell ⟨w.heap.size + 1, 2, none⟩ (.slice ra ws.length rc) := rfl
            rw [← WX]
            generalize set3 w3 (w.heap.size + 1) (.int .i64 x) (.slice xa xn xc) (.slice ra ws.length rc) = w4 at *
            clear WX WR K4 q0 q1 q2 q3 c0 c1 c2 c3
            go_wp2_with fail
            refine bodyPost_ret (v := .tuple #[.agg #[.int .i64 x, .slice xa xn xc, .slice ra ws.length rc], .bool true]) (by simp [results, Try.results41, go_sem, y0, y1, y2]) rfl ⟨_, _, rfl, ⟨wi.heap.size, ?_, ?_, .inl ⟨?_, ?_⟩⟩, B4.out⟩
            · omega
            · omega
            · exact O4.out.mono (by omega) (Nat.le_refl _)
            · exact U4.out.mono (Nat.le_refl _) (by omega)
      · have d1 : decide (x ≤ t) = true := by simp; omega
        rw [flipR_no (fun h => t1 h.2.2)]
        unfold none_
        clear hok t1
        obtain ⟨c0, c1, c2, c3⟩ := scene.three_cells K0.out
        go_enter Try.func41, Try.ntmps41
        go_wp2_with fail
        refine HI.out.mono ?_
        rintro e w1 ⟨rfl, hb1⟩
        have B1 := Lib.hid (below_tr B0.out hb1)
        have K1 := Lib.hid (K0.out.below hb1)
        have R1 := Lib.hid (R0.out.below hb1)
        have hr1 := R1.out.lt
        clear c0 c1 c2 c3 hb1 B0 K0 R0
        obtain ⟨c0, c1, c2, c3⟩ := scene.three_cells K1.out
        obtain ⟨r0, r1, r2, r3⟩ := scene.three_cells R1.out
        have rf : ∀ k, w1.frozen? ⟨w.heap.size + 1, k, none⟩ = false := fun k => Joins.unfrozen_of_block R1.out k
        go_wp2_with fail
        refine bodyPost_ret (v := .tuple #[.agg #[.int .i64 0, .slice none 0 0, .slice none 0 0], .bool false]) (by simp [results, Try.results41, go_sem, r0, r1, r2]) rfl ⟨_, _, rfl, og_nil _ _ _ (by first | exact B1.out.size | (have := B1.out.size; simp [World.setCell]; omega)), ?_⟩
        repeat (first | (with_reducible exact B1.out) | (with_reducible refine Below.setCell ?_ (by simp) _))
    · have d0 : decide (t < 0) = true := by simp; omega
      rw [flipR_no (fun h => t0 h.2.1)]
      unfold none_
      clear hok t0
      obtain ⟨c0, c1, c2, c3⟩ := scene.three_cells K0.out
      go_enter Try.func41, Try.ntmps41
      go_wp2_with fail
      refine HI.out.mono ?_
      rintro e w1 ⟨rfl, hb1⟩
      have B1 := Lib.hid (below_tr B0.out hb1)
      have K1 := Lib.hid (K0.out.below hb1)
      have R1 := Lib.hid (R0.out.below hb1)
      have hr1 := R1.out.lt
      clear c0 c1 c2 c3 hb1 B0 K0 R0
      obtain ⟨c0, c1, c2, c3⟩ := scene.three_cells K1.out
      obtain ⟨r0, r1, r2, r3⟩ := scene.three_cells R1.out
      have rf : ∀ k, w1.frozen? ⟨w.heap.size + 1, k, none⟩ = false := fun k => Joins.unfrozen_of_block R1.out k
      go_wp2_with fail
      refine bodyPost_ret (v := .tuple #[.agg #[.int .i64 0, .slice none 0 0, .slice none 0 0], .bool false]) (by simp [results, Try.results41, go_sem, r0, r1, r2]) rfl ⟨_, _, rfl, og_nil _ _ _ (by first | exact B1.out.size | (have := B1.out.size; simp [World.setCell]; omega)), ?_⟩
      repeat (first | (with_reducible exact B1.out) | (with_reducible refine Below.setCell ?_ (by simp) _))
  · have HI := HI
    rw [sceneB_no hok] at HI
    rw [flipR_no (fun h => hok h.1)]
    unfold none_
    clear hok
    obtain ⟨c0, c1, c2, c3⟩ := scene.three_cells K0.out
    go_enter Try.func41, Try.ntmps41
    go_wp2_with fail
    refine HI.out.mono ?_
    rintro e w1 ⟨rfl, hb1⟩
    have B1 := Lib.hid (below_tr B0.out hb1)
    have K1 := Lib.hid (K0.out.below hb1)
    have R1 := Lib.hid (R0.out.below hb1)
    have hr1 := R1.out.lt
    clear c0 c1 c2 c3 hb1 B0 K0 R0
    obtain ⟨c0, c1, c2, c3⟩ := scene.three_cells K1.out
    obtain ⟨r0, r1, r2, r3⟩ := scene.three_cells R1.out
    have rf : ∀ k, w1.frozen? ⟨w.heap.size + 1, k, none⟩ = false := fun k => Joins.unfrozen_of_block R1.out k
    go_wp2_with fail
    refine bodyPost_ret (v := .tuple #[.agg #[.int .i64 0, .slice none 0 0, .slice none 0 0], .bool false]) (by simp [results, Try.results41, go_sem, r0, r1, r2]) rfl ⟨_, _, rfl, og_nil _ _ _ (by first | exact B1.out.size | (have := B1.out.size; simp [World.setCell]; omega)), ?_⟩
    repeat (first | (with_reducible exact B1.out) | (with_reducible refine Below.setCell ?_ (by simp) _))


end Go.Proofs.Ytkikdecepdbbnaa.flf
