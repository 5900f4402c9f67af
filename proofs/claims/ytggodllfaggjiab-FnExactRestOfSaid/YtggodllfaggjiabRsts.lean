/- RestOf of the model. -/
import Derived.Test.YtggodllfaggjiabRstm
import Derived.Test.YtggodllfaggjiabScalec2
import Derived.Test.YtggodllfaggjiabBuilt3
import Derived.Test.YtggodllfaggjiabEqm
import Derived.Test.YtggodllfaggjiabTwo
namespace Go.Proofs.Ytggodllfaggjiab.rsto
open Go.RowKit Go.Deep Go.Proofs.Ytggodllfaggjiab.base
open Go.Proofs.Ytggodllfaggjiab.rws (total)
open Go.Proofs.Ytggodllfaggjiab.val (okBox okSizes)
open Go.Proofs.Ytggodllfaggjiab.row (nn nn_bd)
open Go.Proofs.Ytggodllfaggjiab.two (qt qtB qtB_yes qtB_no)
open Go.Proofs.Ytggodllfaggjiab.part (pk ps share pk_lt ps_bd)
open Go.Proofs.Ytggodllfaggjiab.built2 (Apart)
open Go.Proofs.Ytggodllfaggjiab.built3 (Ap)

/-- the rows before r made less, and of row r what is before c -/
def H (k : Nat) (s : Int) (xss : List (List Int)) (r c q j : Nat) : Int := nn xss q j * 2 - if q < r ∨ (q = r ∧ j < c) then eqs.N k q j * s else 0
theorem H_start {wh : Int} {xss : List (List Int)} (h : okBox 2 2 wh xss) (k : Nat) (s : Int) {r : Nat} (hr : r < 4) : scale.D xss 2 r = make.quad (H k s xss 0 0) r := by
  have hl : xss.length = 4 := by have := h.2.2.1; omega
  obtain ⟨h1, _⟩ := row.row_ok h (r := r) (by omega)
  unfold scale.D
  have e : ∀ j, H k s xss 0 0 r j = nn xss r j * 2 := fun j => by unfold H; simp
  unfold make.quad
  rw [e, e, e, e]
  unfold nn
  generalize xss.getD r [] = row at h1
  match row, h1 with
  | [a, b, c, d], _ => rfl
theorem H_row (k : Nat) (s : Int) (xss : List (List Int)) (r : Nat) : make.quad (H k s xss r 4) = make.quad (H k s xss (r + 1) 0) := by
  funext q
  have e : ∀ j, j < 4 → H k s xss r 4 q j = H k s xss (r + 1) 0 q j := fun j hj => by
    unfold H
    have : (q < r ∨ q = r ∧ j < 4) ↔ (q < r + 1 ∨ q = r + 1 ∧ j < 0) := by omega
    simp only [this]
  unfold make.quad
  rw [e 0 (by omega), e 1 (by omega), e 2 (by omega), e 3 (by omega)]
theorem H_end (k : Nat) (s : Int) (xss : List (List Int)) : (List.range 4).map (make.quad (H k s xss 4 0)) = make.rowsOf (fun r c => nn xss r c * 2 - eqs.N k r c * s) 4 := by
  unfold make.rowsOf
  refine List.map_congr_left (fun r hr => ?_)
  simp at hr
  simp [make.quad, H, hr]
theorem H_at (k : Nat) (s : Int) (xss : List (List Int)) (r : Nat) {c : Nat} (hc : c < 4) : (make.quad (H k s xss r c) r)[c]'(by simpa [make.quad] using hc) = nn xss r c * 2 := by
  rcases (by omega : c = 0 ∨ c = 1 ∨ c = 2 ∨ c = 3) with rfl | rfl | rfl | rfl <;> simp [make.quad, H]
theorem H_set (k : Nat) (s : Int) (xss : List (List Int)) (r : Nat) {c : Nat} (hc : c < 4) : make.quad (H k s xss r (c + 1)) r = (make.quad (H k s xss r c) r).set c (nn xss r c * 2 - eqs.N k r c * s) := by
  rcases (by omega : c = 0 ∨ c = 1 ∨ c = 2 ∨ c = 3) with rfl | rfl | rfl | rfl <;> simp [make.quad, H]
theorem H_other (k : Nat) (s : Int) (xss : List (List Int)) {r q c : Nat} (h : q ≠ r) : make.quad (H k s xss r (c + 1)) q = make.quad (H k s xss r c) q := by
  simp [make.quad, H, h]
theorem mulN' {n s : Int} (h : n = 0 ∨ n = 1) (hs : 0 ≤ s ∧ s ≤ 4000) : 0 ≤ n * s ∧ n * s ≤ 4000 := by
  rcases h with rfl | rfl
  · rw [Int.zero_mul]; omega
  · rw [Int.one_mul]; exact hs
theorem sumShape {w : World} {v : Value} {k : Nat} (h : IRows w v (make.rowsOf (eqs.N k) 4)) : ∃ b o cap, v = .slice (some ⟨b, o, none⟩) 4 cap := by
  obtain ⟨A, b, o, cap, R, rfl, _, _, hA, hc⟩ := h.form
  have hl : (make.rowsOf (eqs.N k) 4).length = 4 := make.len_rowsOf _ _
  obtain rfl := hA (by omega)
  exact ⟨b, o, cap, by rw [hl]⟩
/-- the cells of the four rows of the sum -/
theorem sumRow {w : World} {b o cap k : Nat} (h : IRows w (.slice (some ⟨b, o, none⟩) 4 cap) (make.rowsOf (eqs.N k) 4)) (r : Nat) (hr : r < 4) : ∃ rb ro rc, w.cell? ⟨b, o + r, none⟩ = some (.slice (some ⟨rb, ro, none⟩) 4 rc) ∧ ∀ c, c < 4 → w.cell? ⟨rb, ro + c, none⟩ = some (.int .i64 (eqs.N k r c)) := by
  obtain ⟨A, b', o', cap', R, hv, _, _, hA, hc⟩ := h.form
  have hl : (make.rowsOf (eqs.N k) 4).length = 4 := make.len_rowsOf _ _
  have hA' := hA (by omega)
  injection hv with e1 _ _
  rw [hA'] at e1
  injection e1 with e1
  injection e1 with e1 e2
  subst e1; subst e2
  obtain ⟨g0, g1⟩ := hc r (by omega)
  obtain ⟨A2, b2, o2, c2, hv2, _, _, hA2, hcc⟩ := g1.form
  have hl2 : ((make.rowsOf (eqs.N k) 4)[r]'(by omega)).length = 4 := by simp [make.rowsOf, make.quad]
  have hA3 := hA2 (by omega)
  rw [hl2, hA3] at hv2
  refine ⟨b2, o2, c2, by rw [g0, hv2], fun c hc' => ?_⟩
  rw [hcc c (by omega)]
  congr 2
  simp only [make.rowsOf, List.getElem_map, List.getElem_range, make.quad]
  rcases (by omega : c = 0 ∨ c = 1 ∨ c = 2 ∨ c = 3) with rfl | rfl | rfl | rfl <;> rfl
theorem ap_of_apart {w : World} {B k : Nat} {u : Value} {D : Nat → List Int} (h : Apart w B u k D) : Ap w B w.heap.size u k D := by
  obtain ⟨vals, h1, h2, h3⟩ := h
  exact ⟨vals, h1, fun r q hq => ⟨h2 r q hq, fun b hb => ((h2 r q hq).lt b hb).2⟩, h3⟩


set_option maxRecDepth 100000 in
set_option maxHeartbeats 8000000 in
theorem spec_any (x y wh : Int) (v : Value) (xss : List (List Int)) (w : World) (h : IRows w v xss) (hn : total xss ≤ 1048576) :
    Calls Try.prog 39 #[.agg #[.int .i64 x, .int .i64 y, .int .i64 wh, v]] w fun e w' => ∃ r, e = .returned (.tuple #[.agg #[.int .i64 (res x y wh xss).x, .int .i64 (res x y wh xss).y, .int .i64 (res x y wh xss).wh, r], .bool (res x y wh xss).ok]) ∧ IRows w' r (res x y wh xss).rows ∧ Below w.heap.size w w' := by
  obtain ⟨va, vn, vc, rfl⟩ := h.shape
  have HV := Lib.hid h
  have B0 := Lib.hid (below_al (below_al (Below.refl w.heap.size w) (.cells #[.int .i64 x, .int .i64 y, .int .i64 wh, .slice va vn vc] 54)) (.cells #[.int .i64 0, .int .i64 0, .int .i64 0, .slice none 0 0] 54))
  have K0 := Lib.hid ((Blk.new w 54 #[.int .i64 x, .int .i64 y, .int .i64 wh, .slice va vn vc]).alloc (.cells #[.int .i64 0, .int .i64 0, .int .i64 0, .slice none 0 0] 54))
  have R0 : Hid (Blk ((w.alloc (.cells #[.int .i64 x, .int .i64 y, .int .i64 wh, .slice va vn vc] 54)).alloc (.cells #[.int .i64 0, .int .i64 0, .int .i64 0, .slice none 0 0] 54)) (w.heap.size + 1) 54 #[.int .i64 0, .int .i64 0, .int .i64 0, .slice none 0 0]) := Lib.hid (by
    have := Blk.new (w.alloc (.cells #[.int .i64 x, .int .i64 y, .int .i64 wh, .slice va vn vc] 54)) 54 #[.int .i64 0, .int .i64 0, .int .i64 0, .slice none 0 0]
    simpa using this)
  have hq := two.l6quiet x y wh _ xss _ (h.below B0.out) hn
  clear h
  by_cases ht : qt x y wh xss
  · rw [qtB_yes ht] at hq
    have HQ := Lib.hid hq
    have HT := Lib.hid ht
    obtain ⟨⟨hok, rfl, rfl⟩, _⟩ := ht
    have HOK := Lib.hid hok
    have hl4 : xss.length = 4 := by have := hok.2.2.1; omega
    have hsb := share_bd hok
    have hwh := hok.2.1
    have HPA := Lib.hid (fun (W : World) (hb : Below w.heap.size w W) => part.l6part wh _ xss W (HV.out.below hb) HOK.out)
    have HTI := Lib.hid (fun (W : World) (hb : Below w.heap.size w W) => scale.l2times2 2 2 wh _ xss 2 W (HV.out.below hb) HOK.out (by omega) (by omega))
    obtain ⟨s, hs⟩ : ∃ s, share (ps xss) wh = s := ⟨_, rfl⟩
    obtain ⟨k, hk⟩ : ∃ k, pk xss = k := ⟨_, rfl⟩
    have hk8 : k < 8 := by rw [← hk]; exact pk_lt xss
    have HME : Hid (make.rowsOf (fun r c => nn xss r c * 2 - eqs.N k r c * s) 4 = M wh xss) := Lib.hid (by unfold M; congr 1; funext r c; unfold G; rw [hs, hk])
    have HWE : Hid (wh * 2 - 2 * s = W wh xss) := Lib.hid (by unfold W; rw [hs]; omega)
    rw [hs] at hsb
    simp only [hs, hk] at HPA
    rw [hl4] at HTI
    have HK8 := Lib.hid hk8
    have HS := Lib.hid hsb
    obtain ⟨hw1, hw2⟩ := hwh
    obtain ⟨hs1, hs2⟩ := hsb
    have e1 : IntKind.i64.wrap (2 * s) = 2 * s := IntWalk.i64_in _ (by omega)
    have e2 : IntKind.i64.wrap (wh * 2 - 2 * s) = wh * 2 - 2 * s := IntWalk.i64_in _ (by omega)
    clear hq hok hs hk hk8 hl4
    go_enter Try.func39, Try.ntmps39
    go_wp2_with fail
    refine HQ.out.mono ?_
    rintro e w1 ⟨rfl, hb⟩
    have B1 := Lib.hid (below_tr B0.out hb)
    have K1 := Lib.hid (K0.out.below hb)
    have R1 := Lib.hid (R0.out.below hb)
    obtain ⟨c0, c1, c2, c3, c4⟩ := four_cells K1.out
    clear hb HQ B0 K0 R0
    go_wp2_with fail
    refine (HPA.out _ B1.out).mono ?_
    rintro e w2 ⟨rfl, hb⟩
    have B2 := Lib.hid (below_tr B1.out hb)
    have K2 := Lib.hid (K1.out.below hb)
    have R2 := Lib.hid (R1.out.below hb)
    clear c0 c1 c2 c3 c4 hb HPA B1 K1 R1
    obtain ⟨c0, c1, c2, c3, c4⟩ := four_cells K2.out
    go_wp2_with fail
    refine (HTI.out _ B2.out).mono ?_
    rintro e w3 ⟨u, rfl, ha, hb⟩
    clear c0 c1 c2 c3 c4
    have hsz := B2.out.size
    have ha2 := ap_of_apart ((ha.mono (B' := w.heap.size + 1) (by omega)).congr (fun r hr => H_start HOK.out k s hr))
    obtain ⟨ub, ug, uc, uc', rfl, hub, _⟩ := ha2.cell (r := 0) (c := 0) (by omega) (by simp [make.quad])
    have A3 := Lib.hid ha2
    have B3 := Lib.hid (below_tr B2.out hb)
    have R3 := Lib.hid (R2.out.below hb)
    clear ha ha2 hb HTI B2 R2 K2 hsz
    go_wp2_with fail
    refine (eqm.l6sum k HK8.out _).mono ?_
    rintro e w4 ⟨su, rfl, hu, hb⟩
    obtain ⟨sb, so, sc, rfl⟩ := sumShape hu.rows
    have Z3 := Lib.hid hb.size
    have AA := Lib.hid ((A3.out.below hb).below (below_al (below_al (Below.refl _ _) (.cells #[.int .i64 2, .int .i64 2, .int .i64 (wh * 2 - 2 * s), .slice (some ⟨ub, 0, none⟩) 4 uc] 54)) (.cells #[.int .i64 2, .int .i64 2, .int .i64 2, .slice (some ⟨sb, so, none⟩) 4 sc] 54)))
    have BB := Lib.hid (below_al (below_al (below_tr B3.out hb) (.cells #[.int .i64 2, .int .i64 2, .int .i64 (wh * 2 - 2 * s), .slice (some ⟨ub, 0, none⟩) 4 uc] 54)) (.cells #[.int .i64 2, .int .i64 2, .int .i64 2, .slice (some ⟨sb, so, none⟩) 4 sc] 54))
    have RR := Lib.hid (((R3.out.below hb).alloc (.cells #[.int .i64 2, .int .i64 2, .int .i64 (wh * 2 - 2 * s), .slice (some ⟨ub, 0, none⟩) 4 uc] 54)).alloc (.cells #[.int .i64 2, .int .i64 2, .int .i64 2, .slice (some ⟨sb, so, none⟩) 4 sc] 54))
    have UU := Lib.hid (hu.keep (below_al (below_al (Below.refl _ _) (.cells #[.int .i64 2, .int .i64 2, .int .i64 (wh * 2 - 2 * s), .slice (some ⟨ub, 0, none⟩) 4 uc] 54)) (.cells #[.int .i64 2, .int .i64 2, .int .i64 2, .slice (some ⟨sb, so, none⟩) 4 sc] 54)))
    have KK := Lib.hid ((Blk.new w4 54 #[.int .i64 2, .int .i64 2, .int .i64 (wh * 2 - 2 * s), .slice (some ⟨ub, 0, none⟩) 4 uc]).alloc (.cells #[.int .i64 2, .int .i64 2, .int .i64 2, .slice (some ⟨sb, so, none⟩) 4 sc] 54))
    have JJ : Hid (Blk ((w4.alloc (.cells #[.int .i64 2, .int .i64 2, .int .i64 (wh * 2 - 2 * s), .slice (some ⟨ub, 0, none⟩) 4 uc] 54)).alloc (.cells #[.int .i64 2, .int .i64 2, .int .i64 2, .slice (some ⟨sb, so, none⟩) 4 sc] 54)) (w4.heap.size + 1) 54 #[.int .i64 2, .int .i64 2, .int .i64 2, .slice (some ⟨sb, so, none⟩) 4 sc]) := Lib.hid (by
      have := Blk.new (w4.alloc (.cells #[.int .i64 2, .int .i64 2, .int .i64 (wh * 2 - 2 * s), .slice (some ⟨ub, 0, none⟩) 4 uc] 54)) 54 #[.int .i64 2, .int .i64 2, .int .i64 2, .slice (some ⟨sb, so, none⟩) 4 sc]
      simpa using this)
    have ZW := Lib.hid B3.out.size
    clear hu hb A3 B3 R3
    go_wp2_with fail
    clear e1 e2
    go_loopw [8, 9] (fun i p10 wr => ∃ r : Nat, r ≤ 4 ∧ i = .int .i64 r ∧ (∃ z, p10 = z) ∧ Hid (Ap wr (w.heap.size + 1) w3.heap.size (.slice (some ⟨ub, 0, none⟩) 4 uc) 4 (make.quad (H k s xss r 0))) ∧ Hid (Blk wr w4.heap.size 54 #[.int .i64 2, .int .i64 2, .int .i64 (wh * 2 - 2 * s), .slice (some ⟨ub, 0, none⟩) 4 uc]) ∧ Hid (Blk wr (w4.heap.size + 1) 54 #[.int .i64 2, .int .i64 2, .int .i64 2, .slice (some ⟨sb, so, none⟩) 4 sc]) ∧ Hid (OwnRows wr (w3.heap.size + 1) w4.heap.size (.slice (some ⟨sb, so, none⟩) 4 sc) (make.rowsOf (eqs.N k) 4)) ∧ Hid (Blk wr (w.heap.size + 1) 54 #[.int .i64 0, .int .i64 0, .int .i64 0, .slice none 0 0]) ∧ Hid (Below w.heap.size w wr)) (fun i _ _ => 4 - (intOf i).toNat)
    case atStart => exact ⟨0, by omega, rfl, ⟨_, rfl⟩, AA, KK, JJ, UU, RR, BB⟩
    case round =>
      obtain ⟨r, hr, rfl, ⟨y10, rfl⟩, hA, hK, hJ, hU, hR, hB⟩ := hrel
      clear AA KK JJ UU RR BB
      obtain ⟨wo, rfl⟩ : ∃ wo : World, wo = wr := ⟨_, rfl⟩
      obtain ⟨p0, p1, p2, p3, p4⟩ := four_cells hK.out
      by_cases hlt : r < 4
      · have hkz : (r : Int) < 4 := by omega
        go_wp2_with fail
        clear p0 p1 p2 p3 p4
        go_loopw [9] (fun j wr => ∃ c : Nat, c ≤ 4 ∧ j = .int .i64 c ∧ Hid (Ap wr (w.heap.size + 1) w3.heap.size (.slice (some ⟨ub, 0, none⟩) 4 uc) 4 (make.quad (H k s xss r c))) ∧ Hid (Blk wr w4.heap.size 54 #[.int .i64 2, .int .i64 2, .int .i64 (wh * 2 - 2 * s), .slice (some ⟨ub, 0, none⟩) 4 uc]) ∧ Hid (Blk wr (w4.heap.size + 1) 54 #[.int .i64 2, .int .i64 2, .int .i64 2, .slice (some ⟨sb, so, none⟩) 4 sc]) ∧ Hid (OwnRows wr (w3.heap.size + 1) w4.heap.size (.slice (some ⟨sb, so, none⟩) 4 sc) (make.rowsOf (eqs.N k) 4)) ∧ Hid (Blk wr (w.heap.size + 1) 54 #[.int .i64 0, .int .i64 0, .int .i64 0, .slice none 0 0]) ∧ Hid (Below w.heap.size w wr)) (fun j _ => 4 - (intOf j).toNat)
        case atStart => exact ⟨0, by omega, rfl, hA, hK, hJ, hU, hR, hB⟩
        case round =>
          clear hA hK hJ hU hR hB
          obtain ⟨c, hc, rfl, hA, hK, hJ, hU, hR, hB⟩ := hrel
          obtain ⟨wi, rfl⟩ : ∃ wi : World, wi = wr := ⟨_, rfl⟩
          by_cases hlc : c < 4
          · have hkc : (c : Int) < 4 := by omega
            obtain ⟨p0, p1, p2, p3, p4⟩ := four_cells hK.out
            obtain ⟨q0, q1, q2, q3, q4⟩ := four_cells hJ.out
            obtain ⟨xb, xo, xc, x0, x1⟩ := sumRow hU.out.rows r hlt
            have x1 := x1 c hlc
            obtain ⟨b', g, cp, cp', hu', hb', ⟨cs, hcs⟩, t1, hg, hgT, t2, t3, t4⟩ := hA.out.cell (r := r) (c := c) hlt (by simpa [make.quad] using hlc)
            injection hu' with h1 h2 h3
            injection h1 with h1
            injection h1 with h1 _ _
            subst h1
            clear h2 h3
            rw [show (make.quad (H k s xss r c) r).length = 4 from rfl] at t1
            rw [H_at k s xss r hlc] at t2
            have A4 := t4 (nn xss r c * 2 - eqs.N k r c * s) (make.quad (H k s xss r (c + 1))) (H_set k s xss r hlc) (fun q hq => H_other k s xss hq)
            have A5 := Lib.hid (A4.below (below_dr (Below.refl _ _)))
            have hbd := mulN' (N_bd k r c) HS.out
            have hnb := nn_bd HOK.out (r := r) (k := c) (by have := HOK.out.2.2.1; omega) hlc
            have k1 : IntKind.i64.wrap (s * eqs.N k r c) = eqs.N k r c * s := by rw [Int.mul_comm]; generalize eqs.N k r c * s = z at hbd; exact IntWalk.i64_in _ (by omega)
            have k2 : IntKind.i64.wrap (nn xss r c * 2 - eqs.N k r c * s) = nn xss r c * 2 - eqs.N k r c * s := by generalize eqs.N k r c * s = z at hbd; exact IntWalk.i64_in _ (by omega)
            have k3 : wrap64 (s * eqs.N k r c) = eqs.N k r c * s := by rw [Int.mul_comm]; generalize eqs.N k r c * s = z at hbd; exact IntWalk.wrap64_in _ (by omega)
            have k4 : wrap64 (nn xss r c * 2 - eqs.N k r c * s) = nn xss r c * 2 - eqs.N k r c * s := by generalize eqs.N k r c * s = z at hbd; exact IntWalk.wrap64_in _ (by omega)
            have hw := Wrote.drew (Wrote.setCell (S := fun p => p.block = g) (p := (⟨g, c, none⟩ : Addr)) (Wrote.refl _ wi) rfl (.int .i64 (nn xss r c * 2 - eqs.N k r c * s)))
            have K5 := Lib.hid (hK.out.wrote hw (fun p hp e => by have h1 : p.block = g := hp; have := Z3.out; omega))
            have J5 := Lib.hid (hJ.out.wrote hw (fun p hp e => by have h1 : p.block = g := hp; have := Z3.out; omega))
            have U5 := Lib.hid (hU.out.wrote hw (fun p hp => by have h1 : p.block = g := hp; omega))
            have R5 := Lib.hid (hR.out.wrote hw (fun p hp e => by have h1 : p.block = g := hp; have h5 : g = w.heap.size + 1 := h1.symm.trans e; subst h5; exact absurd (make.blk_type hcs hR.out) (by decide)))
            have B5 := Lib.hid (below_dr (hB.out.setCell (p := (⟨g, c, none⟩ : Addr)) (by show w.heap.size ≤ g; omega) (.int .i64 (nn xss r c * 2 - eqs.N k r c * s))))
            clear t4 A4 hw hbd hnb hcs hA hK hJ hU hR hB p0 p1 p2 p4 q0 q1 q2 q4 hg hgT hb'
            generalize eqs.N k r c * s = z at *
            generalize nn xss r c * 2 = y at *
            go_wp2_with fail
            go_region
            clear t1 t2 t3 k1 k2 k3 k4 p3 q3 x0 x1
            go_wp2_with fail
            go_roundw
            case rel => exact ⟨c + 1, by omega, by go_num, A5, K5, J5, U5, R5, B5⟩
            case measure => simp [intOf]; omega
          · have hkc : ¬ (c : Int) < 4 := by omega
            obtain rfl : c = 4 := by omega
            have A6 := hA
            rw [H_row] at A6
            clear hA
            go_wp2_with fail
            go_roundw
            case rel => exact ⟨r + 1, by omega, by go_num, ⟨_, rfl⟩, A6, hK, hJ, hU, hR, hB⟩
            case measure => simp [intOf]; omega
      · have hkz : ¬ (r : Int) < 4 := by omega
        obtain rfl : r = 4 := by omega
        have hro := hA.out.rows
        rw [H_end, HME.out] at hro
        have HRO := Lib.hid hro
        clear hro
        by_cases hw : okBox 2 2 (wh * 2 - 2 * s) (M wh xss)
        · have HKE := Lib.hid (make.kept_yes 2 2 (wh * 2 - 2 * s) _ (M wh xss) wo HRO.out (make.total_rowsOf _ _ (by omega)) hw)
          have HE := Lib.hid (res_yes HT.out (HWE.out ▸ hw))
          clear hw
          go_wp2_with fail
          refine HKE.out.mono ?_
          rintro e w5 ⟨rfl, hb⟩
          have A7 := Lib.hid (hA.out.below hb)
          have R7 := Lib.hid (hR.out.below hb)
          have B7 := Lib.hid (below_tr hB.out hb)
          obtain ⟨r0, r1, r2, r3, r4⟩ := four_cells R7.out
          have rf := fun k => Joins.unfrozen_of_block R7.out k
          clear hb HKE hA hR hB p0 p1 p2 p3 p4
          go_wp2_with fail
          refine bodyPost_ret (v := .tuple #[.agg #[.int .i64 2, .int .i64 2, .int .i64 (wh * 2 - 2 * s), .slice (some ⟨ub, 0, none⟩) 4 uc], .bool true]) (by simp [results, Try.results39, go_sem, r0, r1, r2, r3]) rfl ?_
          rw [HE.out]
          refine ⟨_, by rw [← HWE.out], ?_, ?_⟩
          · show IRows _ _ (M wh xss)
            rw [← HME.out, ← H_end]
            refine (A7.out.box (bb := w.heap.size + 1) R7.out ?_).rows
            repeat (first | exact Wrote.refl _ _ | refine Wrote.setCell ?_ (by simp) _)
          · repeat (refine Below.setCell ?_ (by simp <;> omega) _)
            exact B7.out
        · have HKE := Lib.hid (make.kept_no 2 2 (wh * 2 - 2 * s) _ (M wh xss) wo HRO.out (make.total_rowsOf _ _ (by omega)) hw)
          have HE := Lib.hid (res_no HT.out (HWE.out ▸ hw))
          clear hw
          go_wp2_with fail
          refine HKE.out.mono ?_
          rintro e w5 ⟨rfl, hb⟩
          have R7 := Lib.hid (hR.out.below hb)
          have B7 := Lib.hid (below_tr hB.out hb)
          obtain ⟨r0, r1, r2, r3, r4⟩ := four_cells R7.out
          have rf := fun k => Joins.unfrozen_of_block R7.out k
          clear hb HKE hA hR hB p0 p1 p2 p3 p4
          go_wp2_with fail
          refine bodyPost_ret (v := .tuple #[.agg #[.int .i64 0, .int .i64 0, .int .i64 0, .slice none 0 0], .bool false]) (by simp [results, Try.results39, go_sem, r0, r1, r2, r3]) rfl ?_
          rw [HE.out]
          refine ⟨_, rfl, IRows.nil _, ?_⟩
          repeat (refine Below.setCell ?_ (by simp <;> omega) _)
          exact B7.out
  · rw [qtB_no ht] at hq
    rw [res_out ht]
    have HQ := Lib.hid hq
    clear hq ht
    have zx : make.Res.zero.x = 0 := rfl
    have zy : make.Res.zero.y = 0 := rfl
    have zw : make.Res.zero.wh = 0 := rfl
    have zo : make.Res.zero.ok = false := rfl
    go_enter Try.func39, Try.ntmps39
    go_wp2_with fail
    refine HQ.out.mono ?_
    rintro e w1 ⟨rfl, hb⟩
    have B1 := Lib.hid (below_tr B0.out hb)
    have R1 := Lib.hid (R0.out.below hb)
    obtain ⟨r0, r1, r2, r3, r4⟩ := four_cells R1.out
    have rf := fun k => Joins.unfrozen_of_block R1.out k
    clear hb HQ B0 K0 R0
    go_wp2_with fail
    refine bodyPost_ret (v := .tuple #[.agg #[.int .i64 0, .int .i64 0, .int .i64 0, .slice none 0 0], .bool false]) (by simp [results, Try.results39, go_sem, r0, r1, r2, r3]) rfl ⟨_, rfl, IRows.nil _, ?_⟩
    repeat (first | (with_reducible exact B1.out) | (with_reducible refine Below.setCell ?_ (by simp) _))

end Go.Proofs.Ytggodllfaggjiab.rsto
