/- NoisySum of the model. -/
import Derived.Test.YtkikdecepdbbnabNsi
import Derived.Test.YtkikdecepdbbnabScalec2
namespace Go.Proofs.Ytkikdecepdbbnab.nsi
open Go.RowKit Go.Deep Go.Proofs.Ytkikdecepdbbnab.base
open Go.Proofs.Ytkikdecepdbbnab.rws (total)
open Go.Proofs.Ytkikdecepdbbnab.val (okBox okSizes)
open Go.Proofs.Ytkikdecepdbbnab.built2 (Apart)

def N0 (k : Nat) (s : Int) (q j : Nat) : Int := eqs.N k q j * s
/-- the rows before r with the noise, and of row r what is before c -/
def G (k : Nat) (s z : Int) (r c q j : Nat) : Int := N0 k s q j + if q < r ∨ (q = r ∧ j < c) then z else 0
def T (k : Nat) (s z : Int) : List (List Int) := make.rowsOf (fun q j => N0 k s q j + z) 4

theorem rows_congr {N N' : Nat → Nat → Int} (h : ∀ r, r < 4 → ∀ j, j < 4 → N r j = N' r j) : make.rowsOf N 4 = make.rowsOf N' 4 := by
  unfold make.rowsOf
  refine List.map_congr_left (fun r hr => ?_)
  simp at hr
  unfold make.quad
  rw [h r hr 0 (by omega), h r hr 1 (by omega), h r hr 2 (by omega), h r hr 3 (by omega)]
theorem nn4 {N : Nat → Nat → Int} {r j : Nat} (hr : r < 4) (hj : j < 4) : row.nn (make.rowsOf N 4) r j = N r j := by
  unfold row.nn
  rw [show (make.rowsOf N 4).getD r [] = make.quad N r by simp [make.rowsOf, List.getD, hr]]
  rcases (by omega : j = 0 ∨ j = 1 ∨ j = 2 ∨ j = 3) with rfl | rfl | rfl | rfl <;> rfl
theorem eq_bd (k r j : Nat) : 0 ≤ eqs.N k r j ∧ eqs.N k r j ≤ 1 := by
  have h := eqs.odd_lt k r
  unfold eqs.N; split <;> omega
theorem N0_bd (k r j : Nat) {s : Int} (h0 : 0 ≤ s) (_ : s ≤ 1000) : 0 ≤ N0 k s r j ∧ N0 k s r j ≤ s := by
  obtain ⟨a, b⟩ := eq_bd k r j
  refine ⟨Int.mul_nonneg a h0, ?_⟩
  have := Int.mul_le_mul_of_nonneg_right b h0
  unfold N0; omega
theorem res_main {n : Nat} {s z : Int} (hk : n < 8) (hs : 0 ≤ s ∧ s ≤ 1000) (hz : 0 ≤ z ∧ z ≤ 1000) (h0 : ¬ s + z = 0) (hw : 2 * s + 4 * z ≤ 1000) : res n s z = ⟨2, 2, 2 * s + 4 * z, T n s z, true⟩ := by
  by_cases z0 : z = 0
  · subst z0
    rw [res_sum hk, scale.res_yes (show scale.all 2 2 2 (mws.sr n) s from ⟨eqm.ok n, by omega, by omega, by omega⟩)]
    have e : make.rowsOf (scale.N (mws.sr n) s) 4 = T n s 0 := rows_congr (fun r hr j hj => by
      show row.nn (make.rowsOf (eqs.N n) 4) r j * s = _
      rw [nn4 hr hj]; simp [N0])
    show (⟨2, 2, 2 * s, make.rowsOf (scale.N (mws.sr n) s) 4, true⟩ : make.Res) = _
    rw [e, show 2 * s + 4 * 0 = 2 * s by omega]
  · by_cases s0 : s = 0
    · subst s0
      rw [res_noise hk ⟨by omega, by omega⟩]
      have e : nz z = T n 0 z := rows_congr (fun r hr j hj => by simp [noise.N, N0])
      rw [e, show 2 * 0 + 4 * z = 4 * z by omega]
    · rw [res_both hk ⟨by omega, by omega⟩ s0, mws.res_yes ⟨by omega, by omega⟩]
      have e : mws.M (nz z) n s = T n s z := rows_congr (fun r hr j hj => by
        show row.nn (nz z) r j + row.nn (make.rowsOf (scale.N (mws.sr n) s) 4) r j = _
        unfold nz
        rw [nn4 hr hj, nn4 hr hj]
        show z + row.nn (make.rowsOf (eqs.N n) 4) r j * s = _
        rw [nn4 hr hj]
        unfold N0; omega)
      rw [e, Int.add_comm (4 * z) (2 * s)]
theorem res_big {n : Nat} {s z : Int} (hk : n < 8) (h : ¬ (0 ≤ s ∧ s ≤ 1000) ∨ ¬ (0 ≤ z ∧ z ≤ 1000) ∨ s + z = 0 ∨ 1000 < 2 * s + 4 * z) (hh : 0 ≤ z ∨ ¬ 0 ≤ z) : res n s z = make.Res.zero := by
  by_cases z0 : z = 0
  · subst z0
    rw [res_sum hk]
    exact scale.res_no (fun a => by have a1 := a.2.1; have a2 := a.2.2.1; have a3 := a.2.2.2; omega)
  · by_cases zz : 1 ≤ z ∧ z ≤ 250
    · by_cases s0 : s = 0
      · omega
      · rw [res_both hk zz s0]
        exact mws.res_no (fun a => by have a1 := a.1; have a2 := a.2; omega)
    · exact res_loud z0 zz
theorem T_ok {n : Nat} {s z : Int} (hs : 0 ≤ s ∧ s ≤ 1000) (hz : 0 ≤ z ∧ z ≤ 1000) (h0 : ¬ s + z = 0) (hw : 2 * s + 4 * z ≤ 1000) : okBox 2 2 (2 * s + 4 * z) (T n s z) :=
  make.ok_rowsOf (x := 2) (y := 2) ⟨by omega, by omega⟩ (by omega) (fun r _ => by
    have h := eqs.odd_lt n r
    refine make.okRow_quad (fun j hj => ?_) ?_
    · have := N0_bd n r j hs.1 hs.2
      omega
    · show N0 n s r 0 + z + (N0 n s r 1 + z) + (N0 n s r 2 + z) + (N0 n s r 3 + z) = 2 * s + 4 * z
      have e : N0 n s r 0 + N0 n s r 1 + N0 n s r 2 + N0 n s r 3 = 2 * s := by
        unfold N0
        rw [← Int.add_mul, ← Int.add_mul, ← Int.add_mul]
        congr 1
        simp only [eqs.N]; simp; omega
      omega)
theorem G_start (n : Nat) (s z : Int) {r : Nat} (hr : r < 4) : scale.D (mws.sr n) s r = make.quad (G n s z 0 0) r := by
  unfold scale.D mws.sr
  rw [show (make.rowsOf (eqs.N n) 4).getD r [] = make.quad (eqs.N n) r by simp [make.rowsOf, List.getD, hr]]
  simp [make.quad, G, N0]
theorem G_row (n : Nat) (s z : Int) (r : Nat) : make.quad (G n s z r 4) = make.quad (G n s z (r + 1) 0) := by
  funext q
  have e : ∀ j, j < 4 → G n s z r 4 q j = G n s z (r + 1) 0 q j := fun j hj => by
    unfold G
    have : (q < r ∨ q = r ∧ j < 4) ↔ (q < r + 1 ∨ q = r + 1 ∧ j < 0) := by omega
    simp only [this]
  unfold make.quad
  rw [e 0 (by omega), e 1 (by omega), e 2 (by omega), e 3 (by omega)]
theorem G_end (n : Nat) (s z : Int) : (List.range 4).map (make.quad (G n s z 4 0)) = T n s z := by
  unfold T make.rowsOf
  refine List.map_congr_left (fun r hr => ?_)
  simp at hr
  simp [make.quad, G, hr]
theorem G_at (n : Nat) (s z : Int) (r : Nat) {c : Nat} (hc : c < 4) : (make.quad (G n s z r c) r)[c]'(by simpa [make.quad] using hc) = N0 n s r c := by
  rcases (by omega : c = 0 ∨ c = 1 ∨ c = 2 ∨ c = 3) with rfl | rfl | rfl | rfl <;> simp [make.quad, G]
theorem G_set (n : Nat) (s z : Int) (r : Nat) {c : Nat} (hc : c < 4) : make.quad (G n s z r (c + 1)) r = (make.quad (G n s z r c) r).set c (N0 n s r c + z) := by
  rcases (by omega : c = 0 ∨ c = 1 ∨ c = 2 ∨ c = 3) with rfl | rfl | rfl | rfl <;> simp [make.quad, G]
theorem G_other (n : Nat) (s z : Int) {r q c : Nat} (h : q ≠ r) : make.quad (G n s z r (c + 1)) q = make.quad (G n s z r c) q := by
  simp [make.quad, G, h]


set_option maxRecDepth 100000 in
set_option maxHeartbeats 8000000 in
theorem spec_any (k s z : Int) (w : World) :
    Calls Try.prog 32 #[.int .i64 k, .int .i64 s, .int .i64 z] w fun e w' => ∃ r, e = .returned (.tuple #[.agg #[.int .i64 (res k s z).x, .int .i64 (res k s z).y, .int .i64 (res k s z).wh, r], .bool (res k s z).ok]) ∧ IRows w' r (res k s z).rows ∧ Below w.heap.size w w' := by
  have B0 := Lib.hid (below_al (Below.refl w.heap.size w) (.cells #[.int .i64 0, .int .i64 0, .int .i64 0, .slice none 0 0] 41))
  have R0 := Lib.hid (Blk.new w 41 #[.int .i64 0, .int .i64 0, .int .i64 0, .slice none 0 0])
  by_cases hk : 0 ≤ k ∧ k ≤ 7
  · obtain ⟨n, rfl⟩ : ∃ n : Nat, k = n := ⟨k.toNat, by omega⟩
    have HN : Hid (n < 8) := Lib.hid (by omega)
    have HK := Lib.hid (fun W => eqm.kind_yes (n : Int) W hk)
    clear hk
    by_cases hs : 0 ≤ s ∧ s ≤ 1000
    · by_cases hz : 0 ≤ z ∧ z ≤ 1000
      · have ksz : IntKind.i64.wrap (s + z) = s + z := IntWalk.i64_in _ (by omega)
        have HI1 := Lib.hid (fun W => val.in_yes s 0 1000 W hs.1 hs.2)
        have HI2 := Lib.hid (fun W => val.in_yes z 0 1000 W hz.1 hz.2)
        by_cases h0 : s + z = 0
        · have HE := Lib.hid (res_big HN.out (.inr (.inr (.inl h0))) (.inl hz.1))
          clear hs hz
          go_enter Try.func32, Try.ntmps32
          go_wp2_with fail
          refine (HK.out _).mono ?_
          rintro e w' ⟨rfl, rfl⟩
          go_wp2_with fail
          refine (HI1.out _).mono ?_
          rintro e w' ⟨rfl, rfl⟩
          go_wp2_with fail
          refine (HI2.out _).mono ?_
          rintro e w' ⟨rfl, rfl⟩
          go_wp2_with fail
          refine bodyPost_ret (v := .tuple #[.agg #[.int .i64 0, .int .i64 0, .int .i64 0, .slice none 0 0], .bool false]) (by simp [results, Try.results32, go_sem]) rfl ?_
          rw [HE.out]
          refine ⟨_, rfl, IRows.nil _, ?_⟩
          repeat (first | (with_reducible exact B0.out) | refine Below.setCell ?_ (by simp <;> omega) _)
        · have HL := Lib.hid (fun W => eqm.l6sum n HN.out W)
          have HT := Lib.hid (fun (u : Value) (W : World) (hu : IRows W u (mws.sr n)) => scale.l2times2 2 2 2 u (mws.sr n) s W hu (eqm.ok n) hs.1 hs.2)
          have HS := Lib.hid hs
          have HZ := Lib.hid hz
          have HNE := Lib.hid h0
          have kz : IntKind.i64.wrap (4 * z) = 4 * z := IntWalk.i64_in _ (by omega)
          have ks : IntKind.i64.wrap (2 * s + 4 * z) = 2 * s + 4 * z := IntWalk.i64_in _ (by omega)
          clear hs hz
          go_enter Try.func32, Try.ntmps32
          go_wp2_with fail
          refine (HK.out _).mono ?_
          rintro e w' ⟨rfl, rfl⟩
          go_wp2_with fail
          refine (HI1.out _).mono ?_
          rintro e w' ⟨rfl, rfl⟩
          go_wp2_with fail
          refine (HI2.out _).mono ?_
          rintro e w' ⟨rfl, rfl⟩
          go_wp2_with fail
          refine (HL.out _).mono ?_
          rintro e w1 ⟨u, rfl, hu, hb⟩
          obtain ⟨va, vl, vc, rfl⟩ := hu.rows.shape
          have HU : Hid (IRows w1 (.slice va vl vc) (mws.sr n)) := Lib.hid hu.rows
          have B1 := Lib.hid (below_tr B0.out hb)
          have R1 := Lib.hid (R0.out.below hb)
          clear hu hb HL HK HI1 HI2 R0 B0 h0 ksz
          go_wp2_with fail
          refine (HT.out _ _ HU.out).mono ?_
          rintro e w2 ⟨u, rfl, ha, hb⟩
          have hsz := B1.out.size
          have ha2 := ha.mono (B' := w.heap.size + 1) (by omega)
          rw [show (mws.sr n).length = 4 from make.len_rowsOf _ _] at ha2
          have ha3 := ha2.congr (fun r hr => G_start n s z hr)
          obtain ⟨ub, ug, uc, uc', rfl, hub, _⟩ := ha3.cell (r := 0) (c := 0) (by omega) (by simp [make.quad])
          have B2 := Lib.hid (below_tr B1.out hb)
          have R2 := Lib.hid (R1.out.below hb)
          have A2 := Lib.hid ha3
          clear ha ha2 ha3 hb HT HU B1 R1 hsz
          have hlow := B2.out.size
          have K3 := Lib.hid (Blk.new w2 41 #[.int .i64 2, .int .i64 2, .int .i64 (2 * s + 4 * z), .slice (some ⟨ub, 0, none⟩) 4 uc])
          have A3 := Lib.hid (A2.out.below (below_al (Below.refl _ _) (.cells #[.int .i64 2, .int .i64 2, .int .i64 (2 * s + 4 * z), .slice (some ⟨ub, 0, none⟩) 4 uc] 41)))
          have R3 := Lib.hid (R2.out.alloc (.cells #[.int .i64 2, .int .i64 2, .int .i64 (2 * s + 4 * z), .slice (some ⟨ub, 0, none⟩) 4 uc] 41))
          have B3 := Lib.hid (below_al B2.out (.cells #[.int .i64 2, .int .i64 2, .int .i64 (2 * s + 4 * z), .slice (some ⟨ub, 0, none⟩) 4 uc] 41))
          clear hlow A2 R2 B2 hub
          go_wp2_with fail
          clear ks kz
          go_loopw [9, 10] (fun i p10 wr => ∃ r : Nat, r ≤ 4 ∧ i = .int .i64 r ∧ (∃ z, p10 = z) ∧ Hid (Apart wr (w.heap.size + 1) (.slice (some ⟨ub, 0, none⟩) 4 uc) 4 (make.quad (G n s z r 0))) ∧ Hid (Blk wr w2.heap.size 41 #[.int .i64 2, .int .i64 2, .int .i64 (2 * s + 4 * z), .slice (some ⟨ub, 0, none⟩) 4 uc]) ∧ Hid (Blk wr w.heap.size 41 #[.int .i64 0, .int .i64 0, .int .i64 0, .slice none 0 0]) ∧ Hid (Below w.heap.size w wr)) (fun i _ _ => 4 - (intOf i).toNat)
          case atStart => exact ⟨0, by omega, rfl, ⟨_, rfl⟩, A3, K3, R3, B3⟩
          case round =>
            obtain ⟨r, hr, rfl, ⟨y10, rfl⟩, hA, hK, hR, hB⟩ := hrel
            clear A3 K3 R3 B3
            obtain ⟨wo, rfl⟩ : ∃ wo : World, wo = wr := ⟨_, rfl⟩
            obtain ⟨p0, p1, p2, p3, p4⟩ := four_cells hK.out
            by_cases hlt : r < 4
            · have hkz : (r : Int) < 4 := by omega
              go_wp2_with fail
              clear p0 p1 p2 p3 p4
              go_loopw [10] (fun j wr => ∃ c : Nat, c ≤ 4 ∧ j = .int .i64 c ∧ Hid (Apart wr (w.heap.size + 1) (.slice (some ⟨ub, 0, none⟩) 4 uc) 4 (make.quad (G n s z r c))) ∧ Hid (Blk wr w2.heap.size 41 #[.int .i64 2, .int .i64 2, .int .i64 (2 * s + 4 * z), .slice (some ⟨ub, 0, none⟩) 4 uc]) ∧ Hid (Blk wr w.heap.size 41 #[.int .i64 0, .int .i64 0, .int .i64 0, .slice none 0 0]) ∧ Hid (Below w.heap.size w wr)) (fun j _ => 4 - (intOf j).toNat)
              case atStart => exact ⟨0, by omega, rfl, hA, hK, hR, hB⟩
              case round =>
                clear hA hK hR hB
                obtain ⟨c, hc, rfl, hA, hK, hR, hB⟩ := hrel
                obtain ⟨wi, rfl⟩ : ∃ wi : World, wi = wr := ⟨_, rfl⟩
                by_cases hlc : c < 4
                · have hkc : (c : Int) < 4 := by omega
                  obtain ⟨p0, p1, p2, p3, p4⟩ := four_cells hK.out
                  obtain ⟨b', g, cp, cp', hu', hb', ⟨cs, hcs⟩, e1, hg, e2, e3, e4⟩ := hA.out.cell (r := r) (c := c) hlt (by simpa [make.quad] using hlc)
                  injection hu' with h1 h2 h3
                  injection h1 with h1
                  injection h1 with h1 _ _
                  subst h1
                  clear h2 h3
                  rw [show (make.quad (G n s z r c) r).length = 4 from rfl] at e1
                  rw [G_at n s z r hlc] at e2
                  have A4 := e4 (N0 n s r c + z) (make.quad (G n s z r (c + 1))) (G_set n s z r hlc) (fun q hq => G_other n s z hq)
                  have A5 := Lib.hid (A4.below (below_dr (Below.refl _ _)))
                  have hbd := N0_bd n r c HS.out.1 HS.out.2
                  have hzz := HZ.out
                  have kn : IntKind.i64.wrap (N0 n s r c + z) = N0 n s r c + z := IntWalk.i64_in _ (by have := HS.out; omega)
                  have hw := Wrote.drew (Wrote.setCell (S := fun p => p.block = g) (p := (⟨g, c, none⟩ : Addr)) (Wrote.refl _ wi) rfl (.int .i64 (N0 n s r c + z)))
                  have K5 := Lib.hid (hK.out.wrote hw (fun p hp e => by have h1 : p.block = g := hp; have h5 : g = w2.heap.size := h1.symm.trans e; subst h5; exact absurd (make.blk_type hcs hK.out) (by decide)))
                  have R5 := Lib.hid (hR.out.wrote hw (fun p hp e => by have h1 : p.block = g := hp; omega))
                  have B5 := Lib.hid (below_dr (hB.out.setCell (p := (⟨g, c, none⟩ : Addr)) (by show w.heap.size ≤ g; omega) (.int .i64 (N0 n s r c + z))))
                  clear e4 A4 hw hbd hzz hcs hA hK hR hB p0 p1 p2 p4
                  generalize N0 n s r c = y at *
                  go_wp2_with fail
                  go_region
                  clear e1 e2 e3 kn p3
                  go_wp2_with fail
                  go_roundw
                  case rel => exact ⟨c + 1, by omega, by go_num, A5, K5, R5, B5⟩
                  case measure => simp [intOf]; omega
                · have hkc : ¬ (c : Int) < 4 := by omega
                  obtain rfl : c = 4 := by omega
                  have A6 := hA
                  rw [G_row] at A6
                  clear hA
                  go_wp2_with fail
                  go_roundw
                  case rel => exact ⟨r + 1, by omega, by go_num, ⟨_, rfl⟩, A6, hK, hR, hB⟩
                  case measure => simp [intOf]; omega
            · have hkz : ¬ (r : Int) < 4 := by omega
              obtain rfl : r = 4 := by omega
              have hro := hA.out.rows
              rw [G_end] at hro
              have HRO := Lib.hid hro
              clear hro
              by_cases hw : 2 * s + 4 * z ≤ 1000
              · have HKE := Lib.hid (make.kept_yes 2 2 (2 * s + 4 * z) _ (T n s z) wo HRO.out (make.total_rowsOf _ _ (by omega)) (T_ok HS.out HZ.out HNE.out hw))
                have HE := Lib.hid (res_main HN.out HS.out HZ.out HNE.out hw)
                clear hw
                go_wp2_with fail
                refine HKE.out.mono ?_
                rintro e w4 ⟨rfl, hb⟩
                have A7 := Lib.hid (hA.out.below hb)
                have R7 := Lib.hid (hR.out.below hb)
                have B7 := Lib.hid (below_tr hB.out hb)
                obtain ⟨r0, r1, r2, r3, r4⟩ := four_cells R7.out
                have rf := fun k => Joins.unfrozen_of_block R7.out k
                clear hb HKE hA hR hB p0 p1 p2 p3 p4
                go_wp2_with fail
                refine bodyPost_ret (v := .tuple #[.agg #[.int .i64 2, .int .i64 2, .int .i64 (2 * s + 4 * z), .slice (some ⟨ub, 0, none⟩) 4 uc], .bool true]) (by simp [results, Try.results32, go_sem, r0, r1, r2, r3]) rfl ?_
                rw [HE.out]
                refine ⟨_, rfl, ?_, ?_⟩
                · rw [← G_end]
                  refine (A7.out.low ?_).rows
                  repeat (first | exact Wrote.refl _ _ | refine Wrote.setCell ?_ (by simp) _)
                · repeat (refine Below.setCell ?_ (by simp <;> omega) _)
                  exact B7.out
              · have HKE := Lib.hid (make.kept_no 2 2 (2 * s + 4 * z) _ (T n s z) wo HRO.out (make.total_rowsOf _ _ (by omega)) (fun h => by have := h.2.1.2; omega))
                have HE := Lib.hid (res_big (s := s) (z := z) HN.out (.inr (.inr (.inr (by omega)))) (.inl HZ.out.1))
                clear hw
                go_wp2_with fail
                refine HKE.out.mono ?_
                rintro e w4 ⟨rfl, hb⟩
                have R7 := Lib.hid (hR.out.below hb)
                have B7 := Lib.hid (below_tr hB.out hb)
                obtain ⟨r0, r1, r2, r3, r4⟩ := four_cells R7.out
                have rf := fun k => Joins.unfrozen_of_block R7.out k
                clear hb HKE hA hR hB p0 p1 p2 p3 p4
                go_wp2_with fail
                refine bodyPost_ret (v := .tuple #[.agg #[.int .i64 0, .int .i64 0, .int .i64 0, .slice none 0 0], .bool false]) (by simp [results, Try.results32, go_sem, r0, r1, r2, r3]) rfl ?_
                rw [HE.out]
                refine ⟨_, rfl, IRows.nil _, ?_⟩
                repeat (refine Below.setCell ?_ (by simp <;> omega) _)
                exact B7.out
      · have HE := Lib.hid (res_big (s := s) HN.out (.inr (.inl hz)) (Classical.em _))
        have HI1 := Lib.hid (fun W => val.in_yes s 0 1000 W hs.1 hs.2)
        have HI2 := Lib.hid (fun W => val.in_no z 0 1000 W (by omega))
        clear hs hz
        go_enter Try.func32, Try.ntmps32
        go_wp2_with fail
        refine (HK.out _).mono ?_
        rintro e w' ⟨rfl, rfl⟩
        go_wp2_with fail
        refine (HI1.out _).mono ?_
        rintro e w' ⟨rfl, rfl⟩
        go_wp2_with fail
        refine (HI2.out _).mono ?_
        rintro e w' ⟨rfl, rfl⟩
        go_wp2_with fail
        refine bodyPost_ret (v := .tuple #[.agg #[.int .i64 0, .int .i64 0, .int .i64 0, .slice none 0 0], .bool false]) (by simp [results, Try.results32, go_sem]) rfl ?_
        rw [HE.out]
        refine ⟨_, rfl, IRows.nil _, ?_⟩
        repeat (first | (with_reducible exact B0.out) | refine Below.setCell ?_ (by simp <;> omega) _)
    · have HE := Lib.hid (res_big (z := z) HN.out (.inl hs) (Classical.em _))
      have HI1 := Lib.hid (fun W => val.in_no s 0 1000 W (by omega))
      clear hs
      go_enter Try.func32, Try.ntmps32
      go_wp2_with fail
      refine (HK.out _).mono ?_
      rintro e w' ⟨rfl, rfl⟩
      go_wp2_with fail
      refine (HI1.out _).mono ?_
      rintro e w' ⟨rfl, rfl⟩
      go_wp2_with fail
      refine bodyPost_ret (v := .tuple #[.agg #[.int .i64 0, .int .i64 0, .int .i64 0, .slice none 0 0], .bool false]) (by simp [results, Try.results32, go_sem]) rfl ?_
      rw [HE.out]
      refine ⟨_, rfl, IRows.nil _, ?_⟩
      repeat (first | (with_reducible exact B0.out) | refine Below.setCell ?_ (by simp <;> omega) _)
  · have HE := Lib.hid (res_out (s := s) (z := z) hk)
    have HK := Lib.hid (fun W => eqm.kind_no k W hk)
    clear hk
    go_enter Try.func32, Try.ntmps32
    go_wp2_with fail
    refine (HK.out _).mono ?_
    rintro e w' ⟨rfl, rfl⟩
    go_wp2_with fail
    refine bodyPost_ret (v := .tuple #[.agg #[.int .i64 0, .int .i64 0, .int .i64 0, .slice none 0 0], .bool false]) (by simp [results, Try.results32, go_sem]) rfl ?_
    rw [HE.out]
    refine ⟨_, rfl, IRows.nil _, ?_⟩
    repeat (first | (with_reducible exact B0.out) | refine Below.setCell ?_ (by simp <;> omega) _)


end Go.Proofs.Ytkikdecepdbbnab.nsi
