/- IsExtreme of the program. -/
import Derived.Test.YtlaaiahkdkhehaaIsx
import Derived.Test.YtlaaiahkdkhehaaFrg
import Derived.Test.YtlaaiahkdkhehaaExw
import Derived.Test.YtlaaiahkdkhehaaEvb
import Derived.Test.YtlaaiahkdkhehaaAlike
import Derived.Deep.RegionHeld3
namespace Go.Proofs.Ytlaaiahkdkhehaa.isx
open Go.RowKit Go.Deep Go.Proofs.Ytlaaiahkdkhehaa.base
open Go.Proofs.Ytlaaiahkdkhehaa.rws (total)
open Go.Proofs.Ytlaaiahkdkhehaa.val (okBox okSizes)
open Go.Proofs.Ytlaaiahkdkhehaa.row (nn nn_bd)
open Go.Proofs.Ytlaaiahkdkhehaa.two (two qt qtB qtB_yes qtB_no)
open Go.Proofs.Ytlaaiahkdkhehaa.four (arr rv cells16)
open Go.Proofs.Ytlaaiahkdkhehaa.boxl (Pl)
open Go.Proofs.Ytlaaiahkdkhehaa.ext (ext exts len_exts ext_ok ext_tot)
open Go.Proofs.Ytlaaiahkdkhehaa.alike (alike alikeB alikeB_yes alikeB_no same)

/-! ### the program -/
theorem heldx {w w' : World} {p0 p1 p2 p3 p4 p5 p6 p7 p8 p9 p10 p11 p12 p13 p14 p15 p16 p17 p18 p19 p20 : Addr} {u0 u1 u2 u3 u4 u5 u6 u7 u8 u9 u10 u11 u12 u13 u14 u15 u16 u17 u18 u19 u20 : Value} (h0 : w.cell? p0 = some u0) (h1 : w.cell? p1 = some u1) (h2 : w.cell? p2 = some u2) (h3 : w.cell? p3 = some u3) (h4 : w.cell? p4 = some u4) (h5 : w.cell? p5 = some u5) (h6 : w.cell? p6 = some u6) (h7 : w.cell? p7 = some u7) (h8 : w.cell? p8 = some u8) (h9 : w.cell? p9 = some u9) (h10 : w.cell? p10 = some u10) (h11 : w.cell? p11 = some u11) (h12 : w.cell? p12 = some u12) (h13 : w.cell? p13 = some u13) (h14 : w.cell? p14 = some u14) (h15 : w.cell? p15 = some u15) (h16 : w.cell? p16 = some u16) (h17 : w.cell? p17 = some u17) (h18 : w.cell? p18 = some u18) (h19 : w.cell? p19 = some u19) (h20 : w.cell? p20 = some u20) (hb : Below w.heap.size w w') :
    w'.cell? p0 = some u0 ∧ w'.cell? p1 = some u1 ∧ w'.cell? p2 = some u2 ∧ w'.cell? p3 = some u3 ∧ w'.cell? p4 = some u4 ∧ w'.cell? p5 = some u5 ∧ w'.cell? p6 = some u6 ∧ w'.cell? p7 = some u7 ∧ w'.cell? p8 = some u8 ∧ w'.cell? p9 = some u9 ∧ w'.cell? p10 = some u10 ∧ w'.cell? p11 = some u11 ∧ w'.cell? p12 = some u12 ∧ w'.cell? p13 = some u13 ∧ w'.cell? p14 = some u14 ∧ w'.cell? p15 = some u15 ∧ w'.cell? p16 = some u16 ∧ w'.cell? p17 = some u17 ∧ w'.cell? p18 = some u18 ∧ w'.cell? p19 = some u19 ∧ w'.cell? p20 = some u20 ∧ Below w.heap.size w w' :=
  ⟨below_cell hb _ _ h0, below_cell hb _ _ h1, below_cell hb _ _ h2, below_cell hb _ _ h3, below_cell hb _ _ h4, below_cell hb _ _ h5, below_cell hb _ _ h6, below_cell hb _ _ h7, below_cell hb _ _ h8, below_cell hb _ _ h9, below_cell hb _ _ h10, below_cell hb _ _ h11, below_cell hb _ _ h12, below_cell hb _ _ h13, below_cell hb _ _ h14, below_cell hb _ _ h15, below_cell hb _ _ h16, below_cell hb _ _ h17, below_cell hb _ _ h18, below_cell hb _ _ h19, below_cell hb _ _ h20, hb⟩
theorem alike_flat {wh : Int} {xss : List (List Int)} {k : Nat} (hl : xss.length = 4) : alike wh xss 2 (ext k) ↔ ∀ p, p < 16 → frf.flat (fun r c => nn (ext k) r c * wh) p = frf.flat (fun r c => nn xss r c * 2) p := by
  constructor
  · intro h p hp
    exact (h (p / 4) (p % 4) (by omega) (by omega)).symm
  · intro h r c hr hc
    have := h (4 * r + c) (by omega)
    unfold frf.flat at this
    rw [show (4 * r + c) / 4 = r from by omega, show (4 * r + c) % 4 = c from by omega] at this
    exact this.symm
theorem wrapf {k : Int} {ys : List (List Int)} {x y : Int} {v : Int} (h : okBox x y v ys) (hl : ys.length = 4) (h0 : 0 ≤ k) (h1 : k ≤ 1000) (p : Nat) (hp : p < 16) : IntKind.i64.wrap (frf.flat (nn ys) p * k) = frf.flat (nn ys) p * k := by
  have b := nn_bd h (r := p / 4) (k := p % 4) (by omega) (by omega)
  have b1 : 0 ≤ frf.flat (nn ys) p := b.1
  have b2 : frf.flat (nn ys) p ≤ 1000 := b.2
  have h2 : frf.flat (nn ys) p * k ≤ 1000 * 1000 := Int.mul_le_mul b2 h1 h0 (by omega)
  have h3 : 0 ≤ frf.flat (nn ys) p * k := Int.mul_nonneg b1 h0
  exact IntWalk.i64_in _ (by omega)

set_option maxRecDepth 100000 in
set_option maxHeartbeats 16000000 in
theorem impl_any (x y wh : Int) (v : Value) (xss : List (List Int)) (w : World) (h : IRows w v xss) (hn : total xss ≤ 1048576) :
    Calls Try.prog 25 #[.agg #[.int .i64 x, .int .i64 y, .int .i64 wh, v]] w fun e w' => e = .returned (.tuple #[.bool (res x y wh xss).1, .bool (res x y wh xss).2]) ∧ Below w.heap.size w w' := by
  obtain ⟨va, vn, vc, rfl⟩ := h.shape
  have H := Lib.hid h
  have B0 := Lib.hid (below_al (Below.refl w.heap.size w) (.cells #[.int .i64 x, .int .i64 y, .int .i64 wh, .slice va vn vc] 24))
  have K0 := Lib.hid (Blk.new w 24 #[.int .i64 x, .int .i64 y, .int .i64 wh, .slice va vn vc])
  have hr := two.iqt x y wh _ xss _ (h.below B0.out) hn
  clear h
  by_cases hq : qt x y wh xss
  · rw [qtB_yes hq] at hr
    rw [res_yes hq]
    obtain ⟨⟨hok, rfl, rfl⟩, _⟩ := hq
    have hl4 : xss.length = 4 := by have := hok.2.2.1; omega
    have HF0 := Lib.hid (fun (W : World) (hv : IRows W (.slice va vn vc) xss) => frf.rowsof 2 2 wh (.slice va vn vc) xss W hv hok hl4)
    have HT0 : Hid (∀ W : World, Calls Try.prog 68 #[rv (nn xss), .int .i64 2] W fun e w' => e = .returned (.agg #[.int .i64 (nn xss 0 0 * 2), .int .i64 (nn xss 0 1 * 2), .int .i64 (nn xss 0 2 * 2), .int .i64 (nn xss 0 3 * 2), .int .i64 (nn xss 1 0 * 2), .int .i64 (nn xss 1 1 * 2), .int .i64 (nn xss 1 2 * 2), .int .i64 (nn xss 1 3 * 2), .int .i64 (nn xss 2 0 * 2), .int .i64 (nn xss 2 1 * 2), .int .i64 (nn xss 2 2 * 2), .int .i64 (nn xss 2 3 * 2), .int .i64 (nn xss 3 0 * 2), .int .i64 (nn xss 3 1 * 2), .int .i64 (nn xss 3 2 * 2), .int .i64 (nn xss 3 3 * 2)]) ∧ Below W.heap.size W w') := Lib.hid (fun W => frf.times (nn xss) 2 W (wrapf hok hl4 (by omega) (by omega)))
    have HL4 := Lib.hid hl4
    have hwh := hok.2.1
    have HOK := Lib.hid hok
    have HR := Lib.hid hr
    obtain ⟨wh0, wh1⟩ := hwh
    clear hr hok hl4
    go_enter Try.func25, Try.ntmps25
    go_wp2_with fail
    refine HR.out.mono ?_
    rintro e w1 ⟨rfl, hb⟩
    have B1 := Lib.hid (below_tr B0.out hb)
    have K1 := Lib.hid (K0.out.below hb)
    obtain ⟨c0, c1, c2, c3, c4⟩ := four_cells K1.out
    clear hb HR B0 K0
    go_wp2_with fail
    refine (HF0.out _ (H.out.below B1.out)).mono ?_
    rintro e w2 ⟨rfl, hb⟩
    have B2 := Lib.hid (below_tr B1.out hb)
    have K2 := Lib.hid (K1.out.below hb)
    clear hb c0 c1 c2 c3 c4 B1 K1 HF0
    go_wp2_with fail
    refine (HT0.out _).mono ?_
    rintro e w3 ⟨rfl, hb⟩
    have B2' := Lib.hid (below_tr B2.out hb)
    have K3 := Lib.hid (K2.out.below hb)
    clear hb B2 K2 HT0
    go_wp2_with fail
    obtain ⟨tb, htb⟩ : ∃ tb, w3.heap.size = tb := ⟨_, rfl⟩
    have TB : Hid (Blk (w3.alloc (.cells #[.int .i64 (nn xss 0 0 * 2), .int .i64 (nn xss 0 1 * 2), .int .i64 (nn xss 0 2 * 2), .int .i64 (nn xss 0 3 * 2), .int .i64 (nn xss 1 0 * 2), .int .i64 (nn xss 1 1 * 2), .int .i64 (nn xss 1 2 * 2), .int .i64 (nn xss 1 3 * 2), .int .i64 (nn xss 2 0 * 2), .int .i64 (nn xss 2 1 * 2), .int .i64 (nn xss 2 2 * 2), .int .i64 (nn xss 2 3 * 2), .int .i64 (nn xss 3 0 * 2), .int .i64 (nn xss 3 1 * 2), .int .i64 (nn xss 3 2 * 2), .int .i64 (nn xss 3 3 * 2)] 67)) tb 67 #[.int .i64 (nn xss 0 0 * 2), .int .i64 (nn xss 0 1 * 2), .int .i64 (nn xss 0 2 * 2), .int .i64 (nn xss 0 3 * 2), .int .i64 (nn xss 1 0 * 2), .int .i64 (nn xss 1 1 * 2), .int .i64 (nn xss 1 2 * 2), .int .i64 (nn xss 1 3 * 2), .int .i64 (nn xss 2 0 * 2), .int .i64 (nn xss 2 1 * 2), .int .i64 (nn xss 2 2 * 2), .int .i64 (nn xss 2 3 * 2), .int .i64 (nn xss 3 0 * 2), .int .i64 (nn xss 3 1 * 2), .int .i64 (nn xss 3 2 * 2), .int .i64 (nn xss 3 3 * 2)]) := Lib.hid (by rw [← htb]; exact Blk.new _ _ _)
    have KP := Lib.hid (K3.out.alloc (.cells #[.int .i64 (nn xss 0 0 * 2), .int .i64 (nn xss 0 1 * 2), .int .i64 (nn xss 0 2 * 2), .int .i64 (nn xss 0 3 * 2), .int .i64 (nn xss 1 0 * 2), .int .i64 (nn xss 1 1 * 2), .int .i64 (nn xss 1 2 * 2), .int .i64 (nn xss 1 3 * 2), .int .i64 (nn xss 2 0 * 2), .int .i64 (nn xss 2 1 * 2), .int .i64 (nn xss 2 2 * 2), .int .i64 (nn xss 2 3 * 2), .int .i64 (nn xss 3 0 * 2), .int .i64 (nn xss 3 1 * 2), .int .i64 (nn xss 3 2 * 2), .int .i64 (nn xss 3 3 * 2)] 67))
    have BP := Lib.hid (below_al B2'.out (.cells #[.int .i64 (nn xss 0 0 * 2), .int .i64 (nn xss 0 1 * 2), .int .i64 (nn xss 0 2 * 2), .int .i64 (nn xss 0 3 * 2), .int .i64 (nn xss 1 0 * 2), .int .i64 (nn xss 1 1 * 2), .int .i64 (nn xss 1 2 * 2), .int .i64 (nn xss 1 3 * 2), .int .i64 (nn xss 2 0 * 2), .int .i64 (nn xss 2 1 * 2), .int .i64 (nn xss 2 2 * 2), .int .i64 (nn xss 2 3 * 2), .int .i64 (nn xss 3 0 * 2), .int .i64 (nn xss 3 1 * 2), .int .i64 (nn xss 3 2 * 2), .int .i64 (nn xss 3 3 * 2)] 67))
    clear B2' K3
    rw [htb]
    generalize hwp : w3.alloc (.cells #[.int .i64 (nn xss 0 0 * 2), .int .i64 (nn xss 0 1 * 2), .int .i64 (nn xss 0 2 * 2), .int .i64 (nn xss 0 3 * 2), .int .i64 (nn xss 1 0 * 2), .int .i64 (nn xss 1 1 * 2), .int .i64 (nn xss 1 2 * 2), .int .i64 (nn xss 1 3 * 2), .int .i64 (nn xss 2 0 * 2), .int .i64 (nn xss 2 1 * 2), .int .i64 (nn xss 2 2 * 2), .int .i64 (nn xss 2 3 * 2), .int .i64 (nn xss 3 0 * 2), .int .i64 (nn xss 3 1 * 2), .int .i64 (nn xss 3 2 * 2), .int .i64 (nn xss 3 3 * 2)] 67) = wp at TB KP BP ⊢
    clear hwp htb
    refine (exw.boxes _).mono ?_
    rintro e w4 ⟨bv, rfl, us, hP⟩
    have h0 : ∃ gb cap, bv = .slice (some ⟨gb, 0, none⟩) 24 cap := by
      obtain ⟨gb, cap, u0, hbv, _⟩ := hP.at_ (i := 0) (by rw [len_exts]; omega)
      rw [len_exts] at hbv
      exact ⟨gb, cap, hbv⟩
    obtain ⟨gb, cap, rfl⟩ := h0
    have P4 := Lib.hid hP
    have B3 := Lib.hid (below_tr BP.out hP.below)
    have K4 := Lib.hid (KP.out.below hP.below)
    have T4 := Lib.hid (TB.out.below hP.below)
    clear hP TB KP BP
    go_wp2_with fail
    go_loopw [6, 15] (fun _ i wr => ∃ k : Nat, k ≤ 24 ∧ i = .int .i64 k ∧ Hid (∀ j, j < k → ¬ alike wh xss 2 (ext j)) ∧ Hid (Below w4.heap.size w4 wr) ∧ Hid (∀ q, wp.heap.size ≤ q → q < w4.heap.size → wr.heap[q]? = w4.heap[q]?)) (fun _ i _ => 24 - (intOf i).toNat)
    case atStart => exact ⟨0, Nat.zero_le _, rfl, Lib.hid (fun j hj => by omega), Lib.hid (Below.refl _ _), Lib.hid (fun _ _ _ => rfl)⟩
    case round =>
      obtain ⟨k, hk, rfl, hN, hB, hM⟩ := hrel
      obtain ⟨wi, rfl⟩ : ∃ wi : World, wi = wr := ⟨_, rfl⟩
      by_cases hlt : k < 24
      · have hkz : (k : Int) < 24 := by omega
        obtain ⟨ua, ul, uc, a0, a1, a2, a3, hbr⟩ := exw.mid P4.out (B' := wp.heap.size) (Nat.le_refl _) hM.out (i := k) (by rw [len_exts]; exact hlt)
        rw [show (exts 24)[k]'(by rw [len_exts]; exact hlt) = ext k from by simp [exts]] at hbr
        have HAL := Lib.hid (below_al (Below.refl wi.heap.size wi) (.cells #[.int .i64 2, .int .i64 2, .int .i64 2, .slice ua ul uc] 24))
        have hK := Blk.new wi 24 #[.int .i64 2, .int .i64 2, .int .i64 2, .slice ua ul uc]
        have hle : (ext k).length = 4 := by have := (ext_ok k).2.2.1; omega
        have HFR0 := Lib.hid (fun (W : World) (hb : Below wi.heap.size wi W) => frf.rowsof 2 2 2 (.slice ua ul uc) (ext k) W (hbr.below hb) (ext_ok k) hle)
        have HTM : Hid (∀ W : World, Calls Try.prog 68 #[rv (nn (ext k)), .int .i64 wh] W fun e w' => e = .returned (.agg #[.int .i64 (nn (ext k) 0 0 * wh), .int .i64 (nn (ext k) 0 1 * wh), .int .i64 (nn (ext k) 0 2 * wh), .int .i64 (nn (ext k) 0 3 * wh), .int .i64 (nn (ext k) 1 0 * wh), .int .i64 (nn (ext k) 1 1 * wh), .int .i64 (nn (ext k) 1 2 * wh), .int .i64 (nn (ext k) 1 3 * wh), .int .i64 (nn (ext k) 2 0 * wh), .int .i64 (nn (ext k) 2 1 * wh), .int .i64 (nn (ext k) 2 2 * wh), .int .i64 (nn (ext k) 2 3 * wh), .int .i64 (nn (ext k) 3 0 * wh), .int .i64 (nn (ext k) 3 1 * wh), .int .i64 (nn (ext k) 3 2 * wh), .int .i64 (nn (ext k) 3 3 * wh)]) ∧ Below W.heap.size W w') := Lib.hid (fun W => frf.times (nn (ext k)) wh W (wrapf (ext_ok k) hle (by omega) (by omega)))
        go_wp2_with fail
        obtain ⟨d0, d1, d2, d3, d4⟩ := four_cells hK
        obtain ⟨x0, x1, cw, x3, x4⟩ := four_cells ((K4.out.below hB.out).below HAL.out)
        obtain ⟨t0, t1, t2, t3, t4, t5, t6, t7, t8, t9, t10, t11, t12, t13, t14, t15, tl⟩ := cells16 ((T4.out.below hB.out).below HAL.out)
        have HFR := Lib.hid (fun (W : World) (hb : Below (wi.alloc (.cells #[.int .i64 2, .int .i64 2, .int .i64 2, .slice ua ul uc] 24)).heap.size (wi.alloc (.cells #[.int .i64 2, .int .i64 2, .int .i64 2, .slice ua ul uc] 24)) W) => HFR0.out W (below_tr HAL.out hb))
        clear hbr a0 a1 a2 a3 hK hle x0 x1 x3 x4 HFR0
        generalize hwa : wi.alloc (.cells #[.int .i64 2, .int .i64 2, .int .i64 2, .slice ua ul uc] 24) = wa at *
        clear hwa
        by_cases ha : alike wh xss 2 (ext k)
        · have HX : Hid (isx wh xss) := Lib.hid ⟨k, hlt, ha⟩
          have HEQ : Hid (∀ W : World, (Op.equalIn 10000 67 (.agg #[.int .i64 (nn (ext k) 0 0 * wh), .int .i64 (nn (ext k) 0 1 * wh), .int .i64 (nn (ext k) 0 2 * wh), .int .i64 (nn (ext k) 0 3 * wh), .int .i64 (nn (ext k) 1 0 * wh), .int .i64 (nn (ext k) 1 1 * wh), .int .i64 (nn (ext k) 1 2 * wh), .int .i64 (nn (ext k) 1 3 * wh), .int .i64 (nn (ext k) 2 0 * wh), .int .i64 (nn (ext k) 2 1 * wh), .int .i64 (nn (ext k) 2 2 * wh), .int .i64 (nn (ext k) 2 3 * wh), .int .i64 (nn (ext k) 3 0 * wh), .int .i64 (nn (ext k) 3 1 * wh), .int .i64 (nn (ext k) 3 2 * wh), .int .i64 (nn (ext k) 3 3 * wh)]) (.agg #[.int .i64 (nn xss 0 0 * 2), .int .i64 (nn xss 0 1 * 2), .int .i64 (nn xss 0 2 * 2), .int .i64 (nn xss 0 3 * 2), .int .i64 (nn xss 1 0 * 2), .int .i64 (nn xss 1 1 * 2), .int .i64 (nn xss 1 2 * 2), .int .i64 (nn xss 1 3 * 2), .int .i64 (nn xss 2 0 * 2), .int .i64 (nn xss 2 1 * 2), .int .i64 (nn xss 2 2 * 2), .int .i64 (nn xss 2 3 * 2), .int .i64 (nn xss 3 0 * 2), .int .i64 (nn xss 3 1 * 2), .int .i64 (nn xss 3 2 * 2), .int .i64 (nn xss 3 3 * 2)])).run Try.prog W = .ok true W) := Lib.hid (fun W => by
            have h1 := eqq.eq16 (frf.flat (fun r c => nn (ext k) r c * wh)) (frf.flat (fun r c => nn xss r c * 2)) W
            rw [(eqq.all_iff _ _).2 ((alike_flat HL4.out).1 ha)] at h1
            exact h1)
          have hEQ := HEQ.out
          clear ha
          go_region_held3 (fun w' => w'.cell? ⟨w.heap.size, 2, none⟩ = some (.int .i64 wh) ∧ w'.cell? ⟨wi.heap.size, 0, none⟩ = some (.int .i64 2) ∧ w'.cell? ⟨wi.heap.size, 1, none⟩ = some (.int .i64 2) ∧ w'.cell? ⟨wi.heap.size, 2, none⟩ = some (.int .i64 2) ∧ w'.cell? ⟨wi.heap.size, 3, none⟩ = some (.slice ua ul uc) ∧ w'.cell? ⟨tb, 0, none⟩ = some (.int .i64 (nn xss 0 0 * 2)) ∧ w'.cell? ⟨tb, 1, none⟩ = some (.int .i64 (nn xss 0 1 * 2)) ∧ w'.cell? ⟨tb, 2, none⟩ = some (.int .i64 (nn xss 0 2 * 2)) ∧ w'.cell? ⟨tb, 3, none⟩ = some (.int .i64 (nn xss 0 3 * 2)) ∧ w'.cell? ⟨tb, 4, none⟩ = some (.int .i64 (nn xss 1 0 * 2)) ∧ w'.cell? ⟨tb, 5, none⟩ = some (.int .i64 (nn xss 1 1 * 2)) ∧ w'.cell? ⟨tb, 6, none⟩ = some (.int .i64 (nn xss 1 2 * 2)) ∧ w'.cell? ⟨tb, 7, none⟩ = some (.int .i64 (nn xss 1 3 * 2)) ∧ w'.cell? ⟨tb, 8, none⟩ = some (.int .i64 (nn xss 2 0 * 2)) ∧ w'.cell? ⟨tb, 9, none⟩ = some (.int .i64 (nn xss 2 1 * 2)) ∧ w'.cell? ⟨tb, 10, none⟩ = some (.int .i64 (nn xss 2 2 * 2)) ∧ w'.cell? ⟨tb, 11, none⟩ = some (.int .i64 (nn xss 2 3 * 2)) ∧ w'.cell? ⟨tb, 12, none⟩ = some (.int .i64 (nn xss 3 0 * 2)) ∧ w'.cell? ⟨tb, 13, none⟩ = some (.int .i64 (nn xss 3 1 * 2)) ∧ w'.cell? ⟨tb, 14, none⟩ = some (.int .i64 (nn xss 3 2 * 2)) ∧ w'.cell? ⟨tb, 15, none⟩ = some (.int .i64 (nn xss 3 3 * 2)) ∧ Below wa.heap.size wa w')
            ((refine heldx cw d0 d1 d2 d3 t0 t1 t2 t3 t4 t5 t6 t7 t8 t9 t10 t11 t12 t13 t14 t15 ?_; repeat (first | (with_reducible exact Below.refl _ _) | (with_reducible assumption) | (with_reducible refine below_dr ?_) | (with_reducible refine below_tr ?_ (by assumption)))))
            (first
              | (go_at_call 67; (with_reducible refine (HFR.out _ ?_).mono ?_); (with_reducible exact below_dr (Below.refl _ _)); rintro e w5 ⟨rfl, hb1⟩)
              | (go_at_call 68; (with_reducible refine (HTM.out _).mono ?_); rintro e w6 ⟨rfl, hb2⟩))
          have hbt := Lib.hid (below_tr (below_tr (below_dr (Below.refl wa.heap.size wa)) hb1) hb2)
          have hba := Lib.hid (below_tr HAL.out hbt.out)
          have B9 := Lib.hid (below_tr B3.out (below_tr hB.out hba.out))
          have B9' := Lib.hid (below_tr hB.out hba.out)
          have M9 : Hid (∀ q, wp.heap.size ≤ q → q < w4.heap.size → w6.heap[q]? = w4.heap[q]?) := Lib.hid (fun q h1 h2 => (hba.out.block q (Nat.lt_of_lt_of_le h2 hB.out.size)).trans (hM.out q h1 h2))
          clear hb1 hb2 cw d0 d1 d2 d3 t0 t1 t2 t3 t4 t5 t6 t7 t8 t9 t10 t11 t12 t13 t14 t15 hEQ HEQ HFR HTM hbt hba
          go_wp2_with fail
          go_ret2
          exact ⟨evb.ret_p (isB_yes HX.out).symm, B9.out⟩
        · have HX := Lib.hid ha
          have HEQ : Hid (∀ W : World, (Op.equalIn 10000 67 (.agg #[.int .i64 (nn (ext k) 0 0 * wh), .int .i64 (nn (ext k) 0 1 * wh), .int .i64 (nn (ext k) 0 2 * wh), .int .i64 (nn (ext k) 0 3 * wh), .int .i64 (nn (ext k) 1 0 * wh), .int .i64 (nn (ext k) 1 1 * wh), .int .i64 (nn (ext k) 1 2 * wh), .int .i64 (nn (ext k) 1 3 * wh), .int .i64 (nn (ext k) 2 0 * wh), .int .i64 (nn (ext k) 2 1 * wh), .int .i64 (nn (ext k) 2 2 * wh), .int .i64 (nn (ext k) 2 3 * wh), .int .i64 (nn (ext k) 3 0 * wh), .int .i64 (nn (ext k) 3 1 * wh), .int .i64 (nn (ext k) 3 2 * wh), .int .i64 (nn (ext k) 3 3 * wh)]) (.agg #[.int .i64 (nn xss 0 0 * 2), .int .i64 (nn xss 0 1 * 2), .int .i64 (nn xss 0 2 * 2), .int .i64 (nn xss 0 3 * 2), .int .i64 (nn xss 1 0 * 2), .int .i64 (nn xss 1 1 * 2), .int .i64 (nn xss 1 2 * 2), .int .i64 (nn xss 1 3 * 2), .int .i64 (nn xss 2 0 * 2), .int .i64 (nn xss 2 1 * 2), .int .i64 (nn xss 2 2 * 2), .int .i64 (nn xss 2 3 * 2), .int .i64 (nn xss 3 0 * 2), .int .i64 (nn xss 3 1 * 2), .int .i64 (nn xss 3 2 * 2), .int .i64 (nn xss 3 3 * 2)])).run Try.prog W = .ok false W) := Lib.hid (fun W => by
            have h1 := eqq.eq16 (frf.flat (fun r c => nn (ext k) r c * wh)) (frf.flat (fun r c => nn xss r c * 2)) W
            rw [Bool.eq_false_iff.2 (fun h => ha ((alike_flat HL4.out).2 ((eqq.all_iff _ _).1 h)))] at h1
            exact h1)
          have hEQ := HEQ.out
          clear ha
          go_region_held3 (fun w' => w'.cell? ⟨w.heap.size, 2, none⟩ = some (.int .i64 wh) ∧ w'.cell? ⟨wi.heap.size, 0, none⟩ = some (.int .i64 2) ∧ w'.cell? ⟨wi.heap.size, 1, none⟩ = some (.int .i64 2) ∧ w'.cell? ⟨wi.heap.size, 2, none⟩ = some (.int .i64 2) ∧ w'.cell? ⟨wi.heap.size, 3, none⟩ = some (.slice ua ul uc) ∧ w'.cell? ⟨tb, 0, none⟩ = some (.int .i64 (nn xss 0 0 * 2)) ∧ w'.cell? ⟨tb, 1, none⟩ = some (.int .i64 (nn xss 0 1 * 2)) ∧ w'.cell? ⟨tb, 2, none⟩ = some (.int .i64 (nn xss 0 2 * 2)) ∧ w'.cell? ⟨tb, 3, none⟩ = some (.int .i64 (nn xss 0 3 * 2)) ∧ w'.cell? ⟨tb, 4, none⟩ = some (.int .i64 (nn xss 1 0 * 2)) ∧ w'.cell? ⟨tb, 5, none⟩ = some (.int .i64 (nn xss 1 1 * 2)) ∧ w'.cell? ⟨tb, 6, none⟩ = some (.int .i64 (nn xss 1 2 * 2)) ∧ w'.cell? ⟨tb, 7, none⟩ = some (.int .i64 (nn xss 1 3 * 2)) ∧ w'.cell? ⟨tb, 8, none⟩ = some (.int .i64 (nn xss 2 0 * 2)) ∧ w'.cell? ⟨tb, 9, none⟩ = some (.int .i64 (nn xss 2 1 * 2)) ∧ w'.cell? ⟨tb, 10, none⟩ = some (.int .i64 (nn xss 2 2 * 2)) ∧ w'.cell? ⟨tb, 11, none⟩ = some (.int .i64 (nn xss 2 3 * 2)) ∧ w'.cell? ⟨tb, 12, none⟩ = some (.int .i64 (nn xss 3 0 * 2)) ∧ w'.cell? ⟨tb, 13, none⟩ = some (.int .i64 (nn xss 3 1 * 2)) ∧ w'.cell? ⟨tb, 14, none⟩ = some (.int .i64 (nn xss 3 2 * 2)) ∧ w'.cell? ⟨tb, 15, none⟩ = some (.int .i64 (nn xss 3 3 * 2)) ∧ Below wa.heap.size wa w')
            ((refine heldx cw d0 d1 d2 d3 t0 t1 t2 t3 t4 t5 t6 t7 t8 t9 t10 t11 t12 t13 t14 t15 ?_; repeat (first | (with_reducible exact Below.refl _ _) | (with_reducible assumption) | (with_reducible refine below_dr ?_) | (with_reducible refine below_tr ?_ (by assumption)))))
            (first
              | (go_at_call 67; (with_reducible refine (HFR.out _ ?_).mono ?_); (with_reducible exact below_dr (Below.refl _ _)); rintro e w5 ⟨rfl, hb1⟩)
              | (go_at_call 68; (with_reducible refine (HTM.out _).mono ?_); rintro e w6 ⟨rfl, hb2⟩))
          have hbt := Lib.hid (below_tr (below_tr (below_dr (Below.refl wa.heap.size wa)) hb1) hb2)
          have hba := Lib.hid (below_tr HAL.out hbt.out)
          have B9 := Lib.hid (below_tr B3.out (below_tr hB.out hba.out))
          have B9' := Lib.hid (below_tr hB.out hba.out)
          have M9 : Hid (∀ q, wp.heap.size ≤ q → q < w4.heap.size → w6.heap[q]? = w4.heap[q]?) := Lib.hid (fun q h1 h2 => (hba.out.block q (Nat.lt_of_lt_of_le h2 hB.out.size)).trans (hM.out q h1 h2))
          clear hb1 hb2 cw d0 d1 d2 d3 t0 t1 t2 t3 t4 t5 t6 t7 t8 t9 t10 t11 t12 t13 t14 t15 hEQ HEQ HFR HTM hbt hba
          go_wp2_with fail
          go_roundw
          case rel =>
            refine ⟨k + 1, by omega, by go_num, Lib.hid (fun j hj => ?_), B9', M9⟩
            by_cases e : j = k
            · subst e; exact HX.out
            · exact hN.out j (by omega)
          case measure => simp [intOf]; omega
      · have hkz : ¬ (k : Int) < 24 := by omega
        have HX : Hid (¬ isx wh xss) := Lib.hid (by
          rintro ⟨i, hi, ha⟩
          exact hN.out i (by omega) ha)
        go_wp2_with fail
        go_ret2
        exact ⟨evb.ret_p (isB_no HX.out).symm, below_tr B3.out hB.out⟩
  · rw [qtB_no hq] at hr
    rw [res_no hq]
    have HR := Lib.hid hr
    clear hr hq
    go_enter Try.func25, Try.ntmps25
    go_wp2_with fail
    refine HR.out.mono ?_
    rintro e w1 ⟨rfl, hb⟩
    have B1 := Lib.hid (below_tr B0.out hb)
    clear hb HR B0 K0
    go_wp2_with fail
    go_ret2
    exact ⟨rfl, B1.out⟩


end Go.Proofs.Ytlaaiahkdkhehaa.isx
