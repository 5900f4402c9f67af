/- MixBoxes of the model: the mixed box. -/
import Derived.Test.YtiigfhigmdjooaaBuilt
import Derived.Test.YtiigfhigmdjooaaStep
import Derived.Deep.RegionHeld3
namespace Go.Proofs.Ytiigfhigmdjooaa.mix
open Go.RowKit Go.Deep Go.Proofs.Ytiigfhigmdjooaa.base
open Go.Proofs.Ytiigfhigmdjooaa.ints (ret_int infoInt infoInts)
open Go.Proofs.Ytiigfhigmdjooaa.rws (total)
open Go.Proofs.Ytiigfhigmdjooaa.val (okSizes okBox boxB boxB_yes boxB_no)
open Go.Proofs.Ytiigfhigmdjooaa.row (nn nn_bd at_ at_lt)

def N (xss yss : List (List Int)) (r k : Nat) : Int := nn xss r k + nn yss r k
theorem take_succ (M : Nat → Nat → Int) (r c : Nat) (h : c < 4) : (make.quad M r).take c ++ [M r c] = (make.quad M r).take (c + 1) := by
  obtain rfl | rfl | rfl | rfl : c = 0 ∨ c = 1 ∨ c = 2 ∨ c = 3 := by omega
  all_goals rfl
theorem lows6 {n : Nat} {w w' : World} {p0 p1 p2 p3 p4 p5 : Addr} {u0 u1 u2 u3 u4 u5 : Value} (h0 : w.cell? p0 = some u0) (h1 : w.cell? p1 = some u1) (h2 : w.cell? p2 = some u2) (h3 : w.cell? p3 = some u3) (h4 : w.cell? p4 = some u4) (h5 : w.cell? p5 = some u5)
    (l0 : p0.block < n) (l1 : p1.block < n) (l2 : p2.block < n) (l3 : p3.block < n) (l4 : p4.block < n) (l5 : p5.block < n) (h : step.Low n w w') :
    w'.cell? p0 = some u0 ∧ w'.cell? p1 = some u1 ∧ w'.cell? p2 = some u2 ∧ w'.cell? p3 = some u3 ∧ w'.cell? p4 = some u4 ∧ w'.cell? p5 = some u5 :=
  ⟨(h _ l0).trans h0, (h _ l1).trans h1, (h _ l2).trans h2, (h _ l3).trans h3, (h _ l4).trans h4, (h _ l5).trans h5⟩
/-- the four cells of a row -/
theorem rowcells {x y wh : Int} {xss : List (List Int)} {w : World} {r : Nat} {u : Value} (h : okBox x y wh xss) (hr : r < xss.length) (hu : Ints w u xss[r]) :
    ∃ (b2 o2 cap2 : Nat), u = .slice (some ⟨b2, o2, none⟩) 4 cap2 ∧ (∀ k, k < 4 → w.cell? ⟨b2, o2 + k, none⟩ = some (.int .i64 (nn xss r k))) ∧ (∀ k, k < 4 → 0 ≤ nn xss r k ∧ nn xss r k ≤ 1000) := by
  obtain ⟨b2, o2, cap2, e, _, _, k0, k1, k2, k3⟩ := row.cells4 (W := w) h hr (by rw [row.getD_lt hr]; exact hu)
  refine ⟨b2, o2, cap2, e, fun k hk => ?_, fun k hk => nn_bd h hr hk⟩
  obtain rfl | rfl | rfl | rfl : k = 0 ∨ k = 1 ∨ k = 2 ∨ k = 3 := by omega
  · exact k0
  · exact k1
  · exact k2
  · exact k3

/-- rows of four numbers each, not too great ones -/
def wide (n : Nat) (wh : Int) (yss : List (List Int)) : Prop := yss.length = n ∧ (0 ≤ wh ∧ wh ≤ 1000000) ∧ ∀ r (h : r < yss.length), yss[r].length = 4 ∧ ∀ k, k < 4 → 0 ≤ nn yss r k ∧ nn yss r k ≤ 1000000
theorem rowcellsw {n : Nat} {wh : Int} {xss : List (List Int)} {w : World} {r : Nat} {u : Value} (h : wide n wh xss) (hr : r < xss.length) (hu : Ints w u xss[r]) :
    ∃ (b2 o2 cap2 : Nat), u = .slice (some ⟨b2, o2, none⟩) 4 cap2 ∧ (∀ k, k < 4 → w.cell? ⟨b2, o2 + k, none⟩ = some (.int .i64 (nn xss r k))) ∧ (∀ k, k < 4 → 0 ≤ nn xss r k ∧ nn xss r k ≤ 1000000) := by
  obtain ⟨hl, hb⟩ := h.2.2 r hr
  obtain ⟨A, b, o, cap, hv, h1, h2, h3, hc⟩ := hu.form
  rw [hl] at hv h1 h3
  rw [h3 (by omega)] at hv
  refine ⟨b, o, cap, hv, fun k hk => ?_, hb⟩
  have := hc k (by omega)
  have e : nn xss r k = xss[r][k]'(by omega) := by
    unfold nn
    rw [row.getD_lt hr]
    simp [List.getD, show k < xss[r].length by omega]
  rw [e]
  exact this

set_option maxRecDepth 20000 in
set_option maxHeartbeats 4000000 in
theorem l2mixw (x y wh wh' : Int) (v v' : Value) (xss yss : List (List Int)) (w : World) (h : IRows w v xss) (h' : IRows w v' yss) (hok : okBox x y wh xss) (hok' : wide xss.length wh' yss) :
    Calls Try.prog 70 #[.agg #[.int .i64 x, .int .i64 y, .int .i64 wh, v], .agg #[.int .i64 x, .int .i64 y, .int .i64 wh', v']] w fun e w' => ∃ u, e = .returned (.agg #[.int .i64 x, .int .i64 y, .int .i64 (wh + wh'), u]) ∧ built.Apart w' (w.heap.size + 1 + 1) u xss.length (make.quad (N xss yss)) ∧ Below w.heap.size w w' := by
  obtain ⟨i0, hi, hz0, hz1, hz2⟩ := info_parts infoInt
  obtain ⟨s0, si, sz0, sz1, sz2⟩ := info_parts infoInts
  have kw : IntKind.i64.wrap (wh + wh') = wh + wh' := IntWalk.i64_in _ (by have := hok.2.1; have := hok'.2.1; omega)
  have hl9 := val.ok_len hok
  have hle : yss.length = xss.length := hok'.1
  have hw1 := hok.2.1.2
  have hw2 := hok'.2.1.2
  have hpos : 0 < xss.length := by have h1 := hok.2.2.1; have := val.mul_small hok.1; omega
  obtain ⟨va, b, o, vc, R, rfl, _, _, hA, hc⟩ := h.form
  obtain ⟨va', b', o', vc', R', rfl, _, _, hA', hc'⟩ := h'.form
  obtain rfl := hA hpos
  obtain rfl := hA' (by omega)
  have HOK := Lib.hid hok
  have HOK' := Lib.hid hok'
  have HC := Lib.hid hc
  have HC' := Lib.hid hc'
  have HLE := Lib.hid hle
  clear h h' hok hok' hc hc' hle hA hA'
  have K0 := Lib.hid ((Blk.new w 28 #[.int .i64 x, .int .i64 y, .int .i64 wh, .slice (some ⟨b, o, none⟩) xss.length vc]).alloc (.cells #[.int .i64 x, .int .i64 y, .int .i64 wh', .slice (some ⟨b', o', none⟩) yss.length vc'] 28))
  have K1 : Hid (Blk ((w.alloc (.cells #[.int .i64 x, .int .i64 y, .int .i64 wh, .slice (some ⟨b, o, none⟩) xss.length vc] 28)).alloc (.cells #[.int .i64 x, .int .i64 y, .int .i64 wh', .slice (some ⟨b', o', none⟩) yss.length vc'] 28)) (w.heap.size + 1) 28 #[.int .i64 x, .int .i64 y, .int .i64 wh', .slice (some ⟨b', o', none⟩) yss.length vc']) := Lib.hid (by
    have := Blk.new (w.alloc (.cells #[.int .i64 x, .int .i64 y, .int .i64 wh, .slice (some ⟨b, o, none⟩) xss.length vc] 28)) 28 #[.int .i64 x, .int .i64 y, .int .i64 wh', .slice (some ⟨b', o', none⟩) yss.length vc']
    simpa using this)
  have B0 := Lib.hid (below_al (below_al (Below.refl w.heap.size w) (.cells #[.int .i64 x, .int .i64 y, .int .i64 wh, .slice (some ⟨b, o, none⟩) xss.length vc] 28)) (.cells #[.int .i64 x, .int .i64 y, .int .i64 wh', .slice (some ⟨b', o', none⟩) yss.length vc'] 28))
  have HW0 : Hid (built.Built ((w.alloc (.cells #[.int .i64 x, .int .i64 y, .int .i64 wh, .slice (some ⟨b, o, none⟩) xss.length vc] 28)).alloc (.cells #[.int .i64 x, .int .i64 y, .int .i64 wh', .slice (some ⟨b', o', none⟩) yss.length vc'] 28)) (((((w.alloc (.cells #[.int .i64 x, .int .i64 y, .int .i64 wh, .slice (some ⟨b, o, none⟩) xss.length vc] 28)).alloc (.cells #[.int .i64 x, .int .i64 y, .int .i64 wh', .slice (some ⟨b', o', none⟩) yss.length vc'] 28)).alloc (.cells #[.int .i64 0, .int .i64 0, .int .i64 0, .slice none 0 0] 28)).alloc (.cells #[] 39)).alloc (.cells #[.int .i64 x, .int .i64 y, .int .i64 (wh + wh'), .slice (some ⟨w.heap.size + 1 + 1 + 1, 0, none⟩) 0 0] 28)) (w.heap.size + 1 + 1) (w.heap.size + 1 + 1 + 1 + 1) (w.heap.size + 1 + 1) x y (wh + wh') 0 (((((w.alloc (.cells #[.int .i64 x, .int .i64 y, .int .i64 wh, .slice (some ⟨b, o, none⟩) xss.length vc] 28)).alloc (.cells #[.int .i64 x, .int .i64 y, .int .i64 wh', .slice (some ⟨b', o', none⟩) yss.length vc'] 28)).alloc (.cells #[.int .i64 0, .int .i64 0, .int .i64 0, .slice none 0 0] 28)).alloc (.cells #[] 39)).alloc (.cells #[.int .i64 x, .int .i64 y, .int .i64 (wh + wh'), .slice (some ⟨w.heap.size + 1 + 1 + 1, 0, none⟩) 0 0] 28)).heap.size (.slice (some ⟨w.heap.size + 1 + 1 + 1, 0, none⟩) 0 0) [] (make.quad (N xss yss))) := Lib.hid (by
    refine ⟨below_al (below_al (below_al (Below.refl _ _) _) _) _, by simp, ⟨by simp, by omega⟩, ?_, ?_, ?_, fun r u hu => by simp at hu, by simp <;> omega, Nat.le_refl _⟩
    · have := Blk.new ((((w.alloc (.cells #[.int .i64 x, .int .i64 y, .int .i64 wh, .slice (some ⟨b, o, none⟩) xss.length vc] 28)).alloc (.cells #[.int .i64 x, .int .i64 y, .int .i64 wh', .slice (some ⟨b', o', none⟩) yss.length vc'] 28)).alloc (.cells #[.int .i64 0, .int .i64 0, .int .i64 0, .slice none 0 0] 28)).alloc (.cells #[] 39)) 28 #[.int .i64 x, .int .i64 y, .int .i64 (wh + wh'), .slice (some ⟨w.heap.size + 1 + 1 + 1, 0, none⟩) 0 0]
      simpa using this
    · have := ((Blk.new ((w.alloc (.cells #[.int .i64 x, .int .i64 y, .int .i64 wh, .slice (some ⟨b, o, none⟩) xss.length vc] 28)).alloc (.cells #[.int .i64 x, .int .i64 y, .int .i64 wh', .slice (some ⟨b', o', none⟩) yss.length vc'] 28)) 28 #[.int .i64 0, .int .i64 0, .int .i64 0, .slice none 0 0]).alloc (.cells #[] 39)).alloc (.cells #[.int .i64 x, .int .i64 y, .int .i64 (wh + wh'), .slice (some ⟨w.heap.size + 1 + 1 + 1, 0, none⟩) 0 0] 28)
      simpa using this
    · have := World.ownsRow_made (base := w.heap.size + 1 + 1) (e := 39) (size := 1) (((w.alloc (.cells #[.int .i64 x, .int .i64 y, .int .i64 wh, .slice (some ⟨b, o, none⟩) xss.length vc] 28)).alloc (.cells #[.int .i64 x, .int .i64 y, .int .i64 wh', .slice (some ⟨b', o', none⟩) yss.length vc'] 28)).alloc (.cells #[.int .i64 0, .int .i64 0, .int .i64 0, .slice none 0 0] 28)) #[] 0 (by simp) (Nat.zero_le _) rfl
      have := this.alloc (.cells #[.int .i64 x, .int .i64 y, .int .i64 (wh + wh'), .slice (some ⟨w.heap.size + 1 + 1 + 1, 0, none⟩) 0 0] 28)
      simpa using this)
  go_enter Try.func70, Try.ntmps70
  go_wp2_with fail
  go_loopw [6, 7, 8] (fun i p7 p8 wr => ∃ r : Nat, r ≤ xss.length ∧ i = .int .i64 r ∧ (∃ z, p7 = z) ∧ (∃ z, p8 = z) ∧ ∃ v vals m, Hid (built.Built ((w.alloc (.cells #[.int .i64 x, .int .i64 y, .int .i64 wh, .slice (some ⟨b, o, none⟩) xss.length vc] 28)).alloc (.cells #[.int .i64 x, .int .i64 y, .int .i64 wh', .slice (some ⟨b', o', none⟩) yss.length vc'] 28)) wr (w.heap.size + 1 + 1) (w.heap.size + 1 + 1 + 1 + 1) (w.heap.size + 1 + 1) x y (wh + wh') r m v vals (make.quad (N xss yss)))) (fun i _ _ _ => xss.length - (intOf i).toNat)
  case atStart => exact ⟨0, Nat.zero_le _, rfl, ⟨_, rfl⟩, ⟨_, rfl⟩, _, _, _, HW0⟩
  case round =>
    obtain ⟨r, hr, rfl, ⟨z7, rfl⟩, ⟨z8, rfl⟩, v, vals, m, hW⟩ := hrel
    clear HW0
    obtain ⟨wo, rfl⟩ : ∃ wo : World, wo = wr := ⟨_, rfl⟩
    obtain ⟨p0, p1, p2, p3, p4⟩ := four_cells (K0.out.below hW.out.below)
    by_cases hlt : r < xss.length
    · have hkz : (r : Int) < (xss.length : Int) := by omega
      have hkz' : (r : Int) < (yss.length : Int) := by have := HLE.out; omega
      have hlt' : r < yss.length := by have := HLE.out; omega
      obtain ⟨gr0, gr1⟩ := HC.out r hlt
      obtain ⟨gs0, gs1⟩ := HC'.out r hlt'
      obtain ⟨b2, o2, cap2, hR2, hcx, hbx⟩ := rowcells HOK.out hlt gr1
      obtain ⟨b3, o3, cap3, hR3, hcy, hby⟩ := rowcellsw HOK'.out hlt' gs1
      rw [hR2] at gr0
      rw [hR3] at gs0
      have HCX := Lib.hid hcx
      have HCY := Lib.hid hcy
      have HBX := Lib.hid hbx
      have HBY := Lib.hid hby
      have GR := Lib.hid gr0
      have GS := Lib.hid gs0
      have HLT := Lib.hid hlt
      have W1 := Lib.hid (hW.out.fresh.keep (below_al (Below.refl _ _) (.cells #[] 3)))
      have hq0 : Hid ((wo.alloc (.cells #[] 3)).ownsRow wo.heap.size 3 1 (.slice (some ⟨wo.heap.size, 0, none⟩) 0 0) 0 (i64s ((make.quad (N xss yss)) r |>.take 0))) := Lib.hid (by
        have := World.ownsRow_made (base := wo.heap.size) (e := 3) (size := 1) wo #[] 0 (by simp) (Nat.zero_le _) rfl
        simpa [i64s] using this)
      obtain ⟨mm, hmm⟩ : ∃ mm, wo.heap.size = mm := ⟨_, rfl⟩
      clear hcx hcy hbx hby gr0 gs0 gr1 gs1 hR2 hR3
      go_wp2_with fail
      clear p0 p1 p2 p3 p4
      go_loopw [7, 8] (fun q j wi => ∃ c : Nat, c ≤ 4 ∧ j = .int .i64 c ∧ Hid (wi.ownsRow mm 3 1 q c (i64s ((make.quad (N xss yss)) r |>.take c))) ∧ Hid (built.Built ((w.alloc (.cells #[.int .i64 x, .int .i64 y, .int .i64 wh, .slice (some ⟨b, o, none⟩) xss.length vc] 28)).alloc (.cells #[.int .i64 x, .int .i64 y, .int .i64 wh', .slice (some ⟨b', o', none⟩) yss.length vc'] 28)) wi (w.heap.size + 1 + 1) (w.heap.size + 1 + 1 + 1 + 1) (w.heap.size + 1 + 1) x y (wh + wh') r mm v vals (make.quad (N xss yss)))) (fun _ j _ => 4 - (intOf j).toNat)
      case atStart => exact ⟨0, Nat.zero_le _, rfl, by rw [← hmm]; exact hq0, by rw [← hmm]; exact W1⟩
      case round =>
        obtain ⟨c, hcl, rfl, hq, hW1⟩ := hrel
        clear W1 hq0 hmm hW
        obtain ⟨wi, rfl⟩ : ∃ wi : World, wi = wr := ⟨_, rfl⟩
        by_cases hlc : c < 4
        · have hkc : (c : Int) < 4 := by omega
          obtain ⟨p0, p1, p2, p3, p4⟩ := four_cells (K0.out.below hW1.out.below)
          obtain ⟨t0, t1, t2, t3, t4⟩ := four_cells (K1.out.below hW1.out.below)
          have BI := Lib.hid (below_tr B0.out hW1.out.below)
          have e2 := below_cell BI.out _ _ GR.out
          have e3 := below_cell BI.out _ _ GS.out
          have e4 := below_cell BI.out _ _ (HCX.out c hlc)
          have e5 := below_cell BI.out _ _ (HCY.out c hlc)
          have bd := HBX.out c hlc
          have bd' := HBY.out c hlc
          have HDT := Lib.hid (take_succ (N xss yss) r c hlc)
          have hNN : N xss yss r c = nn xss r c + nn yss r c := rfl
          rw [hNN] at HDT
          have l0 : w.heap.size < w.heap.size + 1 + 1 := by omega
          have l1 : w.heap.size + 1 < w.heap.size + 1 + 1 := by omega
          have l2 : b < w.heap.size + 1 + 1 := by have := World.block_lt_of_cell? _ _ GR.out; simp at this; omega
          have l3 : b' < w.heap.size + 1 + 1 := by have := World.block_lt_of_cell? _ _ GS.out; simp at this; omega
          have l4 : b2 < w.heap.size + 1 + 1 := by have := World.block_lt_of_cell? _ _ (HCX.out 0 (by omega)); simp at this; omega
          have l5 : b3 < w.heap.size + 1 + 1 := by have := World.block_lt_of_cell? _ _ (HCY.out 0 (by omega)); simp at this; omega
          have lw : w.heap.size + 1 + 1 ≤ wi.heap.size := by have := hW1.out.below.size; simp at this; omega
          have hge := hW1.out.ge
          have hszm := hW1.out.le
          generalize nn xss r c = n at *
          generalize nn yss r c = n' at *
          have kn : IntKind.i64.wrap (n + n') = n + n' := IntWalk.i64_in _ (by omega)
          have HQA := Lib.hid ((app.owns_below hq.out (below_dr (below_al (Below.refl _ _) (.cells #[.int .i64 (n + n')] 3)))))
          have HWA := Lib.hid (hW1.out.keep (below_dr (below_al (Below.refl _ _) (.cells #[.int .i64 (n + n')] 3))))
          clear hNN bd bd' p0 p1 p2 p4 t0 t1 t2 t4
          go_wp2_with fail
          go_region_held3 (fun w' => w'.cell? ⟨w.heap.size, 3, none⟩ = some (.slice (some ⟨b, o, none⟩) xss.length vc) ∧ w'.cell? ⟨w.heap.size + 1, 3, none⟩ = some (.slice (some ⟨b', o', none⟩) yss.length vc') ∧ w'.cell? ⟨b, o + r, none⟩ = some (.slice (some ⟨b2, o2, none⟩) 4 cap2) ∧ w'.cell? ⟨b', o' + r, none⟩ = some (.slice (some ⟨b3, o3, none⟩) 4 cap3) ∧ w'.cell? ⟨b2, o2 + c, none⟩ = some (.int .i64 n) ∧ w'.cell? ⟨b3, o3 + c, none⟩ = some (.int .i64 n'))
            ((refine lows6 p3 t3 e2 e3 e4 e5 l0 l1 l2 l3 l4 l5 ?_; repeat (first | (with_reducible exact L3.out) | (with_reducible exact step.Low.refl _ _) | (with_reducible refine step.Low.drew ?_) | (with_reducible refine step.Low.alloc ?_ (by first | omega | (simp; omega)) _))))
            (first
              | (refine step.own rfl (.tmp 32) (.tmp 50) 39 rfl 3 i0 (.int .i64 0) 1 8 Try.underlying39 hi hz0 hz1 hz2 rfl (by decide) mm _ c _ HQA.out (by simp [Act.eval]) ⟨wi.heap.size, 0, none⟩ 1 1 [.int .i64 (n + n')] (by simp [Act.eval]) rfl (by intro j u hj; have := app.one_at wi (.int .i64 (n + n')) 3; exact this j u hj) (by intro u hu; simp at hu; subst hu; rfl) (by unfold maxLen; omega) (by omega) (by simp; omega) ?_; intro v' w3 hown' hgrow; have L3 := Lib.hid (step.Low.grown (w := wi) (n := w.heap.size + 1 + 1) (step.Low.drew (step.Low.alloc (step.Low.refl _ _) lw (.cells #[.int .i64 (n + n')] 3))) hgrow (by first | omega | (simp; omega)) (fun q hq2 => by have h1 := (HQA.out.lt q hq2).1; simp at hge; omega))))
          have W3 := Lib.hid (HWA.out.inner HQA.out hgrow)
          have Q3 : Hid (w3.ownsRow mm 3 1 v' (c + 1) (i64s ((make.quad (N xss yss)) r |>.take (c + 1)))) := Lib.hid (by rw [← HDT.out, ← app.i64s_snoc]; exact hown')
          clear hown' hgrow hq hW1 HQA HWA p3 t3 e2 e3 e4 e5 kn L3
          go_wp2_with fail
          go_roundw
          case rel => exact ⟨c + 1, by omega, by go_num, Q3, W3⟩
          case measure => simp [intOf]; omega
        · have hkc : ¬ (c : Int) < 4 := by omega
          have hc4 : c = 4 := by omega
          obtain ⟨qa, ql, qc, rfl⟩ := make.shape hq.out
          have Q4 : Hid (wi.ownsRow mm 3 1 (.slice qa ql qc) ((make.quad (N xss yss)) r).length (i64s ((make.quad (N xss yss)) r))) := Lib.hid (by
            have := hq.out
            rw [hc4] at this
            exact this)
          obtain ⟨f0, f1, f2, f3, f4⟩ := four_cells hW1.out.blk
          have f3' := fun (o1 : Obj) => below_cell (below_al (Below.refl _ _) o1) _ _ f3
          have hsz := hW1.out.below.size
          have hszm := hW1.out.le
          have hge := hW1.out.ge
          have hbz := hW1.out.blk.lt
          clear hc4 hq
          go_wp2_with (at_builtin; go_must (refine wpList_append_own _ rfl (.tmp 53) (.tmp 55) 22 rfl (w.heap.size + 1 + 1) 39 s0 (.slice none 0 0) 1 24 Try.underlying22 si sz0 sz1 sz2 rfl (by decide) _ _ _ rfl ((hW1.out.owns).alloc _) ⟨wi.heap.size, 0, none⟩ 1 1 [.slice qa ql qc] rfl rfl ?d1x0 ?d2x0 ?d3x0 ?d4x0 ?d5x0 ?_))
          try (case d1x0 => first | exact app.one_at _ _ _ | (have := app.one_at wi (.slice qa ql qc) 39; simpa using this))
          case d2x0 => first | rfl | (intro u hu; simp at hu; subst hu; rfl) | simp
          case d3x0 => unfold maxLen; omega
          case d4x0 => omega
          case d5x0 => first | omega | (simp; omega)
          intro v' w3 hown' hgrow _
          have HG := Lib.hid (hW1.out.keep (below_al (Below.refl _ _) (.cells #[.slice qa ql qc] 39)))
          obtain ⟨e1, e2⟩ := HG.out.field hgrow
          have hmB : w.heap.size + 1 + 1 ≤ mm := by have := hge; simp at this; omega
          have W4 := Lib.hid (HG.out.grow (Q4.out.alloc (.cells #[.slice qa ql qc] 39)) hmB hown' hgrow)
          obtain ⟨xa, xl, xc, rfl⟩ := make.shape hown'
          clear hown' hgrow hW1 HG Q4 f0 f1 f2 f3 f4 f3'
          go_wp2_with fail
          go_roundw
          case rel => exact ⟨r + 1, by omega, by go_num, ⟨_, rfl⟩, ⟨_, rfl⟩, _, _, _, W4⟩
          case measure => simp [intOf]; omega
    · have hkz : ¬ (r : Int) < (xss.length : Int) := by omega
      have hre : r = xss.length := by omega
      obtain ⟨xa, xl, xc, rfl⟩ := make.shape hW.out.owns
      obtain ⟨f0, f1, f2, f3, f4⟩ := four_cells hW.out.blk
      obtain ⟨r0, r1, r2, r3, r4⟩ := four_cells hW.out.res
      have rf : ∀ k, wo.frozen? ⟨w.heap.size + 1 + 1, k, none⟩ = false := fun k => Joins.unfrozen_of_block hW.out.res k
      have HW := hW
      have HRE := Lib.hid hre
      clear hW hre
      go_wp2_with fail
      refine bodyPost_ret (v := .agg #[.int .i64 x, .int .i64 y, .int .i64 (wh + wh'), .slice xa xl xc]) (by simp [results, Try.results70, go_sem, r0, r1, r2, r3]) rfl ⟨_, rfl, ?_, ?_⟩
      · rw [← HRE.out]
        refine HW.out.apart ?_
        repeat (first | exact Wrote.refl _ _ | refine Wrote.setCell ?_ (by simp) _)
      · repeat (refine Below.setCell ?_ (by simp <;> omega) _)
        exact below_tr B0.out HW.out.below


theorem wide_of {x y wh wh' : Int} {xss yss : List (List Int)} (h : okBox x y wh xss) (h' : okBox x y wh' yss) : wide xss.length wh' yss :=
  ⟨by have h1 := h.2.2.1; have h2 := h'.2.2.1; omega, by have := h'.2.1; omega, fun r hr => ⟨(h'.2.2.2 r hr).1, fun k hk => by have := nn_bd h' hr hk; omega⟩⟩

theorem l2mix (x y wh wh' : Int) (v v' : Value) (xss yss : List (List Int)) (w : World) (h : IRows w v xss) (h' : IRows w v' yss) (hok : okBox x y wh xss) (hok' : okBox x y wh' yss) :
    Calls Try.prog 70 #[.agg #[.int .i64 x, .int .i64 y, .int .i64 wh, v], .agg #[.int .i64 x, .int .i64 y, .int .i64 wh', v']] w fun e w' => ∃ u, e = .returned (.agg #[.int .i64 x, .int .i64 y, .int .i64 (wh + wh'), u]) ∧ built.Apart w' (w.heap.size + 1 + 1) u xss.length (make.quad (N xss yss)) ∧ Below w.heap.size w w' :=
  l2mixw x y wh wh' v v' xss yss w h h' hok (wide_of hok hok')


end Go.Proofs.Ytiigfhigmdjooaa.mix
