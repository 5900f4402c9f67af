/- ScaleBox of the model. -/
import Derived.Test.YtneonebgneonkaaScale
import Derived.Test.YtneonebgneonkaaBuilt
namespace Go.Proofs.Ytneonebgneonkaa.scale
open Go.RowKit Go.Deep Go.Proofs.Ytneonebgneonkaa.base
open Go.Proofs.Ytneonebgneonkaa.ints (ret_int infoInt infoInts)
open Go.Proofs.Ytneonebgneonkaa.rws (total)
open Go.Proofs.Ytneonebgneonkaa.val (okSizes okBox boxB boxB_yes boxB_no)

def D (xss : List (List Int)) (kk : Int) (r : Nat) : List Int := (xss.getD r []).map (· * kk)
theorem D_take {xss : List (List Int)} {kk : Int} {r j : Nat} (hr : r < xss.length) (hj : j < xss[r].length) : (D xss kk r).take j ++ [xss[r][j] * kk] = (D xss kk r).take (j + 1) := by
  unfold D
  rw [row.getD_lt hr, List.take_add_one]
  simp [hj]
theorem D_len {xss : List (List Int)} {kk : Int} {r : Nat} (hr : r < xss.length) : (D xss kk r).length = xss[r].length := by
  unfold D; rw [row.getD_lt hr]; simp

theorem wrapm0 {n kk : Int} (h0 : 0 ≤ n) (h1 : n ≤ 1000) (k0 : 0 ≤ kk) (k1 : kk ≤ 1000) : IntKind.i64.wrap (n * kk) = n * kk := by
  have a := Int.mul_nonneg h0 k0
  have b : n * kk ≤ 1000 * 1000 := Int.mul_le_mul h1 k1 k0 (by omega)
  exact IntWalk.i64_in _ (by omega)
set_option maxHeartbeats 4000000 in
theorem l2times0 (x y wh : Int) (v : Value) (xss : List (List Int)) (kk : Int) (w : World) (h : IRows w v xss) (hok : okBox x y wh xss) (k0 : 0 ≤ kk) (k1 : kk ≤ 1000) :
    Calls Try.prog 92 #[.agg #[.int .i64 x, .int .i64 y, .int .i64 wh, v], .int .i64 kk, .int .i64 1] w fun e w' => ∃ u, e = .returned (.agg #[.int .i64 x, .int .i64 y, .int .i64 (wh * kk), u]) ∧ built.Apart w' (w.heap.size + 1) u xss.length (D xss kk) ∧ Below w.heap.size w w' := by
  obtain ⟨i0, hi, hz0, hz1, hz2⟩ := info_parts infoInt
  obtain ⟨s0, si, sz0, sz1, sz2⟩ := info_parts infoInts
  have kw : IntKind.i64.wrap (wh * kk) = wh * kk := wrapm0 (by have := hok.2.1; omega) hok.2.1.2 k0 k1
  have HOK := Lib.hid hok
  have hl9 := val.ok_len hok
  obtain ⟨va, b, o, vc, R, rfl, _, _, hA, hc⟩ := h.form
  have HC := Lib.hid hc
  clear h hok hc
  have B0 := Lib.hid (below_al (Below.refl w.heap.size w) (.cells #[.int .i64 x, .int .i64 y, .int .i64 wh, .slice va xss.length vc] 48))
  have K0 := Lib.hid (Blk.new w 48 #[.int .i64 x, .int .i64 y, .int .i64 wh, .slice va xss.length vc])
  go_enter Try.func92, Try.ntmps92
  go_wp2_with fail
  have HW00 : Hid (built.Built (w.alloc (.cells #[.int .i64 x, .int .i64 y, .int .i64 wh, .slice va xss.length vc] 48)) ((((w.alloc (.cells #[.int .i64 x, .int .i64 y, .int .i64 wh, .slice va xss.length vc] 48)).alloc (.cells #[.int .i64 0, .int .i64 0, .int .i64 0, .slice none 0 0] 48)).alloc (.cells #[] 22)).alloc (.cells #[.int .i64 x, .int .i64 y, .int .i64 (wh * kk), .slice (some ⟨w.heap.size + 1 + 1, 0, none⟩) 0 0] 48)).drew (w.heap.size + 1) (w.heap.size + 1 + 1 + 1) (w.heap.size + 1) x y (wh * kk) 0 ((((w.alloc (.cells #[.int .i64 x, .int .i64 y, .int .i64 wh, .slice va xss.length vc] 48)).alloc (.cells #[.int .i64 0, .int .i64 0, .int .i64 0, .slice none 0 0] 48)).alloc (.cells #[] 22)).alloc (.cells #[.int .i64 x, .int .i64 y, .int .i64 (wh * kk), .slice (some ⟨w.heap.size + 1 + 1, 0, none⟩) 0 0] 48)).drew.heap.size (.slice (some ⟨w.heap.size + 1 + 1, 0, none⟩) 0 0) [] (D xss kk)) := Lib.hid (by
    refine built.Built.keep (wr := ((((w.alloc (.cells #[.int .i64 x, .int .i64 y, .int .i64 wh, .slice va xss.length vc] 48)).alloc (.cells #[.int .i64 0, .int .i64 0, .int .i64 0, .slice none 0 0] 48)).alloc (.cells #[] 22)).alloc (.cells #[.int .i64 x, .int .i64 y, .int .i64 (wh * kk), .slice (some ⟨w.heap.size + 1 + 1, 0, none⟩) 0 0] 48))) ?_ (below_dr (Below.refl _ _))
    refine ⟨below_al (below_al (below_al (Below.refl _ _) _) _) _, by simp, by simp, ?_, ?_, ?_, fun r u hu => by simp at hu, by simp [World.drew] <;> omega, by simp [World.drew]⟩
    · have := Blk.new (((w.alloc (.cells #[.int .i64 x, .int .i64 y, .int .i64 wh, .slice va xss.length vc] 48)).alloc (.cells #[.int .i64 0, .int .i64 0, .int .i64 0, .slice none 0 0] 48)).alloc (.cells #[] 22)) 48 #[.int .i64 x, .int .i64 y, .int .i64 (wh * kk), .slice (some ⟨w.heap.size + 1 + 1, 0, none⟩) 0 0]
      simpa using this
    · have := ((Blk.new (w.alloc (.cells #[.int .i64 x, .int .i64 y, .int .i64 wh, .slice va xss.length vc] 48)) 48 #[.int .i64 0, .int .i64 0, .int .i64 0, .slice none 0 0]).alloc (.cells #[] 22)).alloc (.cells #[.int .i64 x, .int .i64 y, .int .i64 (wh * kk), .slice (some ⟨w.heap.size + 1 + 1, 0, none⟩) 0 0] 48)
      simpa using this
    · have := World.ownsRow_made (base := w.heap.size + 1) (e := 22) (size := 1) ((w.alloc (.cells #[.int .i64 x, .int .i64 y, .int .i64 wh, .slice va xss.length vc] 48)).alloc (.cells #[.int .i64 0, .int .i64 0, .int .i64 0, .slice none 0 0] 48)) #[] 0 (by simp) (Nat.zero_le _) rfl
      have := this.alloc (.cells #[.int .i64 x, .int .i64 y, .int .i64 (wh * kk), .slice (some ⟨w.heap.size + 1 + 1, 0, none⟩) 0 0] 48)
      simpa using this)
  have HW01 : Hid (built.Built (w.alloc (.cells #[.int .i64 x, .int .i64 y, .int .i64 wh, .slice va xss.length vc] 48)) ((((w.alloc (.cells #[.int .i64 x, .int .i64 y, .int .i64 wh, .slice va xss.length vc] 48)).alloc (.cells #[.int .i64 0, .int .i64 0, .int .i64 0, .slice none 0 0] 48)).alloc (.cells #[.int .i64 x, .int .i64 y, .int .i64 (wh * kk), .slice (some ⟨w.heap.size + 1 + 1 + 1, 0, none⟩) 0 0] 48)).alloc (.cells #[] 22)).drew (w.heap.size + 1) (w.heap.size + 1 + 1) (w.heap.size + 1) x y (wh * kk) 0 ((((w.alloc (.cells #[.int .i64 x, .int .i64 y, .int .i64 wh, .slice va xss.length vc] 48)).alloc (.cells #[.int .i64 0, .int .i64 0, .int .i64 0, .slice none 0 0] 48)).alloc (.cells #[.int .i64 x, .int .i64 y, .int .i64 (wh * kk), .slice (some ⟨w.heap.size + 1 + 1 + 1, 0, none⟩) 0 0] 48)).alloc (.cells #[] 22)).drew.heap.size (.slice (some ⟨w.heap.size + 1 + 1 + 1, 0, none⟩) 0 0) [] (D xss kk)) := Lib.hid (by
    refine built.Built.keep (wr := ((((w.alloc (.cells #[.int .i64 x, .int .i64 y, .int .i64 wh, .slice va xss.length vc] 48)).alloc (.cells #[.int .i64 0, .int .i64 0, .int .i64 0, .slice none 0 0] 48)).alloc (.cells #[.int .i64 x, .int .i64 y, .int .i64 (wh * kk), .slice (some ⟨w.heap.size + 1 + 1 + 1, 0, none⟩) 0 0] 48)).alloc (.cells #[] 22))) ?_ (below_dr (Below.refl _ _))
    refine ⟨below_al (below_al (below_al (Below.refl _ _) _) _) _, by simp, by simp, ?_, ?_, ?_, fun r u hu => by simp at hu, by simp [World.drew] <;> omega, by simp [World.drew]⟩
    · have := (Blk.new ((w.alloc (.cells #[.int .i64 x, .int .i64 y, .int .i64 wh, .slice va xss.length vc] 48)).alloc (.cells #[.int .i64 0, .int .i64 0, .int .i64 0, .slice none 0 0] 48)) 48 #[.int .i64 x, .int .i64 y, .int .i64 (wh * kk), .slice (some ⟨w.heap.size + 1 + 1 + 1, 0, none⟩) 0 0]).alloc (.cells #[] 22)
      simpa using this
    · have := ((Blk.new (w.alloc (.cells #[.int .i64 x, .int .i64 y, .int .i64 wh, .slice va xss.length vc] 48)) 48 #[.int .i64 0, .int .i64 0, .int .i64 0, .slice none 0 0]).alloc (.cells #[.int .i64 x, .int .i64 y, .int .i64 (wh * kk), .slice (some ⟨w.heap.size + 1 + 1 + 1, 0, none⟩) 0 0] 48)).alloc (.cells #[] 22)
      simpa using this
    · have := World.ownsRow_made (base := w.heap.size + 1) (e := 22) (size := 1) (((w.alloc (.cells #[.int .i64 x, .int .i64 y, .int .i64 wh, .slice va xss.length vc] 48)).alloc (.cells #[.int .i64 0, .int .i64 0, .int .i64 0, .slice none 0 0] 48)).alloc (.cells #[.int .i64 x, .int .i64 y, .int .i64 (wh * kk), .slice (some ⟨w.heap.size + 1 + 1 + 1, 0, none⟩) 0 0] 48)) #[] 0 (by simp) (Nat.zero_le _) rfl
      simpa using this)
  go_region
  · go_wp2_with fail
    go_loopw [8] (fun i wr => ∃ r : Nat, r ≤ xss.length ∧ i = .int .i64 r ∧ ∃ v vals m, Hid (built.Built (w.alloc (.cells #[.int .i64 x, .int .i64 y, .int .i64 wh, .slice va xss.length vc] 48)) wr (w.heap.size + 1) (w.heap.size + 1 + 1 + 1) (w.heap.size + 1) x y (wh * kk) r m v vals (D xss kk))) (fun i _ => xss.length - (intOf i).toNat)
    case atStart => exact ⟨0, Nat.zero_le _, rfl, _, _, _, HW00⟩
    case round =>
      obtain ⟨r, hr, rfl, v, vals, m, hW⟩ := hrel
      clear HW00 HW01
      obtain ⟨wo, rfl⟩ : ∃ wo : World, wo = wr := ⟨_, rfl⟩
      obtain ⟨p0, p1, p2, p3, p4⟩ := four_cells (K0.out.below hW.out.below)
      by_cases hlt : r < xss.length
      · have hkz : (r : Int) < (xss.length : Int) := by omega
        obtain rfl := hA (by omega)
        obtain ⟨gr0, gr1⟩ := HC.out r hlt
        obtain ⟨A', b', o', cap', hR, _, _, hA', hc'⟩ := gr1.form
        rw [hR] at gr0
        have ho := HOK.out.2.2.2 r hlt
        have hl4 := ho.1
        have HL4 := Lib.hid hl4
        rw [hl4] at gr0
        obtain rfl := hA' (by omega)
        have HCR := Lib.hid hc'
        have HRB := Lib.hid (fun j (hj : j < xss[r].length) => (⟨(ho.2.1 j hj).1, Int.le_trans (ho.2.1 j hj).2 HOK.out.2.1.2⟩ : 0 ≤ xss[r][j] ∧ xss[r][j] ≤ 1000))
        have hg0 := below_cell (below_tr B0.out hW.out.below) _ _ gr0
        clear hc' gr1 ho hl4
        have W1 := Lib.hid (hW.out.fresh.keep (below_al (Below.refl _ _) (.cells #[] 3)))
        have hq0 : Hid ((wo.alloc (.cells #[] 3)).ownsRow wo.heap.size 3 1 (.slice (some ⟨wo.heap.size, 0, none⟩) 0 0) 0 (i64s ((D xss kk r).take 0))) := Lib.hid (by
          have := World.ownsRow_made (base := wo.heap.size) (e := 3) (size := 1) wo #[] 0 (by simp) (Nat.zero_le _) rfl
          simpa [i64s] using this)
        obtain ⟨mm, hmm⟩ : ∃ mm, wo.heap.size = mm := ⟨_, rfl⟩
        go_wp2_with fail
        clear p0 p1 p2 p3 p4 hg0
        go_loopw [9, 10] (fun q j wi => ∃ c : Nat, c ≤ 4 ∧ j = .int .i64 c ∧ Hid (wi.ownsRow mm 3 1 q c (i64s ((D xss kk r).take c))) ∧ Hid (built.Built (w.alloc (.cells #[.int .i64 x, .int .i64 y, .int .i64 wh, .slice (some ⟨b, o, none⟩) xss.length vc] 48)) wi (w.heap.size + 1) (w.heap.size + 1 + 1 + 1) (w.heap.size + 1) x y (wh * kk) r mm v vals (D xss kk))) (fun _ j _ => 4 - (intOf j).toNat)
        case atStart => exact ⟨0, Nat.zero_le _, rfl, by rw [← hmm]; exact hq0, by rw [← hmm]; exact W1⟩
        case round =>
          obtain ⟨c, hcl, rfl, hq, hW1⟩ := hrel
          clear W1 hq0 hmm hW
          obtain ⟨p0, p1, p2, p3, p4⟩ := four_cells (K0.out.below hW1.out.below)
          have hg0 := below_cell (below_tr B0.out hW1.out.below) _ _ gr0
          by_cases hlc : c < 4
          · have hkc : (c : Int) < 4 := by omega
            have hcl' : c < xss[r].length := by have := HL4.out; omega
            have hg1 := below_cell (below_tr B0.out hW1.out.below) _ _ (HCR.out c hcl')
            have hbd := HRB.out c hcl'
            have hDT := Lib.hid (D_take (kk := kk) hlt hcl')
            generalize xss[r][c] = n at *
            have kn := wrapm0 hbd.1 hbd.2 k0 k1
            have hsz := hW1.out.below.size
            have hszm := hW1.out.le
            clear hbd hcl'
            go_wp2_with (at_builtin; go_must (refine wpList_append_own _ rfl (.tmp 41) (.tmp 54) 22 rfl mm 3 i0 (.int .i64 0) 1 8 Try.underlying22 hi hz0 hz1 hz2 rfl (by decide) _ _ _ rfl (hq.out.alloc _) ⟨wr.heap.size, 0, none⟩ 1 1 [.int .i64 (n * kk)] rfl rfl ?c1x0 ?c2x0 ?c3x0 ?c4x0 ?c5x0 ?_))
            case c1x0 => exact app.one_at _ _ _
            case c2x0 => intro u hu; simp at hu; subst hu; rfl
            case c3x0 => unfold maxLen; omega
            case c4x0 => omega
            case c5x0 => simp; omega
            intro v' w3 hown' hgrow _
            have W3 := Lib.hid ((hW1.out.keep (below_al (Below.refl _ _) (.cells #[.int .i64 (n * kk)] 3))).inner (hq.out.alloc _) hgrow)
            have Q3 : Hid (w3.ownsRow mm 3 1 v' (c + 1) (i64s ((D xss kk r).take (c + 1)))) := Lib.hid (by rw [← hDT.out, ← app.i64s_snoc]; exact hown')
            clear hown' hgrow hq hW1 p0 p1 p2 p3 p4 hg0 hg1 kn
            go_wp2_with fail
            go_roundw
            case rel => exact ⟨c + 1, by omega, by go_num, Q3, W3⟩
            case measure => simp [intOf]; omega
          · have hkc : ¬ (c : Int) < 4 := by omega
            have hc4 : c = 4 := by omega
            have hl := D_len (kk := kk) hlt
            obtain ⟨qa, ql, qc, rfl⟩ := make.shape hq.out
            have Q4 : Hid (wr.ownsRow mm 3 1 (.slice qa ql qc) (D xss kk r).length (i64s (D xss kk r))) := Lib.hid (by
              have := hq.out
              rw [List.take_of_length_le (by rw [hl, HL4.out]; omega)] at this
              rw [hl, HL4.out]; rw [← hc4]; exact this)
            obtain ⟨f0, f1, f2, f3, f4⟩ := four_cells hW1.out.blk
            have f3' := fun (o1 : Obj) => below_cell (below_al (Below.refl _ _) o1) _ _ f3
            have hsz := hW1.out.below.size
            have hszm := hW1.out.le
            have hge := hW1.out.ge
            have hbz := hW1.out.blk.lt
            clear hc4 hl hq
            go_wp2_with (at_builtin; go_must (refine wpList_append_own _ rfl (.tmp 57) (.tmp 59) 23 rfl (w.heap.size + 1) 22 s0 (.slice none 0 0) 1 24 Try.underlying23 si sz0 sz1 sz2 rfl (by decide) _ _ _ rfl ((hW1.out.owns).alloc _) ⟨wr.heap.size, 0, none⟩ 1 1 [.slice qa ql qc] rfl rfl ?d1x0 ?d2x0 ?d3x0 ?d4x0 ?d5x0 ?_))
            try (case d1x0 => first | exact app.one_at _ _ _ | (have := app.one_at wr (.slice qa ql qc) 22; simpa using this))
            case d2x0 => first | rfl | (intro u hu; simp at hu; subst hu; rfl) | simp
            case d3x0 => unfold maxLen; omega
            case d4x0 => omega
            case d5x0 => first | omega | (simp; omega)
            intro v' w3 hown' hgrow _
            have HG := Lib.hid (hW1.out.keep (below_al (Below.refl _ _) (.cells #[.slice qa ql qc] 22)))
            obtain ⟨e1, e2⟩ := HG.out.field hgrow
            have hmB : w.heap.size + 1 ≤ mm := by have := hge; simp at this; omega
            have W4 := Lib.hid (HG.out.grow (Q4.out.alloc (.cells #[.slice qa ql qc] 22)) hmB hown' hgrow)
            obtain ⟨xa, xl, xc, rfl⟩ := make.shape hown'
            clear hown' hgrow hW1 HG Q4 p0 p1 p2 p3 p4 hg0 f0 f1 f2 f3 f4 f3'
            go_wp2_with fail
            go_roundw
            case rel => exact ⟨r + 1, by omega, by go_num, _, _, _, W4⟩
            case measure => simp [intOf]; omega
      · have hkz : ¬ (r : Int) < (xss.length : Int) := by omega
        have hre : r = xss.length := by omega
        obtain ⟨xa, xl, xc, rfl⟩ := make.shape hW.out.owns
        obtain ⟨f0, f1, f2, f3, f4⟩ := four_cells hW.out.blk
        obtain ⟨r0, r1, r2, r3, r4⟩ := four_cells hW.out.res
        have rf : ∀ k, wo.frozen? ⟨w.heap.size + 1, k, none⟩ = false := fun k => Joins.unfrozen_of_block hW.out.res k
        have HW := hW
        have HRE := Lib.hid hre
        clear hW hre
        go_wp2_with fail
        refine bodyPost_ret (v := .agg #[.int .i64 x, .int .i64 y, .int .i64 (wh * kk), .slice xa xl xc]) (by simp [results, Try.results92, go_sem, r0, r1, r2, r3]) rfl ⟨_, rfl, ?_, ?_⟩
        · rw [← HRE.out]
          refine HW.out.apart ?_
          repeat (first | exact Wrote.refl _ _ | refine Wrote.setCell ?_ (by simp) _)
        · repeat (refine Below.setCell ?_ (by simp <;> omega) _)
          exact below_tr B0.out HW.out.below
  · go_wp2_with fail
    go_loopw [8] (fun i wr => ∃ r : Nat, r ≤ xss.length ∧ i = .int .i64 r ∧ ∃ v vals m, Hid (built.Built (w.alloc (.cells #[.int .i64 x, .int .i64 y, .int .i64 wh, .slice va xss.length vc] 48)) wr (w.heap.size + 1) (w.heap.size + 1 + 1) (w.heap.size + 1) x y (wh * kk) r m v vals (D xss kk))) (fun i _ => xss.length - (intOf i).toNat)
    case atStart => exact ⟨0, Nat.zero_le _, rfl, _, _, _, HW01⟩
    case round =>
      obtain ⟨r, hr, rfl, v, vals, m, hW⟩ := hrel
      clear HW00 HW01
      obtain ⟨wo, rfl⟩ : ∃ wo : World, wo = wr := ⟨_, rfl⟩
      obtain ⟨p0, p1, p2, p3, p4⟩ := four_cells (K0.out.below hW.out.below)
      by_cases hlt : r < xss.length
      · have hkz : (r : Int) < (xss.length : Int) := by omega
        obtain rfl := hA (by omega)
        obtain ⟨gr0, gr1⟩ := HC.out r hlt
        obtain ⟨A', b', o', cap', hR, _, _, hA', hc'⟩ := gr1.form
        rw [hR] at gr0
        have ho := HOK.out.2.2.2 r hlt
        have hl4 := ho.1
        have HL4 := Lib.hid hl4
        rw [hl4] at gr0
        obtain rfl := hA' (by omega)
        have HCR := Lib.hid hc'
        have HRB := Lib.hid (fun j (hj : j < xss[r].length) => (⟨(ho.2.1 j hj).1, Int.le_trans (ho.2.1 j hj).2 HOK.out.2.1.2⟩ : 0 ≤ xss[r][j] ∧ xss[r][j] ≤ 1000))
        have hg0 := below_cell (below_tr B0.out hW.out.below) _ _ gr0
        clear hc' gr1 ho hl4
        have W1 := Lib.hid (hW.out.fresh.keep (below_al (Below.refl _ _) (.cells #[] 3)))
        have hq0 : Hid ((wo.alloc (.cells #[] 3)).ownsRow wo.heap.size 3 1 (.slice (some ⟨wo.heap.size, 0, none⟩) 0 0) 0 (i64s ((D xss kk r).take 0))) := Lib.hid (by
          have := World.ownsRow_made (base := wo.heap.size) (e := 3) (size := 1) wo #[] 0 (by simp) (Nat.zero_le _) rfl
          simpa [i64s] using this)
        obtain ⟨mm, hmm⟩ : ∃ mm, wo.heap.size = mm := ⟨_, rfl⟩
        go_wp2_with fail
        clear p0 p1 p2 p3 p4 hg0
        go_loopw [9, 10] (fun q j wi => ∃ c : Nat, c ≤ 4 ∧ j = .int .i64 c ∧ Hid (wi.ownsRow mm 3 1 q c (i64s ((D xss kk r).take c))) ∧ Hid (built.Built (w.alloc (.cells #[.int .i64 x, .int .i64 y, .int .i64 wh, .slice (some ⟨b, o, none⟩) xss.length vc] 48)) wi (w.heap.size + 1) (w.heap.size + 1 + 1) (w.heap.size + 1) x y (wh * kk) r mm v vals (D xss kk))) (fun _ j _ => 4 - (intOf j).toNat)
        case atStart => exact ⟨0, Nat.zero_le _, rfl, by rw [← hmm]; exact hq0, by rw [← hmm]; exact W1⟩
        case round =>
          obtain ⟨c, hcl, rfl, hq, hW1⟩ := hrel
          clear W1 hq0 hmm hW
          obtain ⟨p0, p1, p2, p3, p4⟩ := four_cells (K0.out.below hW1.out.below)
          have hg0 := below_cell (below_tr B0.out hW1.out.below) _ _ gr0
          by_cases hlc : c < 4
          · have hkc : (c : Int) < 4 := by omega
            have hcl' : c < xss[r].length := by have := HL4.out; omega
            have hg1 := below_cell (below_tr B0.out hW1.out.below) _ _ (HCR.out c hcl')
            have hbd := HRB.out c hcl'
            have hDT := Lib.hid (D_take (kk := kk) hlt hcl')
            generalize xss[r][c] = n at *
            have kn := wrapm0 hbd.1 hbd.2 k0 k1
            have hsz := hW1.out.below.size
            have hszm := hW1.out.le
            clear hbd hcl'
            go_wp2_with (at_builtin; go_must (refine wpList_append_own _ rfl (.tmp 41) (.tmp 54) 22 rfl mm 3 i0 (.int .i64 0) 1 8 Try.underlying22 hi hz0 hz1 hz2 rfl (by decide) _ _ _ rfl (hq.out.alloc _) ⟨wr.heap.size, 0, none⟩ 1 1 [.int .i64 (n * kk)] rfl rfl ?c1x1 ?c2x1 ?c3x1 ?c4x1 ?c5x1 ?_))
            case c1x1 => exact app.one_at _ _ _
            case c2x1 => intro u hu; simp at hu; subst hu; rfl
            case c3x1 => unfold maxLen; omega
            case c4x1 => omega
            case c5x1 => simp; omega
            intro v' w3 hown' hgrow _
            have W3 := Lib.hid ((hW1.out.keep (below_al (Below.refl _ _) (.cells #[.int .i64 (n * kk)] 3))).inner (hq.out.alloc _) hgrow)
            have Q3 : Hid (w3.ownsRow mm 3 1 v' (c + 1) (i64s ((D xss kk r).take (c + 1)))) := Lib.hid (by rw [← hDT.out, ← app.i64s_snoc]; exact hown')
            clear hown' hgrow hq hW1 p0 p1 p2 p3 p4 hg0 hg1 kn
            go_wp2_with fail
            go_roundw
            case rel => exact ⟨c + 1, by omega, by go_num, Q3, W3⟩
            case measure => simp [intOf]; omega
          · have hkc : ¬ (c : Int) < 4 := by omega
            have hc4 : c = 4 := by omega
            have hl := D_len (kk := kk) hlt
            obtain ⟨qa, ql, qc, rfl⟩ := make.shape hq.out
            have Q4 : Hid (wr.ownsRow mm 3 1 (.slice qa ql qc) (D xss kk r).length (i64s (D xss kk r))) := Lib.hid (by
              have := hq.out
              rw [List.take_of_length_le (by rw [hl, HL4.out]; omega)] at this
              rw [hl, HL4.out]; rw [← hc4]; exact this)
            obtain ⟨f0, f1, f2, f3, f4⟩ := four_cells hW1.out.blk
            have f3' := fun (o1 : Obj) => below_cell (below_al (Below.refl _ _) o1) _ _ f3
            have hsz := hW1.out.below.size
            have hszm := hW1.out.le
            have hge := hW1.out.ge
            have hbz := hW1.out.blk.lt
            clear hc4 hl hq
            go_wp2_with (at_builtin; go_must (refine wpList_append_own _ rfl (.tmp 57) (.tmp 59) 23 rfl (w.heap.size + 1) 22 s0 (.slice none 0 0) 1 24 Try.underlying23 si sz0 sz1 sz2 rfl (by decide) _ _ _ rfl ((hW1.out.owns).alloc _) ⟨wr.heap.size, 0, none⟩ 1 1 [.slice qa ql qc] rfl rfl ?d1x1 ?d2x1 ?d3x1 ?d4x1 ?d5x1 ?_))
            try (case d1x1 => first | exact app.one_at _ _ _ | (have := app.one_at wr (.slice qa ql qc) 22; simpa using this))
            case d2x1 => first | rfl | (intro u hu; simp at hu; subst hu; rfl) | simp
            case d3x1 => unfold maxLen; omega
            case d4x1 => omega
            case d5x1 => first | omega | (simp; omega)
            intro v' w3 hown' hgrow _
            have HG := Lib.hid (hW1.out.keep (below_al (Below.refl _ _) (.cells #[.slice qa ql qc] 22)))
            obtain ⟨e1, e2⟩ := HG.out.field hgrow
            have hmB : w.heap.size + 1 ≤ mm := by have := hge; simp at this; omega
            have W4 := Lib.hid (HG.out.grow (Q4.out.alloc (.cells #[.slice qa ql qc] 22)) hmB hown' hgrow)
            obtain ⟨xa, xl, xc, rfl⟩ := make.shape hown'
            clear hown' hgrow hW1 HG Q4 p0 p1 p2 p3 p4 hg0 f0 f1 f2 f3 f4 f3'
            go_wp2_with fail
            go_roundw
            case rel => exact ⟨r + 1, by omega, by go_num, _, _, _, W4⟩
            case measure => simp [intOf]; omega
      · have hkz : ¬ (r : Int) < (xss.length : Int) := by omega
        have hre : r = xss.length := by omega
        obtain ⟨xa, xl, xc, rfl⟩ := make.shape hW.out.owns
        obtain ⟨f0, f1, f2, f3, f4⟩ := four_cells hW.out.blk
        obtain ⟨r0, r1, r2, r3, r4⟩ := four_cells hW.out.res
        have rf : ∀ k, wo.frozen? ⟨w.heap.size + 1, k, none⟩ = false := fun k => Joins.unfrozen_of_block hW.out.res k
        have HW := hW
        have HRE := Lib.hid hre
        clear hW hre
        go_wp2_with fail
        refine bodyPost_ret (v := .agg #[.int .i64 x, .int .i64 y, .int .i64 (wh * kk), .slice xa xl xc]) (by simp [results, Try.results92, go_sem, r0, r1, r2, r3]) rfl ⟨_, rfl, ?_, ?_⟩
        · rw [← HRE.out]
          refine HW.out.apart ?_
          repeat (first | exact Wrote.refl _ _ | refine Wrote.setCell ?_ (by simp) _)
        · repeat (refine Below.setCell ?_ (by simp <;> omega) _)
          exact below_tr B0.out HW.out.below
theorem l2times (x y wh : Int) (v : Value) (xss : List (List Int)) (kk : Int) (w : World) (h : IRows w v xss) (hok : okBox x y wh xss) (k0 : 1 ≤ kk) (k1 : kk ≤ 1000) :
    Calls Try.prog 92 #[.agg #[.int .i64 x, .int .i64 y, .int .i64 wh, v], .int .i64 kk, .int .i64 1] w fun e w' => ∃ u, e = .returned (.agg #[.int .i64 x, .int .i64 y, .int .i64 (wh * kk), u]) ∧ built.Apart w' (w.heap.size + 1) u xss.length (D xss kk) ∧ Below w.heap.size w w' :=
  l2times0 x y wh v xss kk w h hok (by omega) k1

end Go.Proofs.Ytneonebgneonkaa.scale
