/- AskAgain of the model. -/
import Derived.Test.YtkajebhagkbcaaaAska
import Derived.Test.YtkajebhagkbcaaaBuilt
import Derived.Test.YtkajebhagkbcaaaLast
namespace Go.Proofs.Ytkajebhagkbcaaa.aska
open Go.RowKit Go.Deep Go.Proofs.Ytkajebhagkbcaaa.base
open Go.Proofs.Ytkajebhagkbcaaa.ints (ret_int infoInt infoInts)
open Go.Proofs.Ytkajebhagkbcaaa.rws (total)
open Go.Proofs.Ytkajebhagkbcaaa.val (okSizes okBox boxB boxB_yes boxB_no)
open Go.Proofs.Ytkajebhagkbcaaa.row (nn nn_bd at_ at_lt)

set_option maxHeartbeats 1000000 in
theorem own4 (b o cap : Nat) (u0 u1 u2 u3 : Int) (w : World) (g0 : w.cell? ⟨b, o, none⟩ = some (.int .i64 u0)) (g1 : w.cell? ⟨b, o + 1, none⟩ = some (.int .i64 u1)) (g2 : w.cell? ⟨b, o + 2, none⟩ = some (.int .i64 u2)) (g3 : w.cell? ⟨b, o + 3, none⟩ = some (.int .i64 u3)) :
    Calls Try.prog 83 #[.slice (some ⟨b, o, none⟩) 4 cap] w fun e w' => ∃ r, e = .returned r ∧ w'.ownsRow w.heap.size 3 1 r 4 (i64s [u0, u1, u2, u3]) ∧ Below w.heap.size w w' := by
  obtain ⟨i0, hi, hz0, hz1, hz2⟩ := info_parts infoInt
  have O0 : Hid ((w.alloc (.cells #[] 3)).ownsRow w.heap.size 3 1 (.slice (some ⟨w.heap.size, 0, none⟩) 0 0) 0 (i64s [])) := Lib.hid (by
      have := World.ownsRow_made (base := w.heap.size) (e := 3) (size := 1) w #[] 0 (by simp) (Nat.zero_le _) rfl
      simpa [i64s] using this)
  have B0 := Lib.hid (below_al (Below.refl w.heap.size w) (.cells #[] 3))
  have G : Hid (∀ (j : Nat) (u : Value), (i64s [u0, u1, u2, u3])[j]? = some u → (w.alloc (.cells #[] 3)).cell? (Addr.add ⟨b, o, none⟩ j) = some u) := Lib.hid (fun j u hj => by
    match j, hj with
    | 0, hj => simp [i64s] at hj; subst hj; exact below_cell B0.out _ _ g0
    | 1, hj => simp [i64s] at hj; subst hj; exact below_cell B0.out _ _ g1
    | 2, hj => simp [i64s] at hj; subst hj; exact below_cell B0.out _ _ g2
    | 3, hj => simp [i64s] at hj; subst hj; exact below_cell B0.out _ _ g3
    | j + 4, hj => simp [i64s] at hj)
  clear g0 g1 g2 g3
  go_enter Try.func83, Try.ntmps83
  go_wp2_with (at_builtin; go_must (refine wpList_append_own _ rfl (.tmp 3) (.tmp 4) 30 rfl w.heap.size 3 i0 (.int .i64 0) 1 8 Try.underlying30 hi hz0 hz1 hz2 rfl (by decide) _ _ _ rfl O0.out ⟨b, o, none⟩ 4 cap (i64s [u0, u1, u2, u3]) rfl rfl ?c1 ?c2 ?c3 ?c4 ?c5 ?_))
  case c1 => exact G.out
  case c2 => intro u hu; simp [i64s] at hu; rcases hu with rfl | rfl | rfl | rfl <;> rfl
  case c3 => unfold maxLen; omega
  case c4 => omega
  case c5 => first | omega | (simp; omega) | simp
  intro v' w3 hown' hgrow _
  have hb : Below w.heap.size w w3 := B0.out.grown hgrow B0.out.size (fun j hj => (O0.out.lt j hj).1)
  have Q3 : Hid (w3.ownsRow w.heap.size 3 1 v' 4 (i64s [u0, u1, u2, u3])) := Lib.hid (by simpa [i64s] using hown')
  have HB := Lib.hid hb
  clear hown' hgrow hb O0 B0 G
  go_wp2_with fail
  go_ret
  exact ⟨_, rfl, Q3.out, HB.out⟩

set_option maxHeartbeats 1000000 in
theorem asked (v : Value) (xs : List Int) (n : Int) (w : World) (h : Ints w v xs) (hn : IntKind.i64.wrap (n - 1) = n - 1) :
    Calls Try.prog 82 #[v, .int .i64 n] w fun e w' => e = .returned (.bool (goodB xs (n - 1))) ∧ w = w' := by
  have hc := chances v xs (n - 1) w h
  obtain ⟨A, b, o, cap, rfl, hcap, hmax, hA, _⟩ := h.form
  have hm : (xs.length : Int) ≤ 9223372036854775807 := by unfold maxLen at hmax; omega
  have HC := Lib.hid hc
  clear h hmax hc hA hcap
  by_cases hl : 1 ≤ xs.length ∧ xs.length ≤ 3
  · by_cases hg : good xs (n - 1)
    · have HB := Lib.hid (goodB_yes hg)
      rw [HB.out] at HC
      clear hg
      obtain ⟨l1, l2⟩ := hl
      go_enter Try.func82, Try.ntmps82
      go_wp2_with fail
      refine (val.in_yes _ _ _ _ (by omega) (by omega)).mono ?_
      rintro e w' ⟨rfl, rfl⟩
      go_wp2_with fail
      refine HC.out.mono ?_
      rintro e w' ⟨rfl, rfl⟩
      go_wp2_with fail
      go_ret
      exact ⟨val.ret_b HB.out.symm, rfl⟩
    · have HB := Lib.hid (goodB_no hg)
      rw [HB.out] at HC
      clear hg
      obtain ⟨l1, l2⟩ := hl
      go_enter Try.func82, Try.ntmps82
      go_wp2_with fail
      refine (val.in_yes _ _ _ _ (by omega) (by omega)).mono ?_
      rintro e w' ⟨rfl, rfl⟩
      go_wp2_with fail
      refine HC.out.mono ?_
      rintro e w' ⟨rfl, rfl⟩
      go_wp2_with fail
      go_ret
      exact ⟨val.ret_b HB.out.symm, rfl⟩
  · have HN : Hid (¬ good xs (n - 1)) := Lib.hid (fun h => hl h.1)
    have hbad : (xs.length : Int) < 1 ∨ 3 < (xs.length : Int) := by omega
    clear hl
    go_enter Try.func82, Try.ntmps82
    go_wp2_with fail
    refine (val.in_no _ _ _ _ hbad).mono ?_
    rintro e w' ⟨rfl, rfl⟩
    clear hbad
    go_wp2_with fail
    go_ret
    exact ⟨val.ret_b (goodB_no HN.out).symm, rfl⟩

theorem lows7 {n : Nat} {w w' : World} {p0 p1 p2 p3 p4 p5 q : Addr} {u0 u1 u2 u3 u4 u5 u : Value} (h0 : w.cell? p0 = some u0) (h1 : w.cell? p1 = some u1) (h2 : w.cell? p2 = some u2) (h3 : w.cell? p3 = some u3) (h4 : w.cell? p4 = some u4) (h5 : w.cell? p5 = some u5)
    (l0 : p0.block < n) (l1 : p1.block < n) (l2 : p2.block < n) (l3 : p3.block < n) (l4 : p4.block < n) (l5 : p5.block < n) (h : step.Low n w w') (hq : w'.cell? q = some u) :
    w'.cell? p0 = some u0 ∧ w'.cell? p1 = some u1 ∧ w'.cell? p2 = some u2 ∧ w'.cell? p3 = some u3 ∧ w'.cell? p4 = some u4 ∧ w'.cell? p5 = some u5 ∧ w'.cell? q = some u :=
  ⟨(h _ l0).trans h0, (h _ l1).trans h1, (h _ l2).trans h2, (h _ l3).trans h3, (h _ l4).trans h4, (h _ l5).trans h5, hq⟩
theorem Low.call {n : Nat} {w w' w'' : World} (h : step.Low n w w') (hn : n ≤ w'.heap.size) (hb : Below w'.heap.size w' w'') : step.Low n w w'' := h.trans ((step.Low.below hb).mono hn)

set_option maxHeartbeats 1000000 in
theorem l2row_at (x y wh i j : Int) (b o cap n : Nat) (u : Value) (w : World) (hs : okSizes x y) (hn : (n : Int) = x * y) (g0 : w.cell? ⟨b, o + at_ y i j, none⟩ = some u) (i0 : 0 ≤ i) (i1 : i < x) (j0 : 0 ≤ j) (j1 : j < y) :
    Calls Try.prog 79 #[.agg #[.int .i64 x, .int .i64 y, .int .i64 wh, .slice (some ⟨b, o, none⟩) n cap], .int .i64 i, .int .i64 j] w fun e w' => e = .returned u ∧ Below w.heap.size w w' := by
  obtain ⟨d1, d2, d3, d4⟩ := row.idx_lt hs i0 i1 j0 j1
  have gl : b < w.heap.size := World.block_lt_of_cell? _ _ g0
  have e0 : i * y + j < (n : Int) := by omega
  have g0' : w.cell? ⟨b, o + (i * y + j).toNat, none⟩ = some u := g0
  have m9 := row.mul9 hs
  obtain ⟨k1, k2⟩ := row.wrap2 d1 d2 d4 (by omega)
  have HL := Lib.hid hn
  clear hs hn g0 m9
  go_enter Try.func79, Try.ntmps79
  go_wp2_with fail
  go_ret
  exact ⟨rfl, below_al (Below.refl _ _) _⟩

set_option maxRecDepth 100000 in
set_option maxHeartbeats 8000000 in
theorem spec_any (x y wh : Int) (v vf vs : Value) (xss : List (List Int)) (fs ss : List Int) (w : World) (h : IRows w v xss) (hf : Ints w vf fs) (hs' : Ints w vs ss) (hn : total xss ≤ 1048576) :
    Calls Try.prog 37 #[.agg #[.int .i64 x, .int .i64 y, .int .i64 wh, v], vf, vs] w fun e w' => ∃ r, e = .returned (.tuple #[.agg #[.int .i64 (res x y wh xss fs ss).x, .int .i64 (res x y wh xss fs ss).y, .int .i64 (res x y wh xss fs ss).wh, r], .bool (res x y wh xss fs ss).ok]) ∧ IRows w' r (res x y wh xss fs ss).rows ∧ Below w.heap.size w w' := by
  obtain ⟨i0, hi, hz0, hz1, hz2⟩ := info_parts infoInts
  have HV0 := Lib.hid h
  have HF0 := Lib.hid hf
  have HS0 := Lib.hid hs'
  obtain ⟨A, b0, o0, vc, R0r, rfl, hcap0, hmax0, hA0, hcc0⟩ := h.form
  obtain ⟨fa, fb, fo, fc, rfl, _, _, hfA, hfc⟩ := hf.form
  obtain ⟨sa, sb, so, sc, rfl, _, _, hsA, hsc⟩ := hs'.form
  clear h hf hs' hmax0
  have B0 := Lib.hid (below_al (below_al (Below.refl w.heap.size w) (.cells #[.int .i64 x, .int .i64 y, .int .i64 wh, .slice A xss.length vc] 24)) (.cells #[.int .i64 0, .int .i64 0, .int .i64 0, .slice none 0 0] 24))
  have R0 : Hid (Blk ((w.alloc (.cells #[.int .i64 x, .int .i64 y, .int .i64 wh, .slice A xss.length vc] 24)).alloc (.cells #[.int .i64 0, .int .i64 0, .int .i64 0, .slice none 0 0] 24)) (w.heap.size + 1) 24 #[.int .i64 0, .int .i64 0, .int .i64 0, .slice none 0 0]) := Lib.hid (by
    have := Blk.new (w.alloc (.cells #[.int .i64 x, .int .i64 y, .int .i64 wh, .slice A xss.length vc] 24)) 24 #[.int .i64 0, .int .i64 0, .int .i64 0, .slice none 0 0]
    simpa using this)
  have P0 : Hid (Blk ((w.alloc (.cells #[.int .i64 x, .int .i64 y, .int .i64 wh, .slice A xss.length vc] 24)).alloc (.cells #[.int .i64 0, .int .i64 0, .int .i64 0, .slice none 0 0] 24)) w.heap.size 24 #[.int .i64 x, .int .i64 y, .int .i64 wh, .slice A xss.length vc]) := Lib.hid ((Blk.new w 24 #[.int .i64 x, .int .i64 y, .int .i64 wh, .slice A xss.length vc]).alloc _)
  have CP := Lib.hid (val.spec_any x y wh _ xss _ (HV0.out.below B0.out) hn)
  by_cases hs : okBox x y wh xss
  · have EB := Lib.hid (boxB_yes hs)
    obtain ⟨⟨hX1, hX2⟩, hY1, hY2⟩ := hs.1
    have kx : IntKind.i64.wrap (x - 1) = x - 1 := IntWalk.i64_in _ (by omega)
    have ky : IntKind.i64.wrap (y - 1) = y - 1 := IntWalk.i64_in _ (by omega)
    by_cases hw1 : good fs (x - 1)
    · have HC2 := Lib.hid (fun (W : World) (hb : Below w.heap.size w W) => goodB_yes hw1 ▸ asked _ fs x W (HF0.out.below hb) kx)
      by_cases hw2 : good ss (y - 1)
      · have HC3 := Lib.hid (fun (W : World) (hb : Below w.heap.size w W) => goodB_yes hw2 ▸ asked _ ss y W (HS0.out.below hb) ky)
        have HA := Lib.hid (show all x y wh xss fs ss from ⟨hs, hw1, hw2⟩)
        obtain ⟨X, rfl⟩ : ∃ X : Nat, x = X := ⟨x.toNat, by omega⟩
        obtain ⟨Y, rfl⟩ : ∃ Y : Nat, y = Y := ⟨y.toNat, by omega⟩
        have HE := Lib.hid (res_nat HA.out)
        have HS := Lib.hid hs
        have hlen := hs.2.2.1
        obtain rfl := hA0 (by have := val.mul_small hs.1; omega)
        obtain rfl := hfA (by have := hw1.1.1; omega)
        obtain rfl := hsA (by have := hw2.1.1; omega)
        have HCC := Lib.hid hcc0
        have HLN := Lib.hid hlen
        have HFC := Lib.hid hfc
        have HSC := Lib.hid hsc
        have HG1 := Lib.hid hw1
        have hfl := hw1.1.2
        have hsl := hw2.1.2
        have HG2 := Lib.hid hw2
        have P00 := Lib.hid (Blk.new w 24 #[.int .i64 (X : Int), .int .i64 (Y : Int), .int .i64 wh, .slice (some ⟨b0, o0, none⟩) xss.length vc])
        clear hs hw1 hw2 hcc0 hlen hfc hsc
        go_enter Try.func37, Try.ntmps37
        go_wp2_with fail
        refine CP.out.mono ?_
        rintro e w1 ⟨rfl, hb0⟩
        have B1 := Lib.hid (below_tr B0.out hb0)
        have R1 := Lib.hid (R0.out.below hb0)
        have P1 := Lib.hid (P0.out.below hb0)
        have B1' : Hid (Below (w.alloc (.cells #[.int .i64 (X : Int), .int .i64 (Y : Int), .int .i64 wh, .slice (some ⟨b0, o0, none⟩) xss.length vc] 24)).heap.size (w.alloc (.cells #[.int .i64 (X : Int), .int .i64 (Y : Int), .int .i64 wh, .slice (some ⟨b0, o0, none⟩) xss.length vc] 24)) w1) := Lib.hid (below_tr (below_al (Below.refl _ _) _) hb0)
        obtain ⟨c0, c1, c2, c3, c4⟩ := four_cells P1.out
        rw [EB.out]
        clear hb0
        go_wp2_with fail
        refine (HC2.out _ B1.out).mono ?_
        rintro e w' ⟨rfl, rfl⟩
        go_wp2_with fail
        refine (HC3.out _ B1.out).mono ?_
        rintro e w' ⟨rfl, rfl⟩
        go_wp2_with fail
        have hz1b := R1.out.lt
        have HW0 : Hid (built.Built (w.alloc (.cells #[.int .i64 (X : Int), .int .i64 (Y : Int), .int .i64 wh, .slice (some ⟨b0, o0, none⟩) xss.length vc] 24)) ((w1.alloc (.cells #[] 30)).alloc (.cells #[.int .i64 (fs.length : Int), .int .i64 (ss.length : Int), .int .i64 wh, .slice (some ⟨w1.heap.size, 0, none⟩) 0 0] 24)) (w.heap.size + 1) (w1.heap.size + 1) (w.heap.size + 1) (fs.length : Int) (ss.length : Int) wh (0 * ss.length) ((w1.alloc (.cells #[] 30)).alloc (.cells #[.int .i64 (fs.length : Int), .int .i64 (ss.length : Int), .int .i64 wh, .slice (some ⟨w1.heap.size, 0, none⟩) 0 0] 24)).heap.size (.slice (some ⟨w1.heap.size, 0, none⟩) 0 0) [] (make.quad (N xss fs ss Y))) := Lib.hid (by
          refine ⟨below_al (below_al B1'.out _) _, by simp, ⟨by simp, by omega⟩, ?_, ?_, ?_, fun r u hu => by simp at hu, by have := B1'.out.size; simp at this ⊢; omega, Nat.le_refl _⟩
          · have := Blk.new (w1.alloc (.cells #[] 30)) 24 #[.int .i64 (fs.length : Int), .int .i64 (ss.length : Int), .int .i64 wh, .slice (some ⟨w1.heap.size, 0, none⟩) 0 0]
            simpa using this
          · exact (R1.out.alloc (.cells #[] 30)).alloc (.cells #[.int .i64 (fs.length : Int), .int .i64 (ss.length : Int), .int .i64 wh, .slice (some ⟨w1.heap.size, 0, none⟩) 0 0] 24)
          · have := World.ownsRow_made (base := w.heap.size + 1) (e := 30) (size := 1) w1 #[] 0 (by omega) (Nat.zero_le _) rfl
            have := this.alloc (.cells #[.int .i64 (fs.length : Int), .int .i64 (ss.length : Int), .int .i64 wh, .slice (some ⟨w1.heap.size, 0, none⟩) 0 0] 24)
            simpa using this)
        clear c0 c1 c2 c3 c4
        go_loopw [9, 10] (fun i p10 wr => ∃ a : Nat, a ≤ fs.length ∧ i = .int .i64 a ∧ (∃ z, p10 = z) ∧ ∃ v vals m, Hid (built.Built (w.alloc (.cells #[.int .i64 (X : Int), .int .i64 (Y : Int), .int .i64 wh, .slice (some ⟨b0, o0, none⟩) xss.length vc] 24)) wr (w.heap.size + 1) (w1.heap.size + 1) (w.heap.size + 1) (fs.length : Int) (ss.length : Int) wh (a * ss.length) m v vals (make.quad (N xss fs ss Y)))) (fun i _ _ => fs.length - (intOf i).toNat)
        case atStart => exact ⟨0, Nat.zero_le _, rfl, ⟨_, rfl⟩, _, _, _, HW0⟩
        case round =>
          obtain ⟨a, ha, rfl, ⟨z10, rfl⟩, v, vals, m, hW⟩ := hrel
          clear HW0
          obtain ⟨wo, rfl⟩ : ∃ wo : World, wo = wr := ⟨_, rfl⟩
          by_cases hlt : a < fs.length
          · have hkz : (a : Int) < (fs.length : Int) := by omega
            go_wp2_with fail
            go_loopw [10] (fun j wi => ∃ c : Nat, c ≤ ss.length ∧ j = .int .i64 c ∧ ∃ v vals m, Hid (built.Built (w.alloc (.cells #[.int .i64 (X : Int), .int .i64 (Y : Int), .int .i64 wh, .slice (some ⟨b0, o0, none⟩) xss.length vc] 24)) wi (w.heap.size + 1) (w1.heap.size + 1) (w.heap.size + 1) (fs.length : Int) (ss.length : Int) wh (a * ss.length + c) m v vals (make.quad (N xss fs ss Y)))) (fun j _ => ss.length - (intOf j).toNat)
            case atStart => exact ⟨0, Nat.zero_le _, rfl, _, _, _, hW⟩
            case round =>
              clear hW
              obtain ⟨c, hcl, rfl, v, vals, m, hW⟩ := hrel
              obtain ⟨wi, rfl⟩ : ∃ wi : World, wi = wr := ⟨_, rfl⟩
              by_cases hlc : c < ss.length
              · have hkc : (c : Int) < (ss.length : Int) := by omega
                have PI := Lib.hid (P00.out.below hW.out.below)
                have BI := Lib.hid (below_tr (below_al (Below.refl w.heap.size w) (.cells #[.int .i64 (X : Int), .int .i64 (Y : Int), .int .i64 wh, .slice (some ⟨b0, o0, none⟩) xss.length vc] 24)) hW.out.below)
                obtain ⟨c0, c1, c2, c3, c4⟩ := four_cells PI.out
                have gf := HFC.out a hlt
                have gs := HSC.out c hlc
                have f1 := HG1.out.2 a hlt
                have f2 := HG2.out.2 c hlc
                have HQ := And.intro (N_at xss fs ss Y a c 0 hlc) (And.intro (N_at xss fs ss Y a c 1 hlc) (And.intro (N_at xss fs ss Y a c 2 hlc) (N_at xss fs ss Y a c 3 hlc)))
                rw [getD_at hlt, getD_at hlc] at HQ
                generalize fs[a] = p at *
                generalize ss[c] = q at *
                obtain ⟨P, rfl⟩ : ∃ P : Nat, p = P := ⟨p.toNat, by omega⟩
                obtain ⟨M, rfl⟩ : ∃ M : Nat, q = M := ⟨q.toNat, by omega⟩
                rw [Int.toNat_natCast, Int.toNat_natCast] at HQ
                have hrr := at_lt (i := P) (j := M) HS.out (by omega) (by omega) (by omega) (by omega)
                have hcell := (HCC.out _ hrr).1
                obtain ⟨b2, o2, cap2, hR2, hcap2, hmax2, k0, k1, k2, k3⟩ := row.cells4 (W := w) HS.out hrr (by rw [row.getD_lt hrr]; exact (HCC.out _ hrr).2)
                rw [hR2] at hcell
                have HCA := Lib.hid (fun (W : World) (hb : Below w.heap.size w W) => l2row_at X Y wh P M b0 o0 vc _ _ W HS.out.1 HLN.out (below_cell hb _ _ hcell) (by omega) (by omega) (by omega) (by omega))
                rw [at_nat] at k0 k1 k2 k3
                have hk9 : a * ss.length + c < 9 := by
                  have h1 : a * ss.length + c < (a + 1) * ss.length := by rw [Nat.add_mul]; omega
                  have h2 : (a + 1) * ss.length ≤ fs.length * ss.length := Nat.mul_le_mul_right _ (by omega)
                  have h3 : fs.length * ss.length ≤ 9 := Nat.mul_le_mul HG1.out.1.2 HG2.out.1.2
                  omega
                have HK9 := Lib.hid hk9
                generalize nn xss (P * Y + M) 0 = n0 at *
                generalize nn xss (P * Y + M) 1 = n1 at *
                generalize nn xss (P * Y + M) 2 = n2 at *
                generalize nn xss (P * Y + M) 3 = n3 at *
                have HQQ : Hid (make.quad (N xss fs ss Y) (a * ss.length + c) = [n0, n1, n2, n3]) := Lib.hid (by unfold make.quad; rw [HQ.1, HQ.2.1, HQ.2.2.1, HQ.2.2.2])
                have HOW := Lib.hid (fun (W : World) (hb : Below w.heap.size w W) => own4 b2 o2 cap2 n0 n1 n2 n3 W (below_cell hb _ _ k0) (below_cell hb _ _ k1) (below_cell hb _ _ k2) (below_cell hb _ _ k3))
                have e4 := below_cell BI.out _ _ gf
                have e5 := below_cell BI.out _ _ gs
                have l4 : fb < w.heap.size + 1 := by have := World.block_lt_of_cell? _ _ gf; simp at this; omega
                have l5 : sb < w.heap.size + 1 := by have := World.block_lt_of_cell? _ _ gs; simp at this; omega
                have l0 : w.heap.size < w.heap.size + 1 := by omega
                have lw : w.heap.size + 1 ≤ wi.heap.size := c4
                obtain ⟨f0, f1b, f2b, f3, f4⟩ := four_cells hW.out.blk
                clear hk9 hrr hcell hR2 hmax2 HQ f1 f2 gf gs k0 k1 k2 k3 f0 f1b f2b PI
                go_wp2_with fail
                refine last.start (S := (fun w' => w'.cell? ⟨w.heap.size, 0, none⟩ = some (.int .i64 (X : Int)) ∧ w'.cell? ⟨w.heap.size, 1, none⟩ = some (.int .i64 (Y : Int)) ∧ w'.cell? ⟨w.heap.size, 2, none⟩ = some (.int .i64 wh) ∧ w'.cell? ⟨w.heap.size, 3, none⟩ = some (.slice (some ⟨b0, o0, none⟩) xss.length vc) ∧ w'.cell? ⟨fb, fo + a, none⟩ = some (.int .i64 (P : Int)) ∧ w'.cell? ⟨sb, so + c, none⟩ = some (.int .i64 (M : Int)) ∧ w'.cell? ⟨w1.heap.size + 1, 3, none⟩ = some v)) (L := 16) (by kernel_rfl) ?_
                have L0 := Lib.hid (step.Low.drew (step.Low.refl (w.heap.size + 1) wi))
                have hHeld : (fun w' => w'.cell? ⟨w.heap.size, 0, none⟩ = some (.int .i64 (X : Int)) ∧ w'.cell? ⟨w.heap.size, 1, none⟩ = some (.int .i64 (Y : Int)) ∧ w'.cell? ⟨w.heap.size, 2, none⟩ = some (.int .i64 wh) ∧ w'.cell? ⟨w.heap.size, 3, none⟩ = some (.slice (some ⟨b0, o0, none⟩) xss.length vc) ∧ w'.cell? ⟨fb, fo + a, none⟩ = some (.int .i64 (P : Int)) ∧ w'.cell? ⟨sb, so + c, none⟩ = some (.int .i64 (M : Int)) ∧ w'.cell? ⟨w1.heap.size + 1, 3, none⟩ = some v) wi.drew := lows7 c0 c1 c2 c3 e4 e5 l0 l0 l0 l0 l4 l5 L0.out f3
                refine last.take (i := 0) (oi := { dst := some 49, op := Op.fieldAddr 24 (Operand.tmp 8) 3, type := 0, pos := "l2_boxes.go:334", after := #[], guard := none }) (v := ?v0) rfl (by kernel_rfl) (by kernel_rfl) (by kernel_rfl) (by kernel_rfl) (by decide) (fun _ _ _ h => h) (Or.inl ⟨by rfl, ?y0⟩) hHeld ?r0
                case y0 => (intro w hSw; (try dsimp only at hSw); go_simp; try with_reducible rfl)
                try simp only [Act.put, List.setIfInBounds_toArray, List.set_cons_zero, List.set_cons_succ]
                refine last.take (i := 1) (oi := { dst := some 50, op := Op.load 22 (Operand.tmp 49), type := 22, pos := "l2_boxes.go:334", after := #[{ on := 0, ground := Ground.data }], guard := none }) (v := ?v1) rfl (by kernel_rfl) (by kernel_rfl) (by kernel_rfl) (by kernel_rfl) (by decide) (fun _ _ _ h => h) (Or.inl ⟨by rfl, ?y1⟩) hHeld ?r1
                case y1 => (intro w hSw; (try dsimp only at hSw); go_simp; try with_reducible rfl)
                try simp only [Act.put, List.setIfInBounds_toArray, List.set_cons_zero, List.set_cons_succ]
                refine last.take (i := 2) (oi := { dst := some 51, op := Op.load 24 (Operand.tmp 3), type := 24, pos := "l2_boxes.go:334", after := #[], guard := none }) (v := ?v2) rfl (by kernel_rfl) (by kernel_rfl) (by kernel_rfl) (by kernel_rfl) (by decide) (fun _ _ _ h => h) (Or.inl ⟨by rfl, ?y2⟩) hHeld ?r2
                case y2 => (intro w hSw; (try dsimp only at hSw); go_simp; try with_reducible rfl)
                try simp only [Act.put, List.setIfInBounds_toArray, List.set_cons_zero, List.set_cons_succ]
                refine last.take (i := 3) (oi := { dst := some 52, op := Op.move (Operand.tmp 1), type := 30, pos := "l2_boxes.go:334", after := #[], guard := none }) (v := ?v3) rfl (by kernel_rfl) (by kernel_rfl) (by kernel_rfl) (by kernel_rfl) (by decide) (fun _ _ _ h => h) (Or.inl ⟨by rfl, ?y3⟩) hHeld ?r3
                case y3 => (intro w hSw; (try dsimp only at hSw); go_simp; try with_reducible rfl)
                try simp only [Act.put, List.setIfInBounds_toArray, List.set_cons_zero, List.set_cons_succ]
                refine last.take (i := 4) (oi := { dst := some 53, op := Op.move (Operand.tmp 9), type := 3, pos := "l2_boxes.go:334", after := #[], guard := none }) (v := ?v4) rfl (by kernel_rfl) (by kernel_rfl) (by kernel_rfl) (by kernel_rfl) (by decide) (fun _ _ _ h => h) (Or.inl ⟨by rfl, ?y4⟩) hHeld ?r4
                case y4 => (intro w hSw; (try dsimp only at hSw); go_simp; try with_reducible rfl)
                try simp only [Act.put, List.setIfInBounds_toArray, List.set_cons_zero, List.set_cons_succ]
                refine last.take (i := 5) (oi := { dst := some 54, op := Op.indexAddr 30 (Operand.tmp 52) (Operand.tmp 53), type := 0, pos := "l2_boxes.go:334", after := #[{ on := 3, ground := Ground.data }, { on := 4, ground := Ground.data }], guard := none }) (v := ?v5) rfl (by kernel_rfl) (by kernel_rfl) (by kernel_rfl) (by kernel_rfl) (by decide) (fun _ _ _ h => h) (Or.inl ⟨by rfl, ?y5⟩) hHeld ?r5
                case y5 => (intro w hSw; (try dsimp only at hSw); go_simp; try with_reducible rfl)
                try simp only [Act.put, List.setIfInBounds_toArray, List.set_cons_zero, List.set_cons_succ]
                refine last.take (i := 6) (oi := { dst := some 55, op := Op.load 3 (Operand.tmp 54), type := 3, pos := "l2_boxes.go:334", after := #[{ on := 5, ground := Ground.data }], guard := none }) (v := ?v6) rfl (by kernel_rfl) (by kernel_rfl) (by kernel_rfl) (by kernel_rfl) (by decide) (fun _ _ _ h => h) (Or.inl ⟨by rfl, ?y6⟩) hHeld ?r6
                case y6 => (intro w hSw; (try dsimp only at hSw); go_simp; try with_reducible rfl)
                try simp only [Act.put, List.setIfInBounds_toArray, List.set_cons_zero, List.set_cons_succ]
                refine last.take (i := 7) (oi := { dst := some 56, op := Op.move (Operand.tmp 2), type := 30, pos := "l2_boxes.go:334", after := #[], guard := none }) (v := ?v7) rfl (by kernel_rfl) (by kernel_rfl) (by kernel_rfl) (by kernel_rfl) (by decide) (fun _ _ _ h => h) (Or.inl ⟨by rfl, ?y7⟩) hHeld ?r7
                case y7 => (intro w hSw; (try dsimp only at hSw); go_simp; try with_reducible rfl)
                try simp only [Act.put, List.setIfInBounds_toArray, List.set_cons_zero, List.set_cons_succ]
                refine last.take (i := 8) (oi := { dst := some 57, op := Op.move (Operand.tmp 10), type := 3, pos := "l2_boxes.go:334", after := #[], guard := none }) (v := ?v8) rfl (by kernel_rfl) (by kernel_rfl) (by kernel_rfl) (by kernel_rfl) (by decide) (fun _ _ _ h => h) (Or.inl ⟨by rfl, ?y8⟩) hHeld ?r8
                case y8 => (intro w hSw; (try dsimp only at hSw); go_simp; try with_reducible rfl)
                try simp only [Act.put, List.setIfInBounds_toArray, List.set_cons_zero, List.set_cons_succ]
                refine last.take (i := 9) (oi := { dst := some 58, op := Op.indexAddr 30 (Operand.tmp 56) (Operand.tmp 57), type := 0, pos := "l2_boxes.go:334", after := #[{ on := 7, ground := Ground.data }, { on := 8, ground := Ground.data }], guard := none }) (v := ?v9) rfl (by kernel_rfl) (by kernel_rfl) (by kernel_rfl) (by kernel_rfl) (by decide) (fun _ _ _ h => h) (Or.inl ⟨by rfl, ?y9⟩) hHeld ?r9
                case y9 => (intro w hSw; (try dsimp only at hSw); go_simp; try with_reducible rfl)
                try simp only [Act.put, List.setIfInBounds_toArray, List.set_cons_zero, List.set_cons_succ]
                refine last.take (i := 10) (oi := { dst := some 59, op := Op.load 3 (Operand.tmp 58), type := 3, pos := "l2_boxes.go:334", after := #[{ on := 9, ground := Ground.data }], guard := none }) (v := ?v10) rfl (by kernel_rfl) (by kernel_rfl) (by kernel_rfl) (by kernel_rfl) (by decide) (fun _ _ _ h => h) (Or.inl ⟨by rfl, ?y10⟩) hHeld ?r10
                case y10 => (intro w hSw; (try dsimp only at hSw); go_simp; try with_reducible rfl)
                try simp only [Act.put, List.setIfInBounds_toArray, List.set_cons_zero, List.set_cons_succ]
                refine last.one (i := 11) (o := { dst := some 60, op := Op.call { callee := Callee.value (Operand.func 79), args := #[Operand.tmp 51, Operand.tmp 55, Operand.tmp 59], argTypes := #[24, 3, 3] }, type := 30, pos := "l2_boxes.go:334", after := #[{ on := 2, ground := Ground.data }, { on := 6, ground := Ground.data }, { on := 10, ground := Ground.data }], guard := none }) (by kernel_rfl) rfl (fun K hK => ?_)
                go_simp
                (go_at_call 79; (with_reducible refine (HCA.out _ (below_dr BI.out)).mono ?_); rintro e w2 ⟨rfl, hb2⟩)
                have L1 := Lib.hid (Low.call L0.out lw hb2)
                have f3b := below_cell hb2 _ _ (show wi.drew.cell? ⟨w1.heap.size + 1, 3, none⟩ = some v from f3)
                have lw2 : w.heap.size + 1 ≤ w2.heap.size := Nat.le_trans lw hb2.size
                have BI2 := Lib.hid (below_tr (below_dr BI.out) hb2)
                refine hK.out _ _ ?s11 (fun hHeld => ?_)
                case s11 => (try dsimp only); exact lows7 c0 c1 c2 c3 e4 e5 l0 l0 l0 l0 l4 l5 L1.out f3b
                clear hK K
                try simp only [Act.put, List.setIfInBounds_toArray, List.set_cons_zero, List.set_cons_succ]
                refine last.one (i := 12) (o := { dst := some 61, op := Op.call { callee := Callee.value (Operand.func 83), args := #[Operand.tmp 60], argTypes := #[30] }, type := 30, pos := "l2_boxes.go:334", after := #[{ on := 11, ground := Ground.data }, { on := 11, ground := Ground.chain }], guard := none }) (by kernel_rfl) rfl (fun K hK => ?_)
                go_simp
                (go_at_call 83; (with_reducible refine (HOW.out _ BI2.out).mono ?_); rintro e w3 ⟨r, rfl, hq3, hb3⟩)
                have L2 := Lib.hid (Low.call L1.out lw2 hb3)
                have f3c := below_cell hb3 _ _ f3b
                have lw3 : w.heap.size + 1 ≤ w3.heap.size := Nat.le_trans lw2 hb3.size
                obtain ⟨qa, ql, qc, rfl⟩ := make.shape hq3
                refine hK.out _ _ ?s12 (fun hHeld => ?_)
                case s12 => (try dsimp only); exact lows7 c0 c1 c2 c3 e4 e5 l0 l0 l0 l0 l4 l5 L2.out f3c
                clear hK K
                try simp only [Act.put, List.setIfInBounds_toArray, List.set_cons_zero, List.set_cons_succ]
                refine last.one (i := 13) (o := { dst := some 62, op := Op.buildSlice 22 1 #[(0, Operand.tmp 61)], type := 22, pos := "l2_boxes.go:334", after := #[{ on := 12, ground := Ground.data }], guard := none }) (by kernel_rfl) rfl (fun K hK => ?_)
                go_simp
                have L3 := Lib.hid (step.Low.alloc L2.out lw3 (.cells #[.slice qa ql qc] 30))
                have f3d := below_cell (below_al (Below.refl w3.heap.size w3) (.cells #[.slice qa ql qc] 30)) _ _ f3c
                refine hK.out _ _ ?s13 (fun hHeld => ?_)
                case s13 => (try dsimp only); exact lows7 c0 c1 c2 c3 e4 e5 l0 l0 l0 l0 l4 l5 L3.out f3d
                clear hK K
                try simp only [Act.put, List.setIfInBounds_toArray, List.set_cons_zero, List.set_cons_succ]
                have BWI := Lib.hid (below_al (below_tr (below_tr (below_dr (Below.refl wi.heap.size wi)) hb2) hb3) (.cells #[.slice qa ql qc] 30))
                have HG := Lib.hid (hW.out.keep BWI.out)
                refine last.one (i := 14) (o := { dst := some 63, op := Op.call { callee := Callee.builtin Builtin.append, args := #[Operand.tmp 50, Operand.tmp 62], argTypes := #[22, 22] }, type := 22, pos := "l2_boxes.go:334", after := #[{ on := 1, ground := Ground.data }, { on := 13, ground := Ground.data }, { on := 12, ground := Ground.chain }], guard := none }) (by kernel_rfl) rfl (fun K hK => ?_)
                refine step.own rfl (.tmp 50) (.tmp 62) 22 rfl 30 i0 (.slice none 0 0) 1 24 Try.underlying22 hi hz0 hz1 hz2 rfl (by decide) (w.heap.size + 1) _ (a * ss.length + c) vals HG.out.owns (by simp [Act.eval]) ⟨w3.heap.size, 0, none⟩ 1 1 [.slice qa ql qc] (by simp [Act.eval]) rfl (by intro j u hj; have := app.one_at w3 (.slice qa ql qc) 30; exact this j u hj) (by intro u hu; simp at hu; subst hu; rfl) (by have := HK9.out; unfold maxLen; omega) (by have := HK9.out; omega) (by simp; omega) ?_
                intro v' w4 hown' hgrow
                obtain ⟨q1, q2⟩ := HG.out.field hgrow
                obtain ⟨va, vl, vcc, hvv⟩ := make.shape hown'
                subst hvv
                have L4 := Lib.hid (step.Low.grown L3.out hgrow (by simp; omega) (fun q hq => (HG.out.owns.lt q hq).1))
                refine hK.out _ _ ?s14 (fun hHeld => ?_)
                case s14 => (try dsimp only); exact lows7 c0 c1 c2 c3 e4 e5 l0 l0 l0 l0 l4 l5 L4.out q1
                clear hK K
                try simp only [Act.put, List.setIfInBounds_toArray, List.set_cons_zero, List.set_cons_succ]
                refine last.take (i := 15) (oi := { dst := some 64, op := Op.fieldAddr 24 (Operand.tmp 8) 3, type := 0, pos := "l2_boxes.go:334", after := #[{ on := 0, ground := Ground.phase }, { on := 1, ground := Ground.phase }, { on := 2, ground := Ground.phase }, { on := 3, ground := Ground.phase }, { on := 4, ground := Ground.phase }, { on := 5, ground := Ground.phase }, { on := 6, ground := Ground.phase }, { on := 7, ground := Ground.phase }, { on := 8, ground := Ground.phase }, { on := 9, ground := Ground.phase }, { on := 10, ground := Ground.phase }, { on := 11, ground := Ground.phase }, { on := 12, ground := Ground.phase }, { on := 13, ground := Ground.phase }, { on := 14, ground := Ground.phase }], guard := none }) (v := ?v15) rfl (by kernel_rfl) (by kernel_rfl) (by kernel_rfl) (by kernel_rfl) (by decide) (fun _ _ _ h => h) (Or.inl ⟨by rfl, ?y15⟩) hHeld ?r15
                case y15 => (intro w hSw; (try dsimp only at hSw); go_simp; try with_reducible rfl)
                try simp only [Act.put, List.setIfInBounds_toArray, List.set_cons_zero, List.set_cons_succ]
                refine last.final (o := { dst := none, op := Op.store 22 (Operand.tmp 64) (Operand.tmp 63), type := 0, pos := "l2_boxes.go:334", after := #[{ on := 15, ground := Ground.data }, { on := 14, ground := Ground.data }, { on := 14, ground := Ground.chain }, { on := 0, ground := Ground.phase }, { on := 1, ground := Ground.phase }, { on := 2, ground := Ground.phase }, { on := 3, ground := Ground.phase }, { on := 4, ground := Ground.phase }, { on := 5, ground := Ground.phase }, { on := 6, ground := Ground.phase }, { on := 7, ground := Ground.phase }, { on := 8, ground := Ground.phase }, { on := 9, ground := Ground.phase }, { on := 10, ground := Ground.phase }, { on := 11, ground := Ground.phase }, { on := 12, ground := Ground.phase }, { on := 13, ground := Ground.phase }, { on := 14, ground := Ground.phase }], guard := none }) (by kernel_rfl) rfl (fun K hK => ?_)
                go_simp
                refine hK.out _ _ ?_
                clear hK K
                try simp only [Act.put, List.setIfInBounds_toArray, List.set_cons_zero, List.set_cons_succ]
                refine last.done (by kernel_rfl) ?_ _
                have W4 := Lib.hid (HG.out.grow (n := w2.heap.size) (u := .slice qa ql qc) (by rw [HQQ.out]; exact hq3.alloc _) lw2 hown' hgrow)
                clear hown' hgrow HG hW q1 q2 L0 L1 L2 L3 L4 f3 f3b f3c f3d hHeld hb2 hb3 hq3 c0 c1 c2 c3 c4 e4 e5 BWI BI2
                go_wp2_with fail
                go_roundw
                case rel => exact ⟨c + 1, by omega, by go_num, _, _, _, W4⟩
                case measure => simp [intOf]; omega
              · have hkc : ¬ (c : Int) < (ss.length : Int) := by omega
                have hce : c = ss.length := by omega
                go_wp2_with fail
                go_roundw
                case rel => exact ⟨a + 1, by omega, by go_num, ⟨_, rfl⟩, _, _, _, by rw [Nat.add_mul, Nat.one_mul, ← hce]; rw [← hce] at hW; exact hW⟩
                case measure => simp [intOf]; omega
          · have hkz : ¬ (a : Int) < (fs.length : Int) := by omega
            have hae : a = fs.length := by omega
            obtain ⟨xa, xl, xc, rfl⟩ := make.shape hW.out.owns
            obtain ⟨f0, f1, f2, f3, f4⟩ := four_cells hW.out.blk
            obtain ⟨r0, r1, r2, r3, r4⟩ := four_cells hW.out.res
            have rf : ∀ k, wo.frozen? ⟨w.heap.size + 1, k, none⟩ = false := fun k => Joins.unfrozen_of_block hW.out.res k
            have HW := hW
            have HAE := Lib.hid hae
            have BW := Lib.hid (below_tr (below_al (Below.refl w.heap.size w) (.cells #[.int .i64 (X : Int), .int .i64 (Y : Int), .int .i64 wh, .slice (some ⟨b0, o0, none⟩) xss.length vc] 24)) hW.out.below)
            clear hW hae
            go_wp2_with fail
            refine bodyPost_ret (v := .tuple #[.agg #[.int .i64 (fs.length : Int), .int .i64 (ss.length : Int), .int .i64 wh, .slice xa xl xc], .bool true]) (by simp [results, Try.results37, go_sem, r0, r1, r2, r3]) rfl ?_
            rw [HE.out]
            refine ⟨_, rfl, ?_, ?_⟩
            · show IRows _ _ (make.rowsOf _ (fs.length * ss.length))
              rw [← HAE.out]
              refine HW.out.kept ?_
              repeat (first | exact Wrote.refl _ _ | refine Wrote.setCell ?_ (by simp) _)
            · repeat (refine Below.setCell ?_ (by simp <;> omega) _)
              exact BW.out
      · have HC3 := Lib.hid (fun (W : World) (hb : Below w.heap.size w W) => goodB_no hw2 ▸ asked _ ss y W (HS0.out.below hb) ky)
        have HE := Lib.hid (res_no (x := x) (y := y) (wh := wh) (xss := xss) (fs := fs) (ss := ss) (fun h => hw2 h.2.2))
        clear hs hw1 hw2 hfc hsc hcc0
        go_enter Try.func37, Try.ntmps37
        go_wp2_with fail
        refine CP.out.mono ?_
        rintro e w1 ⟨rfl, hb0⟩
        have B1 := Lib.hid (below_tr B0.out hb0)
        have R1 := Lib.hid (R0.out.below hb0)
        have P1 := Lib.hid (P0.out.below hb0)
        obtain ⟨c0, c1, c2, c3, c4⟩ := four_cells P1.out
        rw [EB.out]
        clear hb0
        go_wp2_with fail
        refine (HC2.out _ B1.out).mono ?_
        rintro e w' ⟨rfl, rfl⟩
        go_wp2_with fail
        refine (HC3.out _ B1.out).mono ?_
        rintro e w' ⟨rfl, rfl⟩
        obtain ⟨r0, r1, r2, r3, r4⟩ := four_cells R1.out
        have rf : ∀ k, w1.frozen? ⟨w.heap.size + 1, k, none⟩ = false := fun k => Joins.unfrozen_of_block R1.out k
        go_wp2_with fail
        refine bodyPost_ret (v := .tuple #[.agg #[.int .i64 0, .int .i64 0, .int .i64 0, .slice none 0 0], .bool false]) (by simp [results, Try.results37, go_sem, r0, r1, r2, r3]) rfl ?_
        rw [HE.out]
        refine ⟨_, rfl, IRows.nil _, ?_⟩
        repeat (first | (with_reducible exact B1.out) | refine Below.setCell ?_ (by simp <;> omega) _)
    · have HC2 := Lib.hid (fun (W : World) (hb : Below w.heap.size w W) => goodB_no hw1 ▸ asked _ fs x W (HF0.out.below hb) kx)
      have HE := Lib.hid (res_no (x := x) (y := y) (wh := wh) (xss := xss) (fs := fs) (ss := ss) (fun h => hw1 h.2.1))
      clear hs hw1 hfc hsc hcc0
      go_enter Try.func37, Try.ntmps37
      go_wp2_with fail
      refine CP.out.mono ?_
      rintro e w1 ⟨rfl, hb0⟩
      have B1 := Lib.hid (below_tr B0.out hb0)
      have R1 := Lib.hid (R0.out.below hb0)
      have P1 := Lib.hid (P0.out.below hb0)
      obtain ⟨c0, c1, c2, c3, c4⟩ := four_cells P1.out
      rw [EB.out]
      clear hb0
      go_wp2_with fail
      refine (HC2.out _ B1.out).mono ?_
      rintro e w' ⟨rfl, rfl⟩
      obtain ⟨r0, r1, r2, r3, r4⟩ := four_cells R1.out
      have rf : ∀ k, w1.frozen? ⟨w.heap.size + 1, k, none⟩ = false := fun k => Joins.unfrozen_of_block R1.out k
      go_wp2_with fail
      refine bodyPost_ret (v := .tuple #[.agg #[.int .i64 0, .int .i64 0, .int .i64 0, .slice none 0 0], .bool false]) (by simp [results, Try.results37, go_sem, r0, r1, r2, r3]) rfl ?_
      rw [HE.out]
      refine ⟨_, rfl, IRows.nil _, ?_⟩
      repeat (first | (with_reducible exact B1.out) | refine Below.setCell ?_ (by simp <;> omega) _)
  · have EB := Lib.hid (boxB_no hs)
    have HE := Lib.hid (res_no (x := x) (y := y) (wh := wh) (xss := xss) (fs := fs) (ss := ss) (fun h => hs h.1))
    clear hs hfc hsc hcc0
    go_enter Try.func37, Try.ntmps37
    go_wp2_with fail
    refine CP.out.mono ?_
    rintro e w1 ⟨rfl, hb0⟩
    have B1 := Lib.hid (below_tr B0.out hb0)
    have R1 := Lib.hid (R0.out.below hb0)
    have P1 := Lib.hid (P0.out.below hb0)
    obtain ⟨c0, c1, c2, c3, c4⟩ := four_cells P1.out
    rw [EB.out]
    clear hb0
    obtain ⟨r0, r1, r2, r3, r4⟩ := four_cells R1.out
    have rf : ∀ k, w1.frozen? ⟨w.heap.size + 1, k, none⟩ = false := fun k => Joins.unfrozen_of_block R1.out k
    go_wp2_with fail
    refine bodyPost_ret (v := .tuple #[.agg #[.int .i64 0, .int .i64 0, .int .i64 0, .slice none 0 0], .bool false]) (by simp [results, Try.results37, go_sem, r0, r1, r2, r3]) rfl ?_
    rw [HE.out]
    refine ⟨_, rfl, IRows.nil _, ?_⟩
    repeat (first | (with_reducible exact B1.out) | refine Below.setCell ?_ (by simp <;> omega) _)

end Go.Proofs.Ytkajebhagkbcaaa.aska
