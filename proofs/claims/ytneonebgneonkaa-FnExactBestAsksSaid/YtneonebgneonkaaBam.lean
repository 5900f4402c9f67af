/- What BestAsks answers; sumByAsks of the program. -/
import Derived.Test.YtneonebgneonkaaNam
import Derived.Test.YtneonebgneonkaaWisb
import Derived.Test.YtneonebgneonkaaWirb
import Derived.Test.YtneonebgneonkaaSume
import Derived.Test.YtneonebgneonkaaMaxi
import Derived.Test.YtneonebgneonkaaPlg
import Derived.Test.YtneonebgneonkaaSmm
namespace Go.Proofs.Ytneonebgneonkaa.bam
open Go.RowKit Go.Deep Go.Proofs.Ytneonebgneonkaa.base
open Go.Proofs.Ytneonebgneonkaa.ints (ret_int infoInt infoInts)
open Go.Proofs.Ytneonebgneonkaa.rws (total)
open Go.Proofs.Ytneonebgneonkaa.two (two)
open Go.Proofs.Ytneonebgneonkaa.play (within)
open Go.Proofs.Ytneonebgneonkaa.wis (ok2)
open Go.Proofs.Ytneonebgneonkaa.rby (sumR sumR_yes halves made)
open Go.Proofs.Ytneonebgneonkaa.maxi (bst bst_new bst_old bst_lt)
open Go.Proofs.Ytneonebgneonkaa.plays (at_ len_at)
open Go.Proofs.Ytneonebgneonkaa.scene (three_cells)
open Go.Proofs.Ytneonebgneonkaa.rule (RV OR)

noncomputable def wr (x y wh : Int) (xss : List (List Int)) (x' y' wh' : Int) (yss : List (List Int)) (xs zs : List Int) : make.Res := wrm.res x y wh xss x' y' wh' yss (sumR xs).f (sumR xs).k (sumR xs).s (sumR zs).f (sumR zs).k (sumR zs).s
theorem tot_wr (x y wh : Int) (xss : List (List Int)) (x' y' wh' : Int) (yss : List (List Int)) (xs zs : List Int) : total (wr x y wh xss x' y' wh' yss xs zs).rows ≤ 1048576 := wrm.tot_res
theorem rule_of {xs : List Int} (h : within 4 0 1 xs) : wrm.rule (sumR xs).f (sumR xs).k (sumR xs).s := by
  rw [sumR_yes h]
  obtain ⟨hl, hb⟩ := h
  have hl4 : xs.length = 4 := by omega
  match xs, hl4, hb with
  | [p, q, r, s], _, hb =>
    have h0 := hb 0 (by simp)
    have h1 := hb 1 (by simp)
    have h2 := hb 2 (by simp)
    have h3 := hb 3 (by simp)
    simp at h0 h1 h2 h3
    have z1 : ∀ z ∈ ([0, 1] : List Int), 0 ≤ z ∧ z ≤ 1 := by decide
    have z2 : ∀ z ∈ ([0, 1, 1, 0] : List Int), 0 ≤ z ∧ z ≤ 1 := by decide
    refine ⟨smm.within_of (n := 2) rfl z1, ⟨rfl, smm.within_of (n := 2) rfl ?_, smm.within_of (n := 2) rfl ?_⟩, ⟨rfl, smm.within_of (n := 4) rfl z2, smm.within_of (n := 4) rfl z2⟩⟩
    · intro z hz
      simp [made, halves] at hz
      rcases hz with rfl | rfl <;> assumption
    · intro z hz
      simp [made, halves] at hz
      rcases hz with rfl | rfl <;> assumption
theorem at_within (p : Nat) : within 4 0 1 (at_ 4 p) := by
  refine smm.within_of (n := 4) (len_at 4 p) (fun z hz => ?_)
  obtain ⟨j, _, rfl⟩ := List.mem_map.1 hz
  exact plg.bit01 4 p j
variable {x y wh : Int} {xss : List (List Int)} {x' y' wh' : Int} {yss : List (List Int)} {xs zs : List Int}
theorem wr_yes (h : ok2 x y wh xss x' y' wh' yss) (h1 : within 4 0 1 xs) (h2 : within 4 0 1 zs) : wr x y wh xss x' y' wh' yss xs zs = ⟨2, 2, wh * wh', make.rowsOf (wrm.N xss yss (sumR xs).f (sumR xs).k (sumR xs).s (sumR zs).f (sumR zs).k (sumR zs).s) 4, true⟩ := wrm.res_yes ⟨⟨h.1, rule_of h1, rule_of h2⟩, h.2⟩
theorem wr_two (h : ok2 x y wh xss x' y' wh' yss) (h1 : within 4 0 1 xs) (h2 : within 4 0 1 zs) : two (wr x y wh xss x' y' wh' yss xs zs).x (wr x y wh xss x' y' wh' yss xs zs).y (wr x y wh xss x' y' wh' yss xs zs).wh (wr x y wh xss x' y' wh' yss xs zs).rows := by
  rw [wr_yes h h1 h2]
  exact ⟨wrm.box_ok h.1.1 h.1.2 (rule_of h1) (rule_of h2) h.2, rfl, rfl⟩
theorem wr_no (h : ¬ ok2 x y wh xss x' y' wh' yss) : wr x y wh xss x' y' wh' yss xs zs = make.Res.zero := wrm.res_no (fun h' => h ⟨h'.1.1, h'.2⟩)
theorem zero_two : ¬ two make.Res.zero.x make.Res.zero.y make.Res.zero.wh make.Res.zero.rows := fun h => absurd h.2.1 (by decide)
noncomputable def sv (x y wh : Int) (xss : List (List Int)) (x' y' wh' : Int) (yss : List (List Int)) (k : Nat) (xs zs : List Int) : Int := sume.sum8 (wr x y wh xss x' y' wh' yss xs zs).rows k
/-- the worth of a place -/
noncomputable def G (x y wh : Int) (xss : List (List Int)) (x' y' wh' : Int) (yss : List (List Int)) (k p : Nat) : Int := sv x y wh xss x' y' wh' yss k (at_ 4 (p / 16)) (at_ 4 (p % 16))
structure Ans where
  f : List Int
  s : List Int
  v : Int
  ok : Bool
noncomputable def best (x y wh : Int) (xss : List (List Int)) (x' y' wh' : Int) (yss : List (List Int)) (k : Nat) : Nat := bst (G x y wh xss x' y' wh' yss k) 256
open Classical in
noncomputable def res (x y wh : Int) (xss : List (List Int)) (x' y' wh' : Int) (yss : List (List Int)) (k : Int) : Ans :=
  if ok2 x y wh xss x' y' wh' yss ∧ 0 ≤ k ∧ k ≤ 7 then ⟨at_ 4 (best x y wh xss x' y' wh' yss k.toNat / 16), at_ 4 (best x y wh xss x' y' wh' yss k.toNat % 16), G x y wh xss x' y' wh' yss k.toNat (best x y wh xss x' y' wh' yss k.toNat), true⟩ else ⟨[], [], 0, false⟩
theorem res_yes {k : Int} (h : ok2 x y wh xss x' y' wh' yss ∧ 0 ≤ k ∧ k ≤ 7) : res x y wh xss x' y' wh' yss k = ⟨at_ 4 (best x y wh xss x' y' wh' yss k.toNat / 16), at_ 4 (best x y wh xss x' y' wh' yss k.toNat % 16), G x y wh xss x' y' wh' yss k.toNat (best x y wh xss x' y' wh' yss k.toNat), true⟩ := if_pos h
theorem res_no {k : Int} (h : ¬ (ok2 x y wh xss x' y' wh' yss ∧ 0 ≤ k ∧ k ≤ 7)) : res x y wh xss x' y' wh' yss k = ⟨[], [], 0, false⟩ := if_neg h
theorem at8 : ∀ p : Fin 256, at_ 8 p.val = at_ 4 (p.val / 16) ++ at_ 4 (p.val % 16) := by decide +kernel
/-- an integer of a list that is read -/
theorem int_cell {W : World} {q : Value} {xs : List Int} (h : Ints W q xs) {k : Nat} (hk : k < xs.length) : ∃ b o c, q = .slice (some ⟨b, o, none⟩) xs.length c ∧ W.cell? ⟨b, o + k, none⟩ = some (.int .i64 xs[k]) := by
  obtain ⟨A, b, o, c, hv, _, _, hA, hc⟩ := h.form
  rw [hA (by omega)] at hv
  exact ⟨b, o, c, hv, hc k hk⟩


set_option maxRecDepth 100000 in
set_option maxHeartbeats 4000000 in
theorem sum_yes (x y wh : Int) (v : Value) (xss : List (List Int)) (x' y' wh' : Int) (v' : Value) (yss : List (List Int)) (u : Value) (xs : List Int) (u' : Value) (zs : List Int) (k : Nat) (w : World) (h : IRows w v xss) (h' : IRows w v' yss) (hn : total xss ≤ 1048576) (hn' : total yss ≤ 1048576) (hu : Ints w u xs) (hu' : Ints w u' zs) (h1 : within 4 0 1 xs) (h2 : within 4 0 1 zs) (hk : k < 8) (hok : ok2 x y wh xss x' y' wh' yss) :
    Calls Try.prog 99 #[.agg #[.int .i64 x, .int .i64 y, .int .i64 wh, v], .agg #[.int .i64 x', .int .i64 y', .int .i64 wh', v'], u, u', .int .i64 (k : Int)] w fun e w' => e = .returned (.tuple #[.int .i64 (sv x y wh xss x' y' wh' yss k xs zs), .bool true]) ∧ Below w.heap.size w w' := by
  obtain ⟨va, vn, vc, rfl⟩ := h.shape
  obtain ⟨ua, un, uc, rfl⟩ := h'.shape
  obtain ⟨ca, cn, cc, rfl⟩ := hu.shape
  obtain ⟨da, dn, dc, rfl⟩ := hu'.shape
  have B2 := below_al (below_al (Below.refl w.heap.size w) (.cells #[.int .i64 x, .int .i64 y, .int .i64 wh, .slice va vn vc] 48)) (.cells #[.int .i64 x', .int .i64 y', .int .i64 wh', .slice ua un uc] 48)
  have P1 := (Blk.new w 48 #[.int .i64 x, .int .i64 y, .int .i64 wh, .slice va vn vc]).alloc (.cells #[.int .i64 x', .int .i64 y', .int .i64 wh', .slice ua un uc] 48)
  have P2 : Blk ((w.alloc (.cells #[.int .i64 x, .int .i64 y, .int .i64 wh, .slice va vn vc] 48)).alloc (.cells #[.int .i64 x', .int .i64 y', .int .i64 wh', .slice ua un uc] 48)) (w.heap.size + 1) 48 #[.int .i64 x', .int .i64 y', .int .i64 wh', .slice ua un uc] := by have := Blk.new (w.alloc (.cells #[.int .i64 x, .int .i64 y, .int .i64 wh, .slice va vn vc] 48)) 48 #[.int .i64 x', .int .i64 y', .int .i64 wh', .slice ua un uc]; simpa using this
  have HVA := Lib.hid (h.below B2)
  have HVB := Lib.hid (h'.below B2)
  have HZ := Lib.hid (hu'.below B2)
  have HS1 := Lib.hid (rby.sumby _ xs _ (hu.below B2))
  obtain ⟨w2, hw2⟩ : ∃ w2, ((w.alloc (.cells #[.int .i64 x, .int .i64 y, .int .i64 wh, .slice va vn vc] 48)).alloc (.cells #[.int .i64 x', .int .i64 y', .int .i64 wh', .slice ua un uc] 48)) = w2 := ⟨_, rfl⟩
  rw [hw2] at B2 P1 P2 HVA HVB HZ HS1
  have BB := Lib.hid B2
  have HP1 := Lib.hid P1
  have HP2 := Lib.hid P2
  have HQT : Hid (two (wr x y wh xss x' y' wh' yss xs zs).x (wr x y wh xss x' y' wh' yss xs zs).y (wr x y wh xss x' y' wh' yss xs zs).wh (wr x y wh xss x' y' wh' yss xs zs).rows) := Lib.hid (wr_two hok h1 h2)
  have hkz : (k : Int) < 8 := by omega
  have HK := Lib.hid hk
  clear h h' hu hu' B2 P1 P2 hok h1 h2 hk
  go_enter Try.func99, Try.ntmps99
  go_wp2_with fail
  clear hw2
  refine HS1.out.mono ?_
  rintro e w3 ⟨sv1, u1, nv1, rfl, hO, hb⟩
  obtain ⟨a0, a1, a2, a3, a4, a5, a6, a7, a8, rfl, rfl, rfl⟩ := hO.view.shape
  have C3 := below_al hb (.cells #[.slice a0 a1 a2, .slice a3 a4 a5, .slice a6 a7 a8] 28)
  have C3' := Lib.hid C3
  have HO1 := Lib.hid (hO.view.below (below_al (Below.refl _ _) (.cells #[.slice a0 a1 a2, .slice a3 a4 a5, .slice a6 a7 a8] 28)))
  have N1 := Lib.hid (Blk.new w3 28 #[.slice a0 a1 a2, .slice a3 a4 a5, .slice a6 a7 a8])
  have HS2 := Lib.hid (rby.sumby _ zs _ (HZ.out.below C3))
  clear hO hb C3 HS1
  go_wp2_with fail
  refine HS2.out.mono ?_
  rintro e w5 ⟨sv2, u2, nv2, rfl, hO, hb⟩
  obtain ⟨b0, b1, b2, b3, b4, b5, b6, b7, b8, rfl, rfl, rfl⟩ := hO.view.shape
  have C5 := below_al (below_tr (Below.refl _ _) hb) (.cells #[.slice b0 b1 b2, .slice b3 b4 b5, .slice b6 b7 b8] 28)
  have D5 := below_tr C3'.out C5
  have HO2 := hO.view.below (below_al (Below.refl _ _) (.cells #[.slice b0 b1 b2, .slice b3 b4 b5, .slice b6 b7 b8] 28))
  have N1' := N1.out.below C5
  have N2 := Blk.new w5 28 #[.slice b0 b1 b2, .slice b3 b4 b5, .slice b6 b7 b8]
  have HC := Lib.hid (wir.impl_any x y wh _ xss x' y' wh' _ yss _ _ _ _ _ _ _ _ _ _ _ _ _ (HVA.out.below D5) (HVB.out.below D5) hn hn' (HO1.out.below C5) HO2)
  obtain ⟨p0, p1, p2, p3, p4⟩ := four_cells (HP1.out.below D5)
  obtain ⟨q0, q1, q2, q3, q4⟩ := four_cells (HP2.out.below D5)
  obtain ⟨m0, m1, m2, m3⟩ := three_cells N1'
  obtain ⟨n0, n1, n2, n3⟩ := three_cells N2
  have HD5 := Lib.hid D5
  clear hO hb C5 D5 HO2 N1' N2 HS2 C3' HO1 N1
  go_wp2_with fail
  refine HC.out.mono ?_
  rintro e w7 ⟨r7, rfl, hr, hb⟩
  obtain ⟨xa, xn, xc, rfl⟩ := hr.rows.shape
  have A7 := below_al (Below.refl w7.heap.size w7) (.cells #[.int .i64 (wr x y wh xss x' y' wh' yss xs zs).x, .int .i64 (wr x y wh xss x' y' wh' yss xs zs).y, .int .i64 (wr x y wh xss x' y' wh' yss xs zs).wh, .slice xa xn xc] 48)
  have N7 := Blk.new w7 48 #[.int .i64 (wr x y wh xss x' y' wh' yss xs zs).x, .int .i64 (wr x y wh xss x' y' wh' yss xs zs).y, .int .i64 (wr x y wh xss x' y' wh' yss xs zs).wh, .slice xa xn xc]
  have HE8 := sume.impl_any (wr x y wh xss x' y' wh' yss xs zs).x (wr x y wh xss x' y' wh' yss xs zs).y (wr x y wh xss x' y' wh' yss xs zs).wh _ (wr x y wh xss x' y' wh' yss xs zs).rows _ (hr.rows.below A7) (tot_wr _ _ _ _ _ _ _ _ _ _)
  have B7 := below_al (below_tr (below_tr BB.out HD5.out) hb) (.cells #[.int .i64 (wr x y wh xss x' y' wh' yss xs zs).x, .int .i64 (wr x y wh xss x' y' wh' yss xs zs).y, .int .i64 (wr x y wh xss x' y' wh' yss xs zs).wh, .slice xa xn xc] 48)
  rw [sume.res_yes HQT.out] at HE8
  have HSV : Hid (sv x y wh xss x' y' wh' yss k xs zs = sume.sum8 (wr x y wh xss x' y' wh' yss xs zs).rows k) := Lib.hid rfl
  have HE := Lib.hid HE8
  have HB7 := Lib.hid B7
  obtain ⟨c0, c1, c2, c3, c4⟩ := four_cells N7
  obtain ⟨qq, hqq⟩ : ∃ qq, wrm.res x y wh xss x' y' wh' yss (sumR xs).f (sumR xs).k (sumR xs).s (sumR zs).f (sumR zs).k (sumR zs).s = qq := ⟨_, rfl⟩
  have hqw : (wr x y wh xss x' y' wh' yss xs zs) = qq := hqq
  rw [hqw] at HE HB7 c0 c1 c2 c3 HSV
  rw [hqq]
  clear hr hb A7 N7 HE8 B7 HC p0 p1 p2 p3 p4 q0 q1 q2 q3 q4 m0 m1 m2 m3 n0 n1 n2 n3 hqq hqw HQT
  go_wp2_with fail
  refine HE.out.mono ?_
  rintro e w9 ⟨u9, rfl, h9, hb⟩
  have B9 := Lib.hid (below_tr HB7.out hb)
  obtain ⟨gb, go, gc, rfl, hcell⟩ := int_cell h9.ints (k := k) (by rw [sume.len_up]; exact HK.out)
  have hcv : (sume.up qq.rows 8)[k]'(by rw [sume.len_up]; exact HK.out) = sume.sum8 qq.rows k := by simp [sume.up]
  rw [hcv] at hcell
  rw [sume.len_up]
  clear h9 hb HE hcv c0 c1 c2 c3 c4
  go_wp2_with fail
  go_ret2
  rw [HSV.out]
  exact ⟨rfl, B9.out⟩
set_option maxRecDepth 100000 in
set_option maxHeartbeats 4000000 in
theorem sum_no (x y wh : Int) (v : Value) (xss : List (List Int)) (x' y' wh' : Int) (v' : Value) (yss : List (List Int)) (u : Value) (xs : List Int) (u' : Value) (zs : List Int) (k : Nat) (w : World) (h : IRows w v xss) (h' : IRows w v' yss) (hn : total xss ≤ 1048576) (hn' : total yss ≤ 1048576) (hu : Ints w u xs) (hu' : Ints w u' zs) (hk : k < 8) (hok : ¬ ok2 x y wh xss x' y' wh' yss) :
    Calls Try.prog 99 #[.agg #[.int .i64 x, .int .i64 y, .int .i64 wh, v], .agg #[.int .i64 x', .int .i64 y', .int .i64 wh', v'], u, u', .int .i64 (k : Int)] w fun e w' => e = .returned (.tuple #[.int .i64 0, .bool false]) ∧ Below w.heap.size w w' := by
  obtain ⟨va, vn, vc, rfl⟩ := h.shape
  obtain ⟨ua, un, uc, rfl⟩ := h'.shape
  obtain ⟨ca, cn, cc, rfl⟩ := hu.shape
  obtain ⟨da, dn, dc, rfl⟩ := hu'.shape
  have B2 := below_al (below_al (Below.refl w.heap.size w) (.cells #[.int .i64 x, .int .i64 y, .int .i64 wh, .slice va vn vc] 48)) (.cells #[.int .i64 x', .int .i64 y', .int .i64 wh', .slice ua un uc] 48)
  have P1 := (Blk.new w 48 #[.int .i64 x, .int .i64 y, .int .i64 wh, .slice va vn vc]).alloc (.cells #[.int .i64 x', .int .i64 y', .int .i64 wh', .slice ua un uc] 48)
  have P2 : Blk ((w.alloc (.cells #[.int .i64 x, .int .i64 y, .int .i64 wh, .slice va vn vc] 48)).alloc (.cells #[.int .i64 x', .int .i64 y', .int .i64 wh', .slice ua un uc] 48)) (w.heap.size + 1) 48 #[.int .i64 x', .int .i64 y', .int .i64 wh', .slice ua un uc] := by have := Blk.new (w.alloc (.cells #[.int .i64 x, .int .i64 y, .int .i64 wh, .slice va vn vc] 48)) 48 #[.int .i64 x', .int .i64 y', .int .i64 wh', .slice ua un uc]; simpa using this
  have HVA := Lib.hid (h.below B2)
  have HVB := Lib.hid (h'.below B2)
  have HZ := Lib.hid (hu'.below B2)
  have HS1 := Lib.hid (rby.sumby _ xs _ (hu.below B2))
  obtain ⟨w2, hw2⟩ : ∃ w2, ((w.alloc (.cells #[.int .i64 x, .int .i64 y, .int .i64 wh, .slice va vn vc] 48)).alloc (.cells #[.int .i64 x', .int .i64 y', .int .i64 wh', .slice ua un uc] 48)) = w2 := ⟨_, rfl⟩
  rw [hw2] at B2 P1 P2 HVA HVB HZ HS1
  have BB := Lib.hid B2
  have HP1 := Lib.hid P1
  have HP2 := Lib.hid P2
  have HQT : Hid ((wr x y wh xss x' y' wh' yss xs zs) = make.Res.zero) := Lib.hid (wr_no hok)
  have hkz : (k : Int) < 8 := by omega
  have HK := Lib.hid hk
  clear h h' hu hu' B2 P1 P2 hok hk
  go_enter Try.func99, Try.ntmps99
  go_wp2_with fail
  clear hw2
  refine HS1.out.mono ?_
  rintro e w3 ⟨sv1, u1, nv1, rfl, hO, hb⟩
  obtain ⟨a0, a1, a2, a3, a4, a5, a6, a7, a8, rfl, rfl, rfl⟩ := hO.view.shape
  have C3 := below_al hb (.cells #[.slice a0 a1 a2, .slice a3 a4 a5, .slice a6 a7 a8] 28)
  have C3' := Lib.hid C3
  have HO1 := Lib.hid (hO.view.below (below_al (Below.refl _ _) (.cells #[.slice a0 a1 a2, .slice a3 a4 a5, .slice a6 a7 a8] 28)))
  have N1 := Lib.hid (Blk.new w3 28 #[.slice a0 a1 a2, .slice a3 a4 a5, .slice a6 a7 a8])
  have HS2 := Lib.hid (rby.sumby _ zs _ (HZ.out.below C3))
  clear hO hb C3 HS1
  go_wp2_with fail
  refine HS2.out.mono ?_
  rintro e w5 ⟨sv2, u2, nv2, rfl, hO, hb⟩
  obtain ⟨b0, b1, b2, b3, b4, b5, b6, b7, b8, rfl, rfl, rfl⟩ := hO.view.shape
  have C5 := below_al (below_tr (Below.refl _ _) hb) (.cells #[.slice b0 b1 b2, .slice b3 b4 b5, .slice b6 b7 b8] 28)
  have D5 := below_tr C3'.out C5
  have HO2 := hO.view.below (below_al (Below.refl _ _) (.cells #[.slice b0 b1 b2, .slice b3 b4 b5, .slice b6 b7 b8] 28))
  have N1' := N1.out.below C5
  have N2 := Blk.new w5 28 #[.slice b0 b1 b2, .slice b3 b4 b5, .slice b6 b7 b8]
  have HC := Lib.hid (wir.impl_any x y wh _ xss x' y' wh' _ yss _ _ _ _ _ _ _ _ _ _ _ _ _ (HVA.out.below D5) (HVB.out.below D5) hn hn' (HO1.out.below C5) HO2)
  obtain ⟨p0, p1, p2, p3, p4⟩ := four_cells (HP1.out.below D5)
  obtain ⟨q0, q1, q2, q3, q4⟩ := four_cells (HP2.out.below D5)
  obtain ⟨m0, m1, m2, m3⟩ := three_cells N1'
  obtain ⟨n0, n1, n2, n3⟩ := three_cells N2
  have HD5 := Lib.hid D5
  clear hO hb C5 D5 HO2 N1' N2 HS2 C3' HO1 N1
  go_wp2_with fail
  refine HC.out.mono ?_
  rintro e w7 ⟨r7, rfl, hr, hb⟩
  obtain ⟨xa, xn, xc, rfl⟩ := hr.rows.shape
  have A7 := below_al (Below.refl w7.heap.size w7) (.cells #[.int .i64 (wr x y wh xss x' y' wh' yss xs zs).x, .int .i64 (wr x y wh xss x' y' wh' yss xs zs).y, .int .i64 (wr x y wh xss x' y' wh' yss xs zs).wh, .slice xa xn xc] 48)
  have N7 := Blk.new w7 48 #[.int .i64 (wr x y wh xss x' y' wh' yss xs zs).x, .int .i64 (wr x y wh xss x' y' wh' yss xs zs).y, .int .i64 (wr x y wh xss x' y' wh' yss xs zs).wh, .slice xa xn xc]
  have HE8 := sume.impl_any (wr x y wh xss x' y' wh' yss xs zs).x (wr x y wh xss x' y' wh' yss xs zs).y (wr x y wh xss x' y' wh' yss xs zs).wh _ (wr x y wh xss x' y' wh' yss xs zs).rows _ (hr.rows.below A7) (tot_wr _ _ _ _ _ _ _ _ _ _)
  have B7 := below_al (below_tr (below_tr BB.out HD5.out) hb) (.cells #[.int .i64 (wr x y wh xss x' y' wh' yss xs zs).x, .int .i64 (wr x y wh xss x' y' wh' yss xs zs).y, .int .i64 (wr x y wh xss x' y' wh' yss xs zs).wh, .slice xa xn xc] 48)
  have HQN : ¬ two (wr x y wh xss x' y' wh' yss xs zs).x (wr x y wh xss x' y' wh' yss xs zs).y (wr x y wh xss x' y' wh' yss xs zs).wh (wr x y wh xss x' y' wh' yss xs zs).rows := by rw [HQT.out]; exact zero_two
  rw [sume.res_no HQN] at HE8
  have HE := Lib.hid HE8
  have HB7 := Lib.hid B7
  obtain ⟨c0, c1, c2, c3, c4⟩ := four_cells N7
  obtain ⟨qq, hqq⟩ : ∃ qq, wrm.res x y wh xss x' y' wh' yss (sumR xs).f (sumR xs).k (sumR xs).s (sumR zs).f (sumR zs).k (sumR zs).s = qq := ⟨_, rfl⟩
  have hqw : (wr x y wh xss x' y' wh' yss xs zs) = qq := hqq
  rw [hqw] at HE HB7 c0 c1 c2 c3
  rw [hqq]
  clear hr hb A7 N7 HE8 B7 HC p0 p1 p2 p3 p4 q0 q1 q2 q3 q4 m0 m1 m2 m3 n0 n1 n2 n3 hqq hqw HQT HQN
  go_wp2_with fail
  refine HE.out.mono ?_
  rintro e w9 ⟨u9, rfl, h9, hb⟩
  have B9 := Lib.hid (below_tr HB7.out hb)
  obtain ⟨ga, gn, gc, rfl⟩ := h9.ints.shape
  clear h9 hb HE c0 c1 c2 c3 c4
  go_wp2_with fail
  go_ret2
  exact ⟨rfl, B9.out⟩


end Go.Proofs.Ytneonebgneonkaa.bam
