/- l9Chained, l9Right and ChainRight of the model. -/
import Derived.Test.YtnjaocgciokpaabChi
import Derived.Test.YtnjaocgciokpaabBcs
import Derived.BigQuiet
namespace Go.Proofs.Ytnjaocgciokpaab.chs
open Go.RowKit Go.Deep Go.Proofs.Ytnjaocgciokpaab.base
open Go.Proofs.Ytnjaocgciokpaab.ints (ret_int infoInt)
open Go.Proofs.Ytnjaocgciokpaab.val (okBox boxB boxB_yes boxB_no)
open Go.Proofs.Ytnjaocgciokpaab.rws (total)
open Go.Proofs.Ytnjaocgciokpaab.row (nn at_)
open Go.Proofs.Ytnjaocgciokpaab.loud (Quiet quietB)
open Go.Proofs.Ytnjaocgciokpaab.two (qt qtB qtB_yes qtB_no)
open Go.Proofs.Ytnjaocgciokpaab.oco (xor1)
open Go.Proofs.Ytnjaocgciokpaab.ocs (two_cells' three_cells' four_cells' R xor_nat)
open Go.Proofs.Ytnjaocgciokpaab.rlo (R_bd)
open Go.Proofs.Ytnjaocgciokpaab.chm
open Go.Proofs.Ytnjaocgciokpaab.chi
open Go.Proofs.Ytnjaocgciokpaab.cdm (lt lt_le)

/-- the cells of a row, by place -/
theorem cellsN {W : World} {u : Value} {wh : Int} {xss : List (List Int)} (h : okBox 2 2 wh xss) {y x : Nat} (hy : y ≤ 1) (hx : x ≤ 1) (hu : Ints W u (xss.getD (at_ 2 (x : Int) (y : Int)) [])) :
    ∃ b o cap, u = .slice (some ⟨b, o, none⟩) 4 cap ∧ ∀ a, a < 4 → W.cell? ⟨b, o + a, none⟩ = some (.int .i64 (R xss (y : Int) x a)) := by
  have hr := row.at_lt h (i := (x : Int)) (j := (y : Int)) (by omega) (by omega) (by omega) (by omega)
  obtain ⟨b, o, cap, hv, _, _, c0, c1, c2, c3⟩ := row.cells4 h hr hu
  refine ⟨b, o, cap, hv, fun a ha => ?_⟩
  match a, ha with
  | 0, _ => exact c0
  | 1, _ => exact c1
  | 2, _ => exact c2
  | 3, _ => exact c3


set_option maxHeartbeats 1000000 in
theorem can (x y wh : Int) (v : Value) (xss : List (List Int)) (w : World) (h : IRows w v xss) (hn : total xss ≤ 1048576) :
    Calls Try.prog 63 #[.agg #[.int .i64 x, .int .i64 y, .int .i64 wh, v]] w fun e w' => e = .returned (.bool (chB x y wh xss)) ∧ Below w.heap.size w w' := by
  have B0 := Lib.hid (below_al (Below.refl w.heap.size w) (.cells #[.int .i64 x, .int .i64 y, .int .i64 wh, v] 28))
  have HBX := Lib.hid h
  have HR := Lib.hid (bcs.two x y wh v xss _ (h.below B0.out) hn)
  obtain ⟨va, vn, vc, rfl⟩ := h.shape
  have K0 := Lib.hid (Blk.new w 28 #[.int .i64 x, .int .i64 y, .int .i64 wh, .slice va vn vc])
  clear h
  by_cases ht : bcd.okT x y wh xss
  · rw [bcs.twoB_yes ht] at HR
    obtain ⟨hok, rfl, rfl⟩ := ht
    have HQ := Lib.hid (fun W hW => loud.l2quiet 2 2 wh (.slice va vn vc) xss W hW hok)
    by_cases hq : Quiet xss 2 2
    · rw [show quietB (2 : Nat) (2 : Nat) wh xss = true from loud.quietB_yes (X := 2) (Y := 2) hok hq] at HQ
      by_cases hw : wh ≤ 100
      · have dw : decide (wh ≤ 100) = true := by simp [hw]
        rw [chB_yes ⟨⟨⟨hok, rfl, rfl⟩, hq⟩, hw⟩]
        clear hq hw hok
        go_enter Try.func63, Try.ntmps63
        go_wp2_with fail
        refine HR.out.mono ?_
        rintro e w1 ⟨rfl, hb⟩
        have B1 := Lib.hid (below_tr B0.out hb)
        have K1 := Lib.hid (K0.out.below hb)
        obtain ⟨c0, c1, c2, c3⟩ := four_cells' K1.out
        clear hb HR B0 K0
        go_wp2_with fail
        refine (HQ.out w1 (HBX.out.below B1.out)).mono ?_
        rintro e w2 ⟨rfl, hb⟩
        have B2 := Lib.hid (below_tr B1.out hb)
        have K2 := Lib.hid (K1.out.below hb)
        clear c0 c1 c2 c3
        obtain ⟨c0, c1, c2, c3⟩ := four_cells' K2.out
        clear hb HQ B1 K1
        go_wp2_with fail
        go_ret
        exact ⟨rfl, B2.out⟩
      · have dw : decide (wh ≤ 100) = false := by simp; omega
        rw [chB_no (fun h => hw h.2)]
        clear hq hw hok
        go_enter Try.func63, Try.ntmps63
        go_wp2_with fail
        refine HR.out.mono ?_
        rintro e w1 ⟨rfl, hb⟩
        have B1 := Lib.hid (below_tr B0.out hb)
        have K1 := Lib.hid (K0.out.below hb)
        obtain ⟨c0, c1, c2, c3⟩ := four_cells' K1.out
        clear hb HR B0 K0
        go_wp2_with fail
        refine (HQ.out w1 (HBX.out.below B1.out)).mono ?_
        rintro e w2 ⟨rfl, hb⟩
        have B2 := Lib.hid (below_tr B1.out hb)
        have K2 := Lib.hid (K1.out.below hb)
        clear c0 c1 c2 c3
        obtain ⟨c0, c1, c2, c3⟩ := four_cells' K2.out
        clear hb HQ B1 K1
        go_wp2_with fail
        go_ret
        exact ⟨rfl, B2.out⟩
    · rw [show quietB (2 : Nat) (2 : Nat) wh xss = false from if_neg (fun h => hq h.2)] at HQ
      rw [chB_no (fun h => hq h.1.2)]
      clear hq hok
      go_enter Try.func63, Try.ntmps63
      go_wp2_with fail
      refine HR.out.mono ?_
      rintro e w1 ⟨rfl, hb⟩
      have B1 := Lib.hid (below_tr B0.out hb)
      have K1 := Lib.hid (K0.out.below hb)
      obtain ⟨c0, c1, c2, c3⟩ := four_cells' K1.out
      clear hb HR B0 K0
      go_wp2_with fail
      refine (HQ.out w1 (HBX.out.below B1.out)).mono ?_
      rintro e w2 ⟨rfl, hb⟩
      have B2 := Lib.hid (below_tr B1.out hb)
      have K2 := Lib.hid (K1.out.below hb)
      clear c0 c1 c2 c3
      obtain ⟨c0, c1, c2, c3⟩ := four_cells' K2.out
      clear hb HQ B1 K1
      go_wp2_with fail
      go_ret
      exact ⟨rfl, B2.out⟩
  · rw [bcs.twoB_no ht] at HR
    rw [chB_no (fun h => ht h.1.1)]
    clear ht
    go_enter Try.func63, Try.ntmps63
    go_wp2_with fail
    refine HR.out.mono ?_
    rintro e w1 ⟨rfl, hb⟩
    have B1 := Lib.hid (below_tr B0.out hb)
    clear hb HR B0 K0
    go_wp2_with fail
    go_ret
    exact ⟨rfl, B1.out⟩



theorem wr0 : IntKind.i64.wrap 0 = 0 := by decide
theorem wr1 : IntKind.i64.wrap 1 = 1 := by decide
theorem wr2 : IntKind.i64.wrap 2 = 2 := by decide
theorem wr3 : IntKind.i64.wrap 3 = 3 := by decide
set_option maxRecDepth 100000 in
set_option maxHeartbeats 8000000 in
theorem right0 (wh : Int) (v : Value) (xss : List (List Int)) (k i : Nat) (w : World) (h : IRows w v xss) (hok : okC 2 2 wh xss) (hk : k < 16) (_hi : i < 4) (hp : i / 2 = 0) :
    Calls Try.prog 64 #[.agg #[.int .i64 2, .int .i64 2, .int .i64 wh, v], .int .i64 (k : Int), .int .i64 (i : Int)] w fun e w' => e = .returned (.int .i64 (cr xss k i)) ∧ Below w.heap.size w w' := by
  have HBX := Lib.hid h
  have HOK := Lib.hid hok.1.1.1
  have HW := Lib.hid hok.2
  obtain ⟨va, vn, vc, rfl⟩ := h.shape
  have B0 := Lib.hid (below_al (Below.refl w.heap.size w) (.cells #[.int .i64 2, .int .i64 2, .int .i64 wh, .slice va vn vc] 28))
  have K0 := Blk.new w 28 #[.int .i64 2, .int .i64 2, .int .i64 wh, .slice va vn vc]
  obtain ⟨wa, hwa⟩ : ∃ wa, w.alloc (.cells #[.int .i64 2, .int .i64 2, .int .i64 wh, .slice va vn vc] 28) = wa := ⟨_, rfl⟩
  rw [hwa] at B0 K0
  have HKB := Lib.hid K0
  have HCR : Hid (cr xss k i = ps (fun a => ps (fun f => ps (term (R xss ((i % 2 : Nat) : Int) ((k % 2) ^^^ (k / 2 % 2))) (R xss 0 ((k / 4 % 2) ^^^ (k / 8 % 2))) (R xss 0) 0 (lt k i) (k % 2) (k / 4 % 2) a f) 4) 2) 4) := Lib.hid (by unfold cr tot; rw [hp]; rfl)
  have fi : (i : Int) / 2 = 0 := by omega
  obtain ⟨E, hE⟩ : ∃ E : Int, ((i % 2 : Nat) : Int) = E := ⟨_, rfl⟩
  have fE : bits .and .i64 (i : Int) 1 = E := (plg.and_one i).trans hE
  obtain ⟨S, hS⟩ : ∃ S : Int, ((k % 2 : Nat) : Int) = S := ⟨_, rfl⟩
  have fS : bits .and .i64 (k : Int) 1 = S := (plg.and_one k).trans hS
  obtain ⟨T, hT⟩ : ∃ T : Int, ((k / 2 % 2 : Nat) : Int) = T := ⟨_, rfl⟩
  have fT : bits .and .i64 ((k : Int) / 2) 1 = T := by rw [show (k : Int) / 2 = ((k / 2 : Nat) : Int) by omega]; exact (plg.and_one _).trans hT
  obtain ⟨U, hU⟩ : ∃ U : Int, ((k / 4 % 2 : Nat) : Int) = U := ⟨_, rfl⟩
  have fU : bits .and .i64 ((k : Int) / 4) 1 = U := by rw [show (k : Int) / 4 = ((k / 4 : Nat) : Int) by omega]; exact (plg.and_one _).trans hU
  obtain ⟨V, hV⟩ : ∃ V : Int, ((k / 8 % 2 : Nat) : Int) = V := ⟨_, rfl⟩
  have fV : bits .and .i64 ((k : Int) / 8) 1 = V := by rw [show (k : Int) / 8 = ((k / 8 : Nat) : Int) by omega]; exact (plg.and_one _).trans hV
  have s1 : k % 2 ≤ 1 := by omega
  have t1 : k / 2 % 2 ≤ 1 := by omega
  have u1 : k / 4 % 2 ≤ 1 := by omega
  have v1 : k / 8 % 2 ≤ 1 := by omega
  obtain ⟨X1, hX1⟩ : ∃ X1 : Int, (((k % 2) ^^^ (k / 2 % 2) : Nat) : Int) = X1 := ⟨_, rfl⟩
  obtain ⟨X2, hX2⟩ : ∃ X2 : Int, (((k / 4 % 2) ^^^ (k / 8 % 2) : Nat) : Int) = X2 := ⟨_, rfl⟩
  have fX1 : bits .xor .i64 S T = X1 := by rw [← hS, ← hT, ← hX1]; exact xor_nat s1 t1
  have fX2 : bits .xor .i64 U V = X2 := by rw [← hU, ← hV, ← hX2]; exact xor_nat u1 v1
  have hx1 := xor1 s1 t1
  have hx2 := xor1 u1 v1
  have HN1 : Hid (∀ W, Below w.heap.size w W → Calls Try.prog 124 #[.agg #[.int .i64 2, .int .i64 2, .int .i64 wh, .slice va vn vc], .int .i64 X1, .int .i64 E] W fun e w' => ∃ u, e = .returned u ∧ Ints w' u (xss.getD (at_ 2 (((k % 2) ^^^ (k / 2 % 2) : Nat) : Int) ((i % 2 : Nat) : Int)) []) ∧ Below W.heap.size W w') := Lib.hid (fun W hW => by
    rw [← hX1, ← hE]
    exact row.l2row 2 2 wh _ _ _ xss W (HBX.out.below hW) HOK.out (by omega) (by omega) (by omega) (by omega))
  have HN2 : Hid (∀ W, Below w.heap.size w W → Calls Try.prog 124 #[.agg #[.int .i64 2, .int .i64 2, .int .i64 wh, .slice va vn vc], .int .i64 X2, .int .i64 0] W fun e w' => ∃ u, e = .returned u ∧ Ints w' u (xss.getD (at_ 2 (((k / 4 % 2) ^^^ (k / 8 % 2) : Nat) : Int) ((0 : Nat) : Int)) []) ∧ Below W.heap.size W w') := Lib.hid (fun W hW => by
    rw [← hX2]
    exact row.l2row 2 2 wh _ 0 _ xss W (HBX.out.below hW) HOK.out (by omega) (by omega) (by decide) (by decide))
  have HTOP : Hid (∀ (x : Nat) (W : World), x ≤ 1 → Below w.heap.size w W → Calls Try.prog 124 #[.agg #[.int .i64 2, .int .i64 2, .int .i64 wh, .slice va vn vc], .int .i64 (x : Int), .int .i64 0] W fun e w' => ∃ u, e = .returned u ∧ Ints w' u (xss.getD (at_ 2 (x : Int) ((0 : Nat) : Int)) []) ∧ Below W.heap.size W w') := Lib.hid (fun x W hx hW => row.l2row 2 2 wh _ 0 _ xss W (HBX.out.below hW) HOK.out (by omega) (by omega) (by decide) (by decide))
  have HSX := Lib.hid (And.intro hS hU)
  have HS1 := Lib.hid s1
  have HU1 := Lib.hid u1
  have HX1 := Lib.hid hx1
  have HX2 := Lib.hid hx2
  obtain ⟨LT, hLT⟩ : ∃ LT : Int, ((lt k i : Nat) : Int) = LT := ⟨_, rfl⟩
  have HLT' := Lib.hid hLT
  have HFL : Hid (bits .and .i64 ((k : Int) / 2 ^ i) 1 = LT) := Lib.hid ((cdm.and_lt k i (by omega)).trans hLT)
  have hi3 : (i : Int) ≤ 3 := by omega
  have HWH := Lib.hid hok.1.1.1.2.1
  clear h hok hk _hi hp hE hS hT hU hV s1 t1 u1 v1 hX1 hX2 hx1 hx2 hLT
  have w0 := wr0
  have w1 := wr1
  have w2 := wr2
  have w3 := wr3
  go_enter Try.func64, Try.ntmps64
  go_wp2_with fail
  go_quiet (fail)
  have BQ1 : Below w.heap.size w (wa.drewN nq) := below_drewN B0.out nq
  have KQ1 : Blk (wa.drewN nq) w.heap.size 28 #[.int .i64 2, .int .i64 2, .int .i64 wh, .slice va vn vc] := HKB.out
  clear hwa B0 HKB
  generalize wa.drewN nq = wb at BQ1 KQ1 ⊢
  have BQ2 := Lib.hid BQ1
  have KQ2 := Lib.hid KQ1
  clear BQ1 KQ1
  go_wp2_with fail
  go_quiet (fail)
  have BQ : Below w.heap.size w (wb.drewN nq) := below_drewN BQ2.out nq
  have KQ : Blk (wb.drewN nq) w.heap.size 28 #[.int .i64 2, .int .i64 2, .int .i64 wh, .slice va vn vc] := KQ2.out
  clear BQ2 KQ2
  generalize wb.drewN nq = wq at BQ KQ ⊢
  have HBQ := Lib.hid BQ
  have HKQ := Lib.hid KQ
  clear w0 w1 w2 w3 fS fT fU fV fi
  go_wp2_with fail
  obtain ⟨b0, b1, b2, b3⟩ := four_cells' KQ
  clear BQ KQ
  go_region_held3 (fun w' => w'.cell? ⟨w.heap.size, 0, none⟩ = some (.int .i64 2) ∧ w'.cell? ⟨w.heap.size, 1, none⟩ = some (.int .i64 2) ∧ w'.cell? ⟨w.heap.size, 2, none⟩ = some (.int .i64 wh) ∧ w'.cell? ⟨w.heap.size, 3, none⟩ = some (.slice va vn vc) ∧ Below wq.heap.size wq w')
    ((refine held4 b0 b1 b2 b3 ?_; repeat (first | exact Below.refl _ _ | assumption | refine below_dr ?_ | refine below_tr ?_ (by assumption))))
    (first
      | (go_at_call 124; (with_reducible refine (HN1.out _ ?_).mono ?_); (refine below_tr HBQ.out ?_); (repeat (first | exact Below.refl _ _ | assumption | refine below_dr ?_ | refine below_tr ?_ (by assumption))); rintro e w2 ⟨n1, rfl, hn1, hb1⟩)
      | (go_at_call 124; (with_reducible refine (HN2.out _ ?_).mono ?_); (refine below_tr HBQ.out ?_); (repeat (first | exact Below.refl _ _ | assumption | refine below_dr ?_ | refine below_tr ?_ (by assumption))); rintro e w3 ⟨n2, rfl, hn2, hb2⟩))
  have hb3 : Below wq.heap.size wq w3 := by repeat (first | exact Below.refl _ _ | assumption | refine below_dr ?_ | refine below_tr ?_ (by assumption))
  obtain ⟨nb, no, nc, rfl, hN⟩ := cellsN HOK.out (y := i % 2) (by omega) HX1.out (hn1.below hb2)
  obtain ⟨ob, oo, occ, rfl, hO⟩ := cellsN HOK.out (y := 0) (by decide) HX2.out hn2
  have B3 := Lib.hid (below_tr HBQ.out hb3)
  have K3 := Lib.hid (HKQ.out.below hb3)
  have HN := Lib.hid hN
  have HO := Lib.hid hO
  have RN := Lib.hid (R_bd HOK.out (y := i % 2) (by omega))
  have RO := Lib.hid (R_bd HOK.out (y := 0) (by decide))
  have RT := Lib.hid (R_bd HOK.out (y := 0) (by decide))
  clear hN hO hn1 hn2 hb1 hb2 hb3 HN1 HN2 HBQ HKQ b0 b1 b2 b3 fE fX1 fX2
  go_wp2_with fail
  go_loopw [8, 15, 16, 17, 18, 19, 20, 21, 22] (fun sv q z16 z17 z18 z19 z20 z21 z22 wr => ∃ (a : Nat) (z : Int), a ≤ 4 ∧ q = .int .i64 a ∧ sv = .int .i64 z ∧ Hid (z = ps (fun a => ps (fun f => ps (term (R xss ((i % 2 : Nat) : Int) ((k % 2) ^^^ (k / 2 % 2))) (R xss 0 ((k / 4 % 2) ^^^ (k / 8 % 2))) (R xss 0) 0 (lt k i) (k % 2) (k / 4 % 2) a f) 4) 2) a) ∧ 0 ≤ z ∧ z ≤ 16000000 * a ∧ (∃ z, z16 = z) ∧ (∃ z, z17 = z) ∧ (∃ z, z18 = z) ∧ (∃ z, z19 = z) ∧ (∃ z, z20 = z) ∧ (∃ z, z21 = z) ∧ (∃ z, z22 = z) ∧ Hid (Below w3.heap.size w3 wr)) (fun _ q _ _ _ _ _ _ _ _ => 4 - (intOf q).toNat)
  case atStart => exact ⟨0, 0, by decide, rfl, rfl, Lib.hid rfl, by decide, by decide, ⟨_, rfl⟩, ⟨_, rfl⟩, ⟨_, rfl⟩, ⟨_, rfl⟩, ⟨_, rfl⟩, ⟨_, rfl⟩, ⟨_, rfl⟩, Below.refl _ _⟩
  case round =>
    obtain ⟨a, z, ha, rfl, rfl, hz, hz0, hz1, ⟨z16, rfl⟩, ⟨z17, rfl⟩, ⟨z18, rfl⟩, ⟨z19, rfl⟩, ⟨z20, rfl⟩, ⟨z21, rfl⟩, ⟨z22, rfl⟩, hB⟩ := hrel
    obtain ⟨wo, rfl⟩ : ∃ wo : World, wo = wr := ⟨_, rfl⟩
    by_cases hla : a < 4
    · have haz : (a : Int) < 4 := by omega
      have HLA := Lib.hid hla
      have HZ0 : Hid (z = ps (fun a => ps (fun f => ps (term (R xss ((i % 2 : Nat) : Int) ((k % 2) ^^^ (k / 2 % 2))) (R xss 0 ((k / 4 % 2) ^^^ (k / 8 % 2))) (R xss 0) 0 (lt k i) (k % 2) (k / 4 % 2) a f) 4) 2) a + ps (fun f => ps (term (R xss ((i % 2 : Nat) : Int) ((k % 2) ^^^ (k / 2 % 2))) (R xss 0 ((k / 4 % 2) ^^^ (k / 8 % 2))) (R xss 0) 0 (lt k i) (k % 2) (k / 4 % 2) a f) 4) 0) := Lib.hid (by rw [hz.out]; exact (Int.add_zero _).symm)
      clear hla
      go_wp2_with fail
      go_loopw [8, 16, 17, 18, 19, 20, 21, 22] (fun sv q z17 z18 z19 z20 z21 z22 wr => ∃ (far : Nat) (z : Int), far ≤ 2 ∧ q = .int .i64 far ∧ sv = .int .i64 z ∧ Hid (z = ps (fun a => ps (fun f => ps (term (R xss ((i % 2 : Nat) : Int) ((k % 2) ^^^ (k / 2 % 2))) (R xss 0 ((k / 4 % 2) ^^^ (k / 8 % 2))) (R xss 0) 0 (lt k i) (k % 2) (k / 4 % 2) a f) 4) 2) a + ps (fun f => ps (term (R xss ((i % 2 : Nat) : Int) ((k % 2) ^^^ (k / 2 % 2))) (R xss 0 ((k / 4 % 2) ^^^ (k / 8 % 2))) (R xss 0) 0 (lt k i) (k % 2) (k / 4 % 2) a f) 4) far) ∧ 0 ≤ z ∧ z ≤ 16000000 * a + 8000000 * far ∧ (∃ z, z17 = z) ∧ (∃ z, z18 = z) ∧ (∃ z, z19 = z) ∧ (∃ z, z20 = z) ∧ (∃ z, z21 = z) ∧ (∃ z, z22 = z) ∧ Hid (Below w3.heap.size w3 wr)) (fun _ q _ _ _ _ _ _ _ => 2 - (intOf q).toNat)
      case atStart => exact ⟨0, z, by decide, rfl, rfl, HZ0, hz0, by omega, ⟨_, rfl⟩, ⟨_, rfl⟩, ⟨_, rfl⟩, ⟨_, rfl⟩, ⟨_, rfl⟩, ⟨_, rfl⟩, hB⟩
      case round =>
        clear HZ0 hz hz0 hz1 hB
        obtain ⟨far, z, hf, rfl, rfl, hz, hz0, hz1, ⟨z17, rfl⟩, ⟨z18, rfl⟩, ⟨z19, rfl⟩, ⟨z20, rfl⟩, ⟨z21, rfl⟩, ⟨z22, rfl⟩, hB⟩ := hrel
        obtain ⟨wf, rfl⟩ : ∃ wf : World, wf = wr := ⟨_, rfl⟩
        by_cases hlf : far < 2
        · have hfz : (far : Int) < 2 := by omega
          have HLF := Lib.hid hlf
          have ha3 : a ≤ 3 := by have := HLA.out; omega
          have hA2 : a / 2 ≤ 1 := by omega
          have hf1 : far ≤ 1 := by omega
          obtain ⟨A2, hA⟩ : ∃ A2 : Int, ((a / 2 : Nat) : Int) = A2 := ⟨_, rfl⟩
          obtain ⟨M, hM⟩ : ∃ M : Int, (((k % 2) ^^^ (a / 2) : Nat) : Int) = M := ⟨_, rfl⟩
          obtain ⟨N, hN⟩ : ∃ N : Int, (((k / 4 % 2) ^^^ far : Nat) : Int) = N := ⟨_, rfl⟩
          obtain ⟨X, hX⟩ : ∃ X : Nat, ((k % 2) ^^^ (a / 2)) ^^^ ((k / 4 % 2) ^^^ far) = X := ⟨_, rfl⟩
          have hM1 := xor1 HS1.out hA2
          have hN1 := xor1 HU1.out hf1
          have hX1 : X ≤ 1 := by rw [← hX]; exact xor1 hM1 hN1
          have fA : (a : Int) / 2 = A2 := by rw [← hA]; omega
          have fM : bits .xor .i64 S A2 = M := by rw [← HSX.out.1, ← hA, ← hM]; exact xor_nat HS1.out hA2
          have fN : bits .xor .i64 U (far : Int) = N := by rw [← HSX.out.2, ← hN]; exact xor_nat HU1.out hf1
          have fX : bits .xor .i64 M N = (X : Int) := by rw [← hM, ← hN, ← hX]; exact xor_nat hM1 hN1
          have HMN := Lib.hid (And.intro hM hN)
          have HXX := Lib.hid hX
          have HXL := Lib.hid hX1
          have HM1 := Lib.hid (And.intro hM1 hN1)
          obtain ⟨b0, b1, b2, b3⟩ := four_cells' (K3.out.below hB.out)
          have HTW := Lib.hid (HTOP.out X wf hX1 (below_tr B3.out hB.out))
          have HZ0 : Hid (z = ps (fun a => ps (fun f => ps (term (R xss ((i % 2 : Nat) : Int) ((k % 2) ^^^ (k / 2 % 2))) (R xss 0 ((k / 4 % 2) ^^^ (k / 8 % 2))) (R xss 0) 0 (lt k i) (k % 2) (k / 4 % 2) a f) 4) 2) a + ps (fun f => ps (term (R xss ((i % 2 : Nat) : Int) ((k % 2) ^^^ (k / 2 % 2))) (R xss 0 ((k / 4 % 2) ^^^ (k / 8 % 2))) (R xss 0) 0 (lt k i) (k % 2) (k / 4 % 2) a f) 4) far + ps (term (R xss ((i % 2 : Nat) : Int) ((k % 2) ^^^ (k / 2 % 2))) (R xss 0 ((k / 4 % 2) ^^^ (k / 8 % 2))) (R xss 0) 0 (lt k i) (k % 2) (k / 4 % 2) a far) 0) := Lib.hid (by rw [hz.out]; exact (Int.add_zero _).symm)
          clear hlf ha3 hA2 hf1 hA hM hN hX hM1 hN1 hX1
          go_wp2_with fail
          refine HTW.out.mono ?_
          rintro e w5 ⟨tv, rfl, ht, hb⟩
          obtain ⟨tb, tO, tc, rfl, hT⟩ := cellsN HOK.out (y := 0) (by decide) HXL.out ht
          have HT := Lib.hid hT
          have B5 := Lib.hid (below_tr hB.out hb)
          clear hb ht hT HTW b0 b1 b2 b3 fA fM fN fX hB hz
          go_wp2_with fail
          go_loopw [8, 21, 22] (fun sv q z22 wr => ∃ (up : Nat) (z : Int), up ≤ 4 ∧ q = .int .i64 up ∧ sv = .int .i64 z ∧ Hid (z = ps (fun a => ps (fun f => ps (term (R xss ((i % 2 : Nat) : Int) ((k % 2) ^^^ (k / 2 % 2))) (R xss 0 ((k / 4 % 2) ^^^ (k / 8 % 2))) (R xss 0) 0 (lt k i) (k % 2) (k / 4 % 2) a f) 4) 2) a + ps (fun f => ps (term (R xss ((i % 2 : Nat) : Int) ((k % 2) ^^^ (k / 2 % 2))) (R xss 0 ((k / 4 % 2) ^^^ (k / 8 % 2))) (R xss 0) 0 (lt k i) (k % 2) (k / 4 % 2) a f) 4) far + ps (term (R xss ((i % 2 : Nat) : Int) ((k % 2) ^^^ (k / 2 % 2))) (R xss 0 ((k / 4 % 2) ^^^ (k / 8 % 2))) (R xss 0) 0 (lt k i) (k % 2) (k / 4 % 2) a far) up) ∧ 0 ≤ z ∧ z ≤ 16000000 * a + 8000000 * far + 2000000 * up ∧ (∃ z, z22 = z) ∧ ∃ n, wr = w5.drewN n) (fun _ q _ _ => 4 - (intOf q).toNat)
          case atStart => exact ⟨0, z, by decide, rfl, rfl, HZ0, hz0, by omega, ⟨_, rfl⟩, 0, rfl⟩
          case round =>
            clear HZ0 hz0 hz1
            obtain ⟨up, z, hu, rfl, rfl, hz, hz0, hz1, ⟨z22, rfl⟩, n, rfl⟩ := hrel
            by_cases hlu : up < 4
            · have huz : (up : Int) < 4 := by omega
              have HLU := Lib.hid hlu
              have hU2 : up / 2 ≤ 1 := by omega
              have hF1 : (k % 2) ^^^ (a / 2) ≤ 1 := HM1.out.1
              obtain ⟨U2, hU⟩ : ∃ U2 : Int, ((up / 2 : Nat) : Int) = U2 := ⟨_, rfl⟩
              obtain ⟨U1, hU1⟩ : ∃ U1 : Int, ((up % 2 : Nat) : Int) = U1 := ⟨_, rfl⟩
              obtain ⟨A1, hA1⟩ : ∃ A1 : Int, ((a % 2 : Nat) : Int) = A1 := ⟨_, rfl⟩
              obtain ⟨Q1, hQ1⟩ : ∃ Q1 : Int, ((((k % 2) ^^^ (a / 2)) ^^^ (up / 2) : Nat) : Int) = Q1 := ⟨_, rfl⟩
              obtain ⟨Q2, hQ2⟩ : ∃ Q2 : Int, (((((k % 2) ^^^ (a / 2)) ^^^ (up / 2)) ^^^ (up % 2) : Nat) : Int) = Q2 := ⟨_, rfl⟩
              obtain ⟨G, hG⟩ : ∃ G : Int, ((((((k % 2) ^^^ (a / 2)) ^^^ (up / 2)) ^^^ (up % 2)) ^^^ (a % 2) : Nat) : Int) = G := ⟨_, rfl⟩
              have f1 : (up : Int) / 2 = U2 := by rw [← hU]; omega
              have f2 : bits .and .i64 (up : Int) 1 = U1 := (plg.and_one up).trans hU1
              have f3 : bits .and .i64 (a : Int) 1 = A1 := (plg.and_one a).trans hA1
              have f4 : bits .xor .i64 M U2 = Q1 := by rw [← HMN.out.1, ← hU, ← hQ1]; exact xor_nat hF1 hU2
              have g1 := xor1 hF1 hU2
              have f5 : bits .xor .i64 Q1 U1 = Q2 := by rw [← hQ1, ← hU1, ← hQ2]; exact xor_nat g1 (by omega)
              have g2 := xor1 g1 (show up % 2 ≤ 1 by omega)
              have f6 : bits .xor .i64 Q2 A1 = G := by rw [← hQ2, ← hA1, ← hG]; exact xor_nat g2 (by omega)
              have fl := HFL.out
              have hiff : ((((((k % 2) ^^^ (a / 2)) ^^^ (up / 2)) ^^^ (up % 2)) ^^^ (a % 2)) = lt k i) ↔ G = LT := by
                rw [← hG, ← HLT'.out]
                exact ⟨fun h => congrArg Int.ofNat h, fun h => Int.ofNat.inj h⟩
              by_cases hq : G = LT
              · have dq : (G == LT) = true := by simp [hq]
                obtain ⟨g, hg⟩ : ∃ g : Nat, 2 * far = g := ⟨_, rfl⟩
                have hgl : g + 1 < 4 := by have := HLF.out; omega
                have c0 : w5.cell? ⟨nb, no + a, none⟩ = some (.int .i64 (R xss ((i % 2 : Nat) : Int) ((k % 2) ^^^ (k / 2 % 2)) a)) := below_cell B5.out _ _ (HN.out a HLA.out)
                have c1 : w5.cell? ⟨ob, oo + g, none⟩ = some (.int .i64 (R xss 0 ((k / 4 % 2) ^^^ (k / 8 % 2)) g)) := below_cell B5.out _ _ (HO.out g (by omega))
                have c2 : w5.cell? ⟨ob, oo + (g + 1), none⟩ = some (.int .i64 (R xss 0 ((k / 4 % 2) ^^^ (k / 8 % 2)) (g + 1))) := below_cell B5.out _ _ (HO.out (g + 1) hgl)
                have c3 : w5.cell? ⟨tb, tO + up, none⟩ = some (.int .i64 (R xss 0 X up)) := HT.out up hlu
                have r0 := RN.out ((k % 2) ^^^ (k / 2 % 2)) a HX1.out HLA.out
                have r1 := RO.out ((k / 4 % 2) ^^^ (k / 8 % 2)) g HX2.out (by omega)
                have r2 := RO.out ((k / 4 % 2) ^^^ (k / 8 % 2)) (g + 1) HX2.out hgl
                have r3 := RT.out X up HXL.out hlu
                have hterm : term (R xss ((i % 2 : Nat) : Int) ((k % 2) ^^^ (k / 2 % 2))) (R xss 0 ((k / 4 % 2) ^^^ (k / 8 % 2))) (R xss 0) 0 (lt k i) (k % 2) (k / 4 % 2) a far up = R xss ((i % 2 : Nat) : Int) ((k % 2) ^^^ (k / 2 % 2)) a * (R xss 0 ((k / 4 % 2) ^^^ (k / 8 % 2)) g + R xss 0 ((k / 4 % 2) ^^^ (k / 8 % 2)) (g + 1)) * R xss 0 X up := by
                  unfold term
                  rw [if_neg (by decide : ¬ (0 : Nat) = 1), if_pos (hiff.2 hq), hg, HXX.out]
                have HW9 := HW.out
                rw [show ((0 : Nat) : Int) = 0 from rfl] at r1 r2
                rw [show ((0 : Nat) : Int) = 0 from rfl] at r3
                generalize R xss ((i % 2 : Nat) : Int) ((k % 2) ^^^ (k / 2 % 2)) a = x0 at c0 r0 hterm
                generalize R xss 0 ((k / 4 % 2) ^^^ (k / 8 % 2)) g = x1 at c1 r1 hterm
                generalize R xss 0 ((k / 4 % 2) ^^^ (k / 8 % 2)) (g + 1) = x2 at c2 r2 hterm
                generalize R xss 0 X up = x3 at c3 r3 hterm
                have p1 : 0 ≤ x0 * (x1 + x2) ∧ x0 * (x1 + x2) ≤ 100 * 200 := ⟨Int.mul_nonneg r0.1 (by omega), Int.mul_le_mul (by omega) (by omega) (by omega) (by decide)⟩
                obtain ⟨y1, hy1⟩ : ∃ y1, x1 + x2 = y1 := ⟨_, rfl⟩
                rw [hy1] at p1 hterm
                obtain ⟨y2, hy2⟩ : ∃ y2, x0 * y1 = y2 := ⟨_, rfl⟩
                rw [hy2] at p1 hterm
                have p2 : 0 ≤ y2 * x3 ∧ y2 * x3 ≤ 20000 * 100 := ⟨Int.mul_nonneg p1.1 r3.1, Int.mul_le_mul (by omega) (by omega) r3.1 (by decide)⟩
                obtain ⟨y3, hy3⟩ : ∃ y3, y2 * x3 = y3 := ⟨_, rfl⟩
                rw [hy3] at p2 hterm
                have m1 : IntKind.i64.wrap (x1 + x2) = y1 := by rw [hy1]; exact IntWalk.i64_in _ (by omega)
                have m2 : IntKind.i64.wrap (x0 * y1) = y2 := by rw [hy2]; exact IntWalk.i64_in _ (by omega)
                have m3 : IntKind.i64.wrap (y2 * x3) = y3 := by rw [hy3]; exact IntWalk.i64_in _ (by omega)
                have m4 : IntKind.i64.wrap (z + y3) = z + y3 := IntWalk.i64_in _ (by omega)
                have m5 : IntKind.i64.wrap (2 * (far : Int)) = (g : Int) := by rw [show (2 : Int) * (far : Int) = (g : Int) by omega]; exact IntWalk.i64_in _ (by omega)
                have m6 : IntKind.i64.wrap ((g : Int) + 1) = ((g + 1 : Nat) : Int) := by push_cast; exact IntWalk.i64_in _ (by omega)
                have HST : Hid (z + y3 = ps (fun a => ps (fun f => ps (term (R xss ((i % 2 : Nat) : Int) ((k % 2) ^^^ (k / 2 % 2))) (R xss 0 ((k / 4 % 2) ^^^ (k / 8 % 2))) (R xss 0) 0 (lt k i) (k % 2) (k / 4 % 2) a f) 4) 2) a + ps (fun f => ps (term (R xss ((i % 2 : Nat) : Int) ((k % 2) ^^^ (k / 2 % 2))) (R xss 0 ((k / 4 % 2) ^^^ (k / 8 % 2))) (R xss 0) 0 (lt k i) (k % 2) (k / 4 % 2) a f) 4) far + ps (term (R xss ((i % 2 : Nat) : Int) ((k % 2) ^^^ (k / 2 % 2))) (R xss 0 ((k / 4 % 2) ^^^ (k / 8 % 2))) (R xss 0) 0 (lt k i) (k % 2) (k / 4 % 2) a far) (up + 1)) := Lib.hid (by
                  show _ = _ + (ps (term (R xss ((i % 2 : Nat) : Int) ((k % 2) ^^^ (k / 2 % 2))) (R xss 0 ((k / 4 % 2) ^^^ (k / 8 % 2))) (R xss 0) 0 (lt k i) (k % 2) (k / 4 % 2) a far) up + term (R xss ((i % 2 : Nat) : Int) ((k % 2) ^^^ (k / 2 % 2))) (R xss 0 ((k / 4 % 2) ^^^ (k / 8 % 2))) (R xss 0) 0 (lt k i) (k % 2) (k / 4 % 2) a far up)
                  rw [hterm, hz.out, Int.add_assoc])
                have hgz : (g : Int) < 4 := by omega
                have hgz1 : (((g + 1 : Nat) : Int)) < 4 := by omega
                have HG := Lib.hid hg
                have hy30 := p2
                clear hU2 hF1 hU hU1 hA1 hQ1 hQ2 hG g1 g2 hiff hq hterm r0 r1 r2 r3 hy1 hy2 hy3 p1 p2 hg hlu HW9
                go_wp2_with fail
                go_quiet (fail)
                go_wp2_with fail
                go_roundw
                case rel => exact ⟨up + 1, z + y3, by have := HLU.out; omega, by go_num, rfl, HST, by omega, by push_cast; omega, ⟨_, rfl⟩, by first | exact ⟨_, rfl⟩ | exact ⟨_, World.drewN_drewN _ _ _⟩⟩
                case measure => have := HLU.out; simp [intOf]; omega
              · have dq : (G == LT) = false := by simp [hq]
                have hterm : term (R xss ((i % 2 : Nat) : Int) ((k % 2) ^^^ (k / 2 % 2))) (R xss 0 ((k / 4 % 2) ^^^ (k / 8 % 2))) (R xss 0) 0 (lt k i) (k % 2) (k / 4 % 2) a far up = 0 := by
                  unfold term
                  rw [if_neg (by decide : ¬ (0 : Nat) = 1), if_neg (fun h => hq (hiff.1 h))]
                have HST : Hid (z = ps (fun a => ps (fun f => ps (term (R xss ((i % 2 : Nat) : Int) ((k % 2) ^^^ (k / 2 % 2))) (R xss 0 ((k / 4 % 2) ^^^ (k / 8 % 2))) (R xss 0) 0 (lt k i) (k % 2) (k / 4 % 2) a f) 4) 2) a + ps (fun f => ps (term (R xss ((i % 2 : Nat) : Int) ((k % 2) ^^^ (k / 2 % 2))) (R xss 0 ((k / 4 % 2) ^^^ (k / 8 % 2))) (R xss 0) 0 (lt k i) (k % 2) (k / 4 % 2) a f) 4) far + ps (term (R xss ((i % 2 : Nat) : Int) ((k % 2) ^^^ (k / 2 % 2))) (R xss 0 ((k / 4 % 2) ^^^ (k / 8 % 2))) (R xss 0) 0 (lt k i) (k % 2) (k / 4 % 2) a far) (up + 1)) := Lib.hid (by
                  show _ = _ + (ps (term (R xss ((i % 2 : Nat) : Int) ((k % 2) ^^^ (k / 2 % 2))) (R xss 0 ((k / 4 % 2) ^^^ (k / 8 % 2))) (R xss 0) 0 (lt k i) (k % 2) (k / 4 % 2) a far) up + term (R xss ((i % 2 : Nat) : Int) ((k % 2) ^^^ (k / 2 % 2))) (R xss 0 ((k / 4 % 2) ^^^ (k / 8 % 2))) (R xss 0) 0 (lt k i) (k % 2) (k / 4 % 2) a far up)
                  rw [hterm, hz.out, Int.add_zero])
                clear hU2 hF1 hU hU1 hA1 hQ1 hQ2 hG g1 g2 hiff hq hterm hlu
                go_wp2_with fail
                go_roundw
                case rel => exact ⟨up + 1, z, by have := HLU.out; omega, by go_num, rfl, HST, by omega, by push_cast; omega, ⟨_, rfl⟩, by first | exact ⟨_, rfl⟩ | exact ⟨_, World.drewN_drewN _ _ _⟩⟩
                case measure => have := HLU.out; simp [intOf]; omega
            · have huz : ¬ (up : Int) < 4 := by omega
              obtain rfl : up = 4 := by omega
              have HST : Hid (z = ps (fun a => ps (fun f => ps (term (R xss ((i % 2 : Nat) : Int) ((k % 2) ^^^ (k / 2 % 2))) (R xss 0 ((k / 4 % 2) ^^^ (k / 8 % 2))) (R xss 0) 0 (lt k i) (k % 2) (k / 4 % 2) a f) 4) 2) a + ps (fun f => ps (term (R xss ((i % 2 : Nat) : Int) ((k % 2) ^^^ (k / 2 % 2))) (R xss 0 ((k / 4 % 2) ^^^ (k / 8 % 2))) (R xss 0) 0 (lt k i) (k % 2) (k / 4 % 2) a f) 4) (far + 1)) := Lib.hid (by
                show _ = _ + (ps (fun f => ps (term (R xss ((i % 2 : Nat) : Int) ((k % 2) ^^^ (k / 2 % 2))) (R xss 0 ((k / 4 % 2) ^^^ (k / 8 % 2))) (R xss 0) 0 (lt k i) (k % 2) (k / 4 % 2) a f) 4) far + ps (term (R xss ((i % 2 : Nat) : Int) ((k % 2) ^^^ (k / 2 % 2))) (R xss 0 ((k / 4 % 2) ^^^ (k / 8 % 2))) (R xss 0) 0 (lt k i) (k % 2) (k / 4 % 2) a far) 4)
                rw [hz.out, Int.add_assoc])
              have B9 := Lib.hid (below_drewN B5.out n)
              go_wp2_with fail
              go_roundw
              case rel => exact ⟨far + 1, z, by have := HLF.out; omega, by go_num, rfl, HST, hz0, by push_cast; omega, ⟨_, rfl⟩, ⟨_, rfl⟩, ⟨_, rfl⟩, ⟨_, rfl⟩, ⟨_, rfl⟩, ⟨_, rfl⟩, B9⟩
              case measure => have := HLF.out; simp [intOf]; omega
        · have hfz : ¬ (far : Int) < 2 := by omega
          obtain rfl : far = 2 := by omega
          have HST : Hid (z = ps (fun a => ps (fun f => ps (term (R xss ((i % 2 : Nat) : Int) ((k % 2) ^^^ (k / 2 % 2))) (R xss 0 ((k / 4 % 2) ^^^ (k / 8 % 2))) (R xss 0) 0 (lt k i) (k % 2) (k / 4 % 2) a f) 4) 2) (a + 1)) := Lib.hid hz.out
          go_wp2_with fail
          go_roundw
          case rel => exact ⟨a + 1, z, by have := HLA.out; omega, by go_num, rfl, HST, hz0, by push_cast; omega, ⟨_, rfl⟩, ⟨_, rfl⟩, ⟨_, rfl⟩, ⟨_, rfl⟩, ⟨_, rfl⟩, ⟨_, rfl⟩, ⟨_, rfl⟩, hB⟩
          case measure => have := HLA.out; simp [intOf]; omega
    · have haz : ¬ (a : Int) < 4 := by omega
      obtain rfl : a = 4 := by omega
      have HZ : Hid (z = cr xss k i) := Lib.hid (hz.out.trans HCR.out.symm)
      go_wp2_with fail
      go_ret
      exact ⟨ret_int HZ.out, below_tr B3.out hB.out⟩
set_option maxRecDepth 100000 in
set_option maxHeartbeats 8000000 in
theorem right1 (wh : Int) (v : Value) (xss : List (List Int)) (k i : Nat) (w : World) (h : IRows w v xss) (hok : okC 2 2 wh xss) (hk : k < 16) (_hi : i < 4) (hp : i / 2 = 1) :
    Calls Try.prog 64 #[.agg #[.int .i64 2, .int .i64 2, .int .i64 wh, v], .int .i64 (k : Int), .int .i64 (i : Int)] w fun e w' => e = .returned (.int .i64 (cr xss k i)) ∧ Below w.heap.size w w' := by
  have HBX := Lib.hid h
  have HOK := Lib.hid hok.1.1.1
  have HW := Lib.hid hok.2
  obtain ⟨va, vn, vc, rfl⟩ := h.shape
  have B0 := Lib.hid (below_al (Below.refl w.heap.size w) (.cells #[.int .i64 2, .int .i64 2, .int .i64 wh, .slice va vn vc] 28))
  have K0 := Blk.new w 28 #[.int .i64 2, .int .i64 2, .int .i64 wh, .slice va vn vc]
  obtain ⟨wa, hwa⟩ : ∃ wa, w.alloc (.cells #[.int .i64 2, .int .i64 2, .int .i64 wh, .slice va vn vc] 28) = wa := ⟨_, rfl⟩
  rw [hwa] at B0 K0
  have HKB := Lib.hid K0
  have HCR : Hid (cr xss k i = ps (fun a => ps (fun f => ps (term (R xss ((i % 2 : Nat) : Int) ((k / 4 % 2) ^^^ (k / 8 % 2))) (R xss 0 ((k % 2) ^^^ (k / 2 % 2))) (R xss 1) 1 (lt k i) (k / 4 % 2) (k % 2) a f) 4) 2) 4) := Lib.hid (by unfold cr tot; rw [hp]; rfl)
  have fi : (i : Int) / 2 = 1 := by omega
  obtain ⟨E, hE⟩ : ∃ E : Int, ((i % 2 : Nat) : Int) = E := ⟨_, rfl⟩
  have fE : bits .and .i64 (i : Int) 1 = E := (plg.and_one i).trans hE
  obtain ⟨S, hS⟩ : ∃ S : Int, ((k / 4 % 2 : Nat) : Int) = S := ⟨_, rfl⟩
  have fS : bits .and .i64 ((k : Int) / 4) 1 = S := by rw [show (k : Int) / 4 = ((k / 4 : Nat) : Int) by omega]; exact (plg.and_one _).trans hS
  obtain ⟨T, hT⟩ : ∃ T : Int, ((k / 8 % 2 : Nat) : Int) = T := ⟨_, rfl⟩
  have fT : bits .and .i64 ((k : Int) / 8) 1 = T := by rw [show (k : Int) / 8 = ((k / 8 : Nat) : Int) by omega]; exact (plg.and_one _).trans hT
  obtain ⟨U, hU⟩ : ∃ U : Int, ((k % 2 : Nat) : Int) = U := ⟨_, rfl⟩
  have fU : bits .and .i64 (k : Int) 1 = U := (plg.and_one k).trans hU
  obtain ⟨V, hV⟩ : ∃ V : Int, ((k / 2 % 2 : Nat) : Int) = V := ⟨_, rfl⟩
  have fV : bits .and .i64 ((k : Int) / 2) 1 = V := by rw [show (k : Int) / 2 = ((k / 2 : Nat) : Int) by omega]; exact (plg.and_one _).trans hV
  have s1 : k / 4 % 2 ≤ 1 := by omega
  have t1 : k / 8 % 2 ≤ 1 := by omega
  have u1 : k % 2 ≤ 1 := by omega
  have v1 : k / 2 % 2 ≤ 1 := by omega
  obtain ⟨X1, hX1⟩ : ∃ X1 : Int, (((k / 4 % 2) ^^^ (k / 8 % 2) : Nat) : Int) = X1 := ⟨_, rfl⟩
  obtain ⟨X2, hX2⟩ : ∃ X2 : Int, (((k % 2) ^^^ (k / 2 % 2) : Nat) : Int) = X2 := ⟨_, rfl⟩
  have fX1 : bits .xor .i64 S T = X1 := by rw [← hS, ← hT, ← hX1]; exact xor_nat s1 t1
  have fX2 : bits .xor .i64 U V = X2 := by rw [← hU, ← hV, ← hX2]; exact xor_nat u1 v1
  have hx1 := xor1 s1 t1
  have hx2 := xor1 u1 v1
  have HN1 : Hid (∀ W, Below w.heap.size w W → Calls Try.prog 124 #[.agg #[.int .i64 2, .int .i64 2, .int .i64 wh, .slice va vn vc], .int .i64 X1, .int .i64 E] W fun e w' => ∃ u, e = .returned u ∧ Ints w' u (xss.getD (at_ 2 (((k / 4 % 2) ^^^ (k / 8 % 2) : Nat) : Int) ((i % 2 : Nat) : Int)) []) ∧ Below W.heap.size W w') := Lib.hid (fun W hW => by
    rw [← hX1, ← hE]
    exact row.l2row 2 2 wh _ _ _ xss W (HBX.out.below hW) HOK.out (by omega) (by omega) (by omega) (by omega))
  have HN2 : Hid (∀ W, Below w.heap.size w W → Calls Try.prog 124 #[.agg #[.int .i64 2, .int .i64 2, .int .i64 wh, .slice va vn vc], .int .i64 X2, .int .i64 0] W fun e w' => ∃ u, e = .returned u ∧ Ints w' u (xss.getD (at_ 2 (((k % 2) ^^^ (k / 2 % 2) : Nat) : Int) ((0 : Nat) : Int)) []) ∧ Below W.heap.size W w') := Lib.hid (fun W hW => by
    rw [← hX2]
    exact row.l2row 2 2 wh _ 0 _ xss W (HBX.out.below hW) HOK.out (by omega) (by omega) (by decide) (by decide))
  have HTOP : Hid (∀ (x : Nat) (W : World), x ≤ 1 → Below w.heap.size w W → Calls Try.prog 124 #[.agg #[.int .i64 2, .int .i64 2, .int .i64 wh, .slice va vn vc], .int .i64 (x : Int), .int .i64 1] W fun e w' => ∃ u, e = .returned u ∧ Ints w' u (xss.getD (at_ 2 (x : Int) ((1 : Nat) : Int)) []) ∧ Below W.heap.size W w') := Lib.hid (fun x W hx hW => row.l2row 2 2 wh _ 1 _ xss W (HBX.out.below hW) HOK.out (by omega) (by omega) (by decide) (by decide))
  have HSX := Lib.hid (And.intro hS hU)
  have HS1 := Lib.hid s1
  have HU1 := Lib.hid u1
  have HX1 := Lib.hid hx1
  have HX2 := Lib.hid hx2
  obtain ⟨LT, hLT⟩ : ∃ LT : Int, ((lt k i : Nat) : Int) = LT := ⟨_, rfl⟩
  have HLT' := Lib.hid hLT
  have HFL : Hid (bits .and .i64 ((k : Int) / 2 ^ i) 1 = LT) := Lib.hid ((cdm.and_lt k i (by omega)).trans hLT)
  have hi3 : (i : Int) ≤ 3 := by omega
  have HWH := Lib.hid hok.1.1.1.2.1
  clear h hok hk _hi hp hE hS hT hU hV s1 t1 u1 v1 hX1 hX2 hx1 hx2 hLT
  have w0 := wr0
  have w1 := wr1
  have w2 := wr2
  have w3 := wr3
  go_enter Try.func64, Try.ntmps64
  go_wp2_with fail
  go_quiet (fail)
  have BQ1 : Below w.heap.size w (wa.drewN nq) := below_drewN B0.out nq
  have KQ1 : Blk (wa.drewN nq) w.heap.size 28 #[.int .i64 2, .int .i64 2, .int .i64 wh, .slice va vn vc] := HKB.out
  clear hwa B0 HKB
  generalize wa.drewN nq = wb at BQ1 KQ1 ⊢
  have BQ2 := Lib.hid BQ1
  have KQ2 := Lib.hid KQ1
  clear BQ1 KQ1
  go_wp2_with fail
  go_quiet (fail)
  have BQ : Below w.heap.size w (wb.drewN nq) := below_drewN BQ2.out nq
  have KQ : Blk (wb.drewN nq) w.heap.size 28 #[.int .i64 2, .int .i64 2, .int .i64 wh, .slice va vn vc] := KQ2.out
  clear BQ2 KQ2
  generalize wb.drewN nq = wq at BQ KQ ⊢
  have HBQ := Lib.hid BQ
  have HKQ := Lib.hid KQ
  clear w0 w1 w2 w3 fS fT fU fV fi
  go_wp2_with fail
  obtain ⟨b0, b1, b2, b3⟩ := four_cells' KQ
  clear BQ KQ
  go_region_held3 (fun w' => w'.cell? ⟨w.heap.size, 0, none⟩ = some (.int .i64 2) ∧ w'.cell? ⟨w.heap.size, 1, none⟩ = some (.int .i64 2) ∧ w'.cell? ⟨w.heap.size, 2, none⟩ = some (.int .i64 wh) ∧ w'.cell? ⟨w.heap.size, 3, none⟩ = some (.slice va vn vc) ∧ Below wq.heap.size wq w')
    ((refine held4 b0 b1 b2 b3 ?_; repeat (first | exact Below.refl _ _ | assumption | refine below_dr ?_ | refine below_tr ?_ (by assumption))))
    (first
      | (go_at_call 124; (with_reducible refine (HN1.out _ ?_).mono ?_); (refine below_tr HBQ.out ?_); (repeat (first | exact Below.refl _ _ | assumption | refine below_dr ?_ | refine below_tr ?_ (by assumption))); rintro e w2 ⟨n1, rfl, hn1, hb1⟩)
      | (go_at_call 124; (with_reducible refine (HN2.out _ ?_).mono ?_); (refine below_tr HBQ.out ?_); (repeat (first | exact Below.refl _ _ | assumption | refine below_dr ?_ | refine below_tr ?_ (by assumption))); rintro e w3 ⟨n2, rfl, hn2, hb2⟩))
  have hb3 : Below wq.heap.size wq w3 := by repeat (first | exact Below.refl _ _ | assumption | refine below_dr ?_ | refine below_tr ?_ (by assumption))
  obtain ⟨nb, no, nc, rfl, hN⟩ := cellsN HOK.out (y := i % 2) (by omega) HX1.out (hn1.below hb2)
  obtain ⟨ob, oo, occ, rfl, hO⟩ := cellsN HOK.out (y := 0) (by decide) HX2.out hn2
  have B3 := Lib.hid (below_tr HBQ.out hb3)
  have K3 := Lib.hid (HKQ.out.below hb3)
  have HN := Lib.hid hN
  have HO := Lib.hid hO
  have RN := Lib.hid (R_bd HOK.out (y := i % 2) (by omega))
  have RO := Lib.hid (R_bd HOK.out (y := 0) (by decide))
  have RT := Lib.hid (R_bd HOK.out (y := 1) (by decide))
  clear hN hO hn1 hn2 hb1 hb2 hb3 HN1 HN2 HBQ HKQ b0 b1 b2 b3 fE fX1 fX2
  go_wp2_with fail
  go_loopw [8, 15, 16, 17, 18, 19, 20, 21, 22] (fun sv q z16 z17 z18 z19 z20 z21 z22 wr => ∃ (a : Nat) (z : Int), a ≤ 4 ∧ q = .int .i64 a ∧ sv = .int .i64 z ∧ Hid (z = ps (fun a => ps (fun f => ps (term (R xss ((i % 2 : Nat) : Int) ((k / 4 % 2) ^^^ (k / 8 % 2))) (R xss 0 ((k % 2) ^^^ (k / 2 % 2))) (R xss 1) 1 (lt k i) (k / 4 % 2) (k % 2) a f) 4) 2) a) ∧ 0 ≤ z ∧ z ≤ 16000000 * a ∧ (∃ z, z16 = z) ∧ (∃ z, z17 = z) ∧ (∃ z, z18 = z) ∧ (∃ z, z19 = z) ∧ (∃ z, z20 = z) ∧ (∃ z, z21 = z) ∧ (∃ z, z22 = z) ∧ Hid (Below w3.heap.size w3 wr)) (fun _ q _ _ _ _ _ _ _ _ => 4 - (intOf q).toNat)
  case atStart => exact ⟨0, 0, by decide, rfl, rfl, Lib.hid rfl, by decide, by decide, ⟨_, rfl⟩, ⟨_, rfl⟩, ⟨_, rfl⟩, ⟨_, rfl⟩, ⟨_, rfl⟩, ⟨_, rfl⟩, ⟨_, rfl⟩, Below.refl _ _⟩
  case round =>
    obtain ⟨a, z, ha, rfl, rfl, hz, hz0, hz1, ⟨z16, rfl⟩, ⟨z17, rfl⟩, ⟨z18, rfl⟩, ⟨z19, rfl⟩, ⟨z20, rfl⟩, ⟨z21, rfl⟩, ⟨z22, rfl⟩, hB⟩ := hrel
    obtain ⟨wo, rfl⟩ : ∃ wo : World, wo = wr := ⟨_, rfl⟩
    by_cases hla : a < 4
    · have haz : (a : Int) < 4 := by omega
      have HLA := Lib.hid hla
      have HZ0 : Hid (z = ps (fun a => ps (fun f => ps (term (R xss ((i % 2 : Nat) : Int) ((k / 4 % 2) ^^^ (k / 8 % 2))) (R xss 0 ((k % 2) ^^^ (k / 2 % 2))) (R xss 1) 1 (lt k i) (k / 4 % 2) (k % 2) a f) 4) 2) a + ps (fun f => ps (term (R xss ((i % 2 : Nat) : Int) ((k / 4 % 2) ^^^ (k / 8 % 2))) (R xss 0 ((k % 2) ^^^ (k / 2 % 2))) (R xss 1) 1 (lt k i) (k / 4 % 2) (k % 2) a f) 4) 0) := Lib.hid (by rw [hz.out]; exact (Int.add_zero _).symm)
      clear hla
      go_wp2_with fail
      go_loopw [8, 16, 17, 18, 19, 20, 21, 22] (fun sv q z17 z18 z19 z20 z21 z22 wr => ∃ (far : Nat) (z : Int), far ≤ 2 ∧ q = .int .i64 far ∧ sv = .int .i64 z ∧ Hid (z = ps (fun a => ps (fun f => ps (term (R xss ((i % 2 : Nat) : Int) ((k / 4 % 2) ^^^ (k / 8 % 2))) (R xss 0 ((k % 2) ^^^ (k / 2 % 2))) (R xss 1) 1 (lt k i) (k / 4 % 2) (k % 2) a f) 4) 2) a + ps (fun f => ps (term (R xss ((i % 2 : Nat) : Int) ((k / 4 % 2) ^^^ (k / 8 % 2))) (R xss 0 ((k % 2) ^^^ (k / 2 % 2))) (R xss 1) 1 (lt k i) (k / 4 % 2) (k % 2) a f) 4) far) ∧ 0 ≤ z ∧ z ≤ 16000000 * a + 8000000 * far ∧ (∃ z, z17 = z) ∧ (∃ z, z18 = z) ∧ (∃ z, z19 = z) ∧ (∃ z, z20 = z) ∧ (∃ z, z21 = z) ∧ (∃ z, z22 = z) ∧ Hid (Below w3.heap.size w3 wr)) (fun _ q _ _ _ _ _ _ _ => 2 - (intOf q).toNat)
      case atStart => exact ⟨0, z, by decide, rfl, rfl, HZ0, hz0, by omega, ⟨_, rfl⟩, ⟨_, rfl⟩, ⟨_, rfl⟩, ⟨_, rfl⟩, ⟨_, rfl⟩, ⟨_, rfl⟩, hB⟩
      case round =>
        clear HZ0 hz hz0 hz1 hB
        obtain ⟨far, z, hf, rfl, rfl, hz, hz0, hz1, ⟨z17, rfl⟩, ⟨z18, rfl⟩, ⟨z19, rfl⟩, ⟨z20, rfl⟩, ⟨z21, rfl⟩, ⟨z22, rfl⟩, hB⟩ := hrel
        obtain ⟨wf, rfl⟩ : ∃ wf : World, wf = wr := ⟨_, rfl⟩
        by_cases hlf : far < 2
        · have hfz : (far : Int) < 2 := by omega
          have HLF := Lib.hid hlf
          have ha3 : a ≤ 3 := by have := HLA.out; omega
          have hA2 : a / 2 ≤ 1 := by omega
          have hf1 : far ≤ 1 := by omega
          obtain ⟨A2, hA⟩ : ∃ A2 : Int, ((a / 2 : Nat) : Int) = A2 := ⟨_, rfl⟩
          obtain ⟨M, hM⟩ : ∃ M : Int, (((k / 4 % 2) ^^^ (a / 2) : Nat) : Int) = M := ⟨_, rfl⟩
          obtain ⟨N, hN⟩ : ∃ N : Int, (((k % 2) ^^^ far : Nat) : Int) = N := ⟨_, rfl⟩
          obtain ⟨X, hX⟩ : ∃ X : Nat, ((k / 4 % 2) ^^^ (a / 2)) ^^^ ((k % 2) ^^^ far) = X := ⟨_, rfl⟩
          have hM1 := xor1 HS1.out hA2
          have hN1 := xor1 HU1.out hf1
          have hX1 : X ≤ 1 := by rw [← hX]; exact xor1 hM1 hN1
          have fA : (a : Int) / 2 = A2 := by rw [← hA]; omega
          have fM : bits .xor .i64 S A2 = M := by rw [← HSX.out.1, ← hA, ← hM]; exact xor_nat HS1.out hA2
          have fN : bits .xor .i64 U (far : Int) = N := by rw [← HSX.out.2, ← hN]; exact xor_nat HU1.out hf1
          have fX : bits .xor .i64 M N = (X : Int) := by rw [← hM, ← hN, ← hX]; exact xor_nat hM1 hN1
          have HMN := Lib.hid (And.intro hM hN)
          have HXX := Lib.hid hX
          have HXL := Lib.hid hX1
          have HM1 := Lib.hid (And.intro hM1 hN1)
          obtain ⟨b0, b1, b2, b3⟩ := four_cells' (K3.out.below hB.out)
          have HTW := Lib.hid (HTOP.out X wf hX1 (below_tr B3.out hB.out))
          have HZ0 : Hid (z = ps (fun a => ps (fun f => ps (term (R xss ((i % 2 : Nat) : Int) ((k / 4 % 2) ^^^ (k / 8 % 2))) (R xss 0 ((k % 2) ^^^ (k / 2 % 2))) (R xss 1) 1 (lt k i) (k / 4 % 2) (k % 2) a f) 4) 2) a + ps (fun f => ps (term (R xss ((i % 2 : Nat) : Int) ((k / 4 % 2) ^^^ (k / 8 % 2))) (R xss 0 ((k % 2) ^^^ (k / 2 % 2))) (R xss 1) 1 (lt k i) (k / 4 % 2) (k % 2) a f) 4) far + ps (term (R xss ((i % 2 : Nat) : Int) ((k / 4 % 2) ^^^ (k / 8 % 2))) (R xss 0 ((k % 2) ^^^ (k / 2 % 2))) (R xss 1) 1 (lt k i) (k / 4 % 2) (k % 2) a far) 0) := Lib.hid (by rw [hz.out]; exact (Int.add_zero _).symm)
          clear hlf ha3 hA2 hf1 hA hM hN hX hM1 hN1 hX1
          go_wp2_with fail
          refine HTW.out.mono ?_
          rintro e w5 ⟨tv, rfl, ht, hb⟩
          obtain ⟨tb, tO, tc, rfl, hT⟩ := cellsN HOK.out (y := 1) (by decide) HXL.out ht
          have HT := Lib.hid hT
          have B5 := Lib.hid (below_tr hB.out hb)
          clear hb ht hT HTW b0 b1 b2 b3 fA fM fN fX hB hz
          go_wp2_with fail
          go_loopw [8, 21, 22] (fun sv q z22 wr => ∃ (up : Nat) (z : Int), up ≤ 4 ∧ q = .int .i64 up ∧ sv = .int .i64 z ∧ Hid (z = ps (fun a => ps (fun f => ps (term (R xss ((i % 2 : Nat) : Int) ((k / 4 % 2) ^^^ (k / 8 % 2))) (R xss 0 ((k % 2) ^^^ (k / 2 % 2))) (R xss 1) 1 (lt k i) (k / 4 % 2) (k % 2) a f) 4) 2) a + ps (fun f => ps (term (R xss ((i % 2 : Nat) : Int) ((k / 4 % 2) ^^^ (k / 8 % 2))) (R xss 0 ((k % 2) ^^^ (k / 2 % 2))) (R xss 1) 1 (lt k i) (k / 4 % 2) (k % 2) a f) 4) far + ps (term (R xss ((i % 2 : Nat) : Int) ((k / 4 % 2) ^^^ (k / 8 % 2))) (R xss 0 ((k % 2) ^^^ (k / 2 % 2))) (R xss 1) 1 (lt k i) (k / 4 % 2) (k % 2) a far) up) ∧ 0 ≤ z ∧ z ≤ 16000000 * a + 8000000 * far + 2000000 * up ∧ (∃ z, z22 = z) ∧ ∃ n, wr = w5.drewN n) (fun _ q _ _ => 4 - (intOf q).toNat)
          case atStart => exact ⟨0, z, by decide, rfl, rfl, HZ0, hz0, by omega, ⟨_, rfl⟩, 0, rfl⟩
          case round =>
            clear HZ0 hz0 hz1
            obtain ⟨up, z, hu, rfl, rfl, hz, hz0, hz1, ⟨z22, rfl⟩, n, rfl⟩ := hrel
            by_cases hlu : up < 4
            · have huz : (up : Int) < 4 := by omega
              have HLU := Lib.hid hlu
              have hU2 : up / 2 ≤ 1 := by omega
              have hF1 : (k % 2) ^^^ far ≤ 1 := HM1.out.2
              obtain ⟨U2, hU⟩ : ∃ U2 : Int, ((up / 2 : Nat) : Int) = U2 := ⟨_, rfl⟩
              obtain ⟨U1, hU1⟩ : ∃ U1 : Int, ((up % 2 : Nat) : Int) = U1 := ⟨_, rfl⟩
              obtain ⟨A1, hA1⟩ : ∃ A1 : Int, ((a % 2 : Nat) : Int) = A1 := ⟨_, rfl⟩
              obtain ⟨Q1, hQ1⟩ : ∃ Q1 : Int, ((((k % 2) ^^^ far) ^^^ (up / 2) : Nat) : Int) = Q1 := ⟨_, rfl⟩
              obtain ⟨Q2, hQ2⟩ : ∃ Q2 : Int, (((((k % 2) ^^^ far) ^^^ (up / 2)) ^^^ (up % 2) : Nat) : Int) = Q2 := ⟨_, rfl⟩
              obtain ⟨G, hG⟩ : ∃ G : Int, ((((((k % 2) ^^^ far) ^^^ (up / 2)) ^^^ (up % 2)) ^^^ (a % 2) : Nat) : Int) = G := ⟨_, rfl⟩
              have f1 : (up : Int) / 2 = U2 := by rw [← hU]; omega
              have f2 : bits .and .i64 (up : Int) 1 = U1 := (plg.and_one up).trans hU1
              have f3 : bits .and .i64 (a : Int) 1 = A1 := (plg.and_one a).trans hA1
              have f4 : bits .xor .i64 N U2 = Q1 := by rw [← HMN.out.2, ← hU, ← hQ1]; exact xor_nat hF1 hU2
              have g1 := xor1 hF1 hU2
              have f5 : bits .xor .i64 Q1 U1 = Q2 := by rw [← hQ1, ← hU1, ← hQ2]; exact xor_nat g1 (by omega)
              have g2 := xor1 g1 (show up % 2 ≤ 1 by omega)
              have f6 : bits .xor .i64 Q2 A1 = G := by rw [← hQ2, ← hA1, ← hG]; exact xor_nat g2 (by omega)
              have fl := HFL.out
              have hiff : ((((((k % 2) ^^^ far) ^^^ (up / 2)) ^^^ (up % 2)) ^^^ (a % 2)) = lt k i) ↔ G = LT := by
                rw [← hG, ← HLT'.out]
                exact ⟨fun h => congrArg Int.ofNat h, fun h => Int.ofNat.inj h⟩
              by_cases hq : G = LT
              · have dq : (G == LT) = true := by simp [hq]
                obtain ⟨g, hg⟩ : ∃ g : Nat, 2 * far = g := ⟨_, rfl⟩
                have hgl : g + 1 < 4 := by have := HLF.out; omega
                have c0 : w5.cell? ⟨nb, no + a, none⟩ = some (.int .i64 (R xss ((i % 2 : Nat) : Int) ((k / 4 % 2) ^^^ (k / 8 % 2)) a)) := below_cell B5.out _ _ (HN.out a HLA.out)
                have c1 : w5.cell? ⟨ob, oo + g, none⟩ = some (.int .i64 (R xss 0 ((k % 2) ^^^ (k / 2 % 2)) g)) := below_cell B5.out _ _ (HO.out g (by omega))
                have c2 : w5.cell? ⟨ob, oo + (g + 1), none⟩ = some (.int .i64 (R xss 0 ((k % 2) ^^^ (k / 2 % 2)) (g + 1))) := below_cell B5.out _ _ (HO.out (g + 1) hgl)
                have c3 : w5.cell? ⟨tb, tO + up, none⟩ = some (.int .i64 (R xss 1 X up)) := HT.out up hlu
                have r0 := RN.out ((k / 4 % 2) ^^^ (k / 8 % 2)) a HX1.out HLA.out
                have r1 := RO.out ((k % 2) ^^^ (k / 2 % 2)) g HX2.out (by omega)
                have r2 := RO.out ((k % 2) ^^^ (k / 2 % 2)) (g + 1) HX2.out hgl
                have r3 := RT.out X up HXL.out hlu
                have hterm : term (R xss ((i % 2 : Nat) : Int) ((k / 4 % 2) ^^^ (k / 8 % 2))) (R xss 0 ((k % 2) ^^^ (k / 2 % 2))) (R xss 1) 1 (lt k i) (k / 4 % 2) (k % 2) a far up = R xss ((i % 2 : Nat) : Int) ((k / 4 % 2) ^^^ (k / 8 % 2)) a * (R xss 0 ((k % 2) ^^^ (k / 2 % 2)) g + R xss 0 ((k % 2) ^^^ (k / 2 % 2)) (g + 1)) * R xss 1 X up := by
                  unfold term
                  rw [if_pos rfl, if_pos (hiff.2 hq), hg, HXX.out]
                have HW9 := HW.out
                rw [show ((0 : Nat) : Int) = 0 from rfl] at r1 r2
                rw [show ((1 : Nat) : Int) = 1 from rfl] at r3
                generalize R xss ((i % 2 : Nat) : Int) ((k / 4 % 2) ^^^ (k / 8 % 2)) a = x0 at c0 r0 hterm
                generalize R xss 0 ((k % 2) ^^^ (k / 2 % 2)) g = x1 at c1 r1 hterm
                generalize R xss 0 ((k % 2) ^^^ (k / 2 % 2)) (g + 1) = x2 at c2 r2 hterm
                generalize R xss 1 X up = x3 at c3 r3 hterm
                have p1 : 0 ≤ x0 * (x1 + x2) ∧ x0 * (x1 + x2) ≤ 100 * 200 := ⟨Int.mul_nonneg r0.1 (by omega), Int.mul_le_mul (by omega) (by omega) (by omega) (by decide)⟩
                obtain ⟨y1, hy1⟩ : ∃ y1, x1 + x2 = y1 := ⟨_, rfl⟩
                rw [hy1] at p1 hterm
                obtain ⟨y2, hy2⟩ : ∃ y2, x0 * y1 = y2 := ⟨_, rfl⟩
                rw [hy2] at p1 hterm
                have p2 : 0 ≤ y2 * x3 ∧ y2 * x3 ≤ 20000 * 100 := ⟨Int.mul_nonneg p1.1 r3.1, Int.mul_le_mul (by omega) (by omega) r3.1 (by decide)⟩
                obtain ⟨y3, hy3⟩ : ∃ y3, y2 * x3 = y3 := ⟨_, rfl⟩
                rw [hy3] at p2 hterm
                have m1 : IntKind.i64.wrap (x1 + x2) = y1 := by rw [hy1]; exact IntWalk.i64_in _ (by omega)
                have m2 : IntKind.i64.wrap (x0 * y1) = y2 := by rw [hy2]; exact IntWalk.i64_in _ (by omega)
                have m3 : IntKind.i64.wrap (y2 * x3) = y3 := by rw [hy3]; exact IntWalk.i64_in _ (by omega)
                have m4 : IntKind.i64.wrap (z + y3) = z + y3 := IntWalk.i64_in _ (by omega)
                have m5 : IntKind.i64.wrap (2 * (far : Int)) = (g : Int) := by rw [show (2 : Int) * (far : Int) = (g : Int) by omega]; exact IntWalk.i64_in _ (by omega)
                have m6 : IntKind.i64.wrap ((g : Int) + 1) = ((g + 1 : Nat) : Int) := by push_cast; exact IntWalk.i64_in _ (by omega)
                have HST : Hid (z + y3 = ps (fun a => ps (fun f => ps (term (R xss ((i % 2 : Nat) : Int) ((k / 4 % 2) ^^^ (k / 8 % 2))) (R xss 0 ((k % 2) ^^^ (k / 2 % 2))) (R xss 1) 1 (lt k i) (k / 4 % 2) (k % 2) a f) 4) 2) a + ps (fun f => ps (term (R xss ((i % 2 : Nat) : Int) ((k / 4 % 2) ^^^ (k / 8 % 2))) (R xss 0 ((k % 2) ^^^ (k / 2 % 2))) (R xss 1) 1 (lt k i) (k / 4 % 2) (k % 2) a f) 4) far + ps (term (R xss ((i % 2 : Nat) : Int) ((k / 4 % 2) ^^^ (k / 8 % 2))) (R xss 0 ((k % 2) ^^^ (k / 2 % 2))) (R xss 1) 1 (lt k i) (k / 4 % 2) (k % 2) a far) (up + 1)) := Lib.hid (by
                  show _ = _ + (ps (term (R xss ((i % 2 : Nat) : Int) ((k / 4 % 2) ^^^ (k / 8 % 2))) (R xss 0 ((k % 2) ^^^ (k / 2 % 2))) (R xss 1) 1 (lt k i) (k / 4 % 2) (k % 2) a far) up + term (R xss ((i % 2 : Nat) : Int) ((k / 4 % 2) ^^^ (k / 8 % 2))) (R xss 0 ((k % 2) ^^^ (k / 2 % 2))) (R xss 1) 1 (lt k i) (k / 4 % 2) (k % 2) a far up)
                  rw [hterm, hz.out, Int.add_assoc])
                have hgz : (g : Int) < 4 := by omega
                have hgz1 : (((g + 1 : Nat) : Int)) < 4 := by omega
                have HG := Lib.hid hg
                have hy30 := p2
                clear hU2 hF1 hU hU1 hA1 hQ1 hQ2 hG g1 g2 hiff hq hterm r0 r1 r2 r3 hy1 hy2 hy3 p1 p2 hg hlu HW9
                go_wp2_with fail
                go_quiet (fail)
                go_wp2_with fail
                go_roundw
                case rel => exact ⟨up + 1, z + y3, by have := HLU.out; omega, by go_num, rfl, HST, by omega, by push_cast; omega, ⟨_, rfl⟩, by first | exact ⟨_, rfl⟩ | exact ⟨_, World.drewN_drewN _ _ _⟩⟩
                case measure => have := HLU.out; simp [intOf]; omega
              · have dq : (G == LT) = false := by simp [hq]
                have hterm : term (R xss ((i % 2 : Nat) : Int) ((k / 4 % 2) ^^^ (k / 8 % 2))) (R xss 0 ((k % 2) ^^^ (k / 2 % 2))) (R xss 1) 1 (lt k i) (k / 4 % 2) (k % 2) a far up = 0 := by
                  unfold term
                  rw [if_pos rfl, if_neg (fun h => hq (hiff.1 h))]
                have HST : Hid (z = ps (fun a => ps (fun f => ps (term (R xss ((i % 2 : Nat) : Int) ((k / 4 % 2) ^^^ (k / 8 % 2))) (R xss 0 ((k % 2) ^^^ (k / 2 % 2))) (R xss 1) 1 (lt k i) (k / 4 % 2) (k % 2) a f) 4) 2) a + ps (fun f => ps (term (R xss ((i % 2 : Nat) : Int) ((k / 4 % 2) ^^^ (k / 8 % 2))) (R xss 0 ((k % 2) ^^^ (k / 2 % 2))) (R xss 1) 1 (lt k i) (k / 4 % 2) (k % 2) a f) 4) far + ps (term (R xss ((i % 2 : Nat) : Int) ((k / 4 % 2) ^^^ (k / 8 % 2))) (R xss 0 ((k % 2) ^^^ (k / 2 % 2))) (R xss 1) 1 (lt k i) (k / 4 % 2) (k % 2) a far) (up + 1)) := Lib.hid (by
                  show _ = _ + (ps (term (R xss ((i % 2 : Nat) : Int) ((k / 4 % 2) ^^^ (k / 8 % 2))) (R xss 0 ((k % 2) ^^^ (k / 2 % 2))) (R xss 1) 1 (lt k i) (k / 4 % 2) (k % 2) a far) up + term (R xss ((i % 2 : Nat) : Int) ((k / 4 % 2) ^^^ (k / 8 % 2))) (R xss 0 ((k % 2) ^^^ (k / 2 % 2))) (R xss 1) 1 (lt k i) (k / 4 % 2) (k % 2) a far up)
                  rw [hterm, hz.out, Int.add_zero])
                clear hU2 hF1 hU hU1 hA1 hQ1 hQ2 hG g1 g2 hiff hq hterm hlu
                go_wp2_with fail
                go_roundw
                case rel => exact ⟨up + 1, z, by have := HLU.out; omega, by go_num, rfl, HST, by omega, by push_cast; omega, ⟨_, rfl⟩, by first | exact ⟨_, rfl⟩ | exact ⟨_, World.drewN_drewN _ _ _⟩⟩
                case measure => have := HLU.out; simp [intOf]; omega
            · have huz : ¬ (up : Int) < 4 := by omega
              obtain rfl : up = 4 := by omega
              have HST : Hid (z = ps (fun a => ps (fun f => ps (term (R xss ((i % 2 : Nat) : Int) ((k / 4 % 2) ^^^ (k / 8 % 2))) (R xss 0 ((k % 2) ^^^ (k / 2 % 2))) (R xss 1) 1 (lt k i) (k / 4 % 2) (k % 2) a f) 4) 2) a + ps (fun f => ps (term (R xss ((i % 2 : Nat) : Int) ((k / 4 % 2) ^^^ (k / 8 % 2))) (R xss 0 ((k % 2) ^^^ (k / 2 % 2))) (R xss 1) 1 (lt k i) (k / 4 % 2) (k % 2) a f) 4) (far + 1)) := Lib.hid (by
                show _ = _ + (ps (fun f => ps (term (R xss ((i % 2 : Nat) : Int) ((k / 4 % 2) ^^^ (k / 8 % 2))) (R xss 0 ((k % 2) ^^^ (k / 2 % 2))) (R xss 1) 1 (lt k i) (k / 4 % 2) (k % 2) a f) 4) far + ps (term (R xss ((i % 2 : Nat) : Int) ((k / 4 % 2) ^^^ (k / 8 % 2))) (R xss 0 ((k % 2) ^^^ (k / 2 % 2))) (R xss 1) 1 (lt k i) (k / 4 % 2) (k % 2) a far) 4)
                rw [hz.out, Int.add_assoc])
              have B9 := Lib.hid (below_drewN B5.out n)
              go_wp2_with fail
              go_roundw
              case rel => exact ⟨far + 1, z, by have := HLF.out; omega, by go_num, rfl, HST, hz0, by push_cast; omega, ⟨_, rfl⟩, ⟨_, rfl⟩, ⟨_, rfl⟩, ⟨_, rfl⟩, ⟨_, rfl⟩, ⟨_, rfl⟩, B9⟩
              case measure => have := HLF.out; simp [intOf]; omega
        · have hfz : ¬ (far : Int) < 2 := by omega
          obtain rfl : far = 2 := by omega
          have HST : Hid (z = ps (fun a => ps (fun f => ps (term (R xss ((i % 2 : Nat) : Int) ((k / 4 % 2) ^^^ (k / 8 % 2))) (R xss 0 ((k % 2) ^^^ (k / 2 % 2))) (R xss 1) 1 (lt k i) (k / 4 % 2) (k % 2) a f) 4) 2) (a + 1)) := Lib.hid hz.out
          go_wp2_with fail
          go_roundw
          case rel => exact ⟨a + 1, z, by have := HLA.out; omega, by go_num, rfl, HST, hz0, by push_cast; omega, ⟨_, rfl⟩, ⟨_, rfl⟩, ⟨_, rfl⟩, ⟨_, rfl⟩, ⟨_, rfl⟩, ⟨_, rfl⟩, ⟨_, rfl⟩, hB⟩
          case measure => have := HLA.out; simp [intOf]; omega
    · have haz : ¬ (a : Int) < 4 := by omega
      obtain rfl : a = 4 := by omega
      have HZ : Hid (z = cr xss k i) := Lib.hid (hz.out.trans HCR.out.symm)
      go_wp2_with fail
      go_ret
      exact ⟨ret_int HZ.out, below_tr B3.out hB.out⟩
theorem right (wh : Int) (v : Value) (xss : List (List Int)) (k i : Nat) (w : World) (h : IRows w v xss) (hok : okC 2 2 wh xss) (hk : k < 16) (hi : i < 4) :
    Calls Try.prog 64 #[.agg #[.int .i64 2, .int .i64 2, .int .i64 wh, v], .int .i64 (k : Int), .int .i64 (i : Int)] w fun e w' => e = .returned (.int .i64 (cr xss k i)) ∧ Below w.heap.size w w' := by
  have hp : i / 2 = 0 ∨ i / 2 = 1 := by omega
  rcases hp with hp | hp
  · exact right0 wh v xss k i w h hok hk hi hp
  · exact right1 wh v xss k i w h hok hk hi hp


end Go.Proofs.Ytnjaocgciokpaab.chs
