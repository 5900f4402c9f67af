/- askedGame of the program. -/
import Derived.Test.YtimfnhejiiagmaaAskp
import Derived.Test.YtimfnhejiiagmaaGway
import Derived.Test.YtimfnhejiiagmaaLast
namespace Go.Proofs.Ytimfnhejiiagmaa.gask
open Go.RowKit Go.Deep Go.Proofs.Ytimfnhejiiagmaa.base
open Go.Proofs.Ytimfnhejiiagmaa.ints (ret_int infoInt infoInts)
open Go.Proofs.Ytimfnhejiiagmaa.rws (total)
open Go.Proofs.Ytimfnhejiiagmaa.gval (okGame)
open Go.Proofs.Ytimfnhejiiagmaa.row (nn at_)
open Go.Proofs.Ytimfnhejiiagmaa.gwon (wt)

/-- the first weights of the new game -/
def wts (gy : Int) (fs ss ws : List Int) (k : Nat) : List Int := (List.range k).map fun r => wt ws (src gy fs ss r)
theorem wts_succ (gy : Int) (fs ss ws : List Int) (k : Nat) : wts gy fs ss ws (k + 1) = wts gy fs ss ws k ++ [wt ws (src gy fs ss k)] := by simp [wts, List.range_succ]
theorem len_wts (gy : Int) (fs ss ws : List Int) (k : Nat) : (wts gy fs ss ws k).length = k := by simp [wts]
/-- what the questions asked are -/
def okAsk (gx gy : Int) (fs ss : List Int) : Prop := (1 ≤ fs.length ∧ fs.length ≤ 3) ∧ (1 ≤ ss.length ∧ ss.length ≤ 3) ∧ (∀ k, k < fs.length → 0 ≤ fs.getD k 0 ∧ fs.getD k 0 < gx) ∧ ∀ k, k < ss.length → 0 ≤ ss.getD k 0 ∧ ss.getD k 0 < gy
/-- the new game under way -/
structure Ask (WB wr : World) (X Y : Int) (wv : Value) (xs : List Int) : Prop where
  below : Below WB.heap.size WB wr
  blk : Blk wr WB.heap.size 40 #[.int .i64 X, .int .i64 Y, wv, .slice none 0 0]
  own : wr.ownsRow (WB.heap.size + 1) 3 1 wv xs.length (i64s xs)
theorem Ask.keep {WB wr W : World} {X Y : Int} {wv : Value} {xs : List Int} (h : Ask WB wr X Y wv xs) (hb : Below wr.heap.size wr W) : Ask WB W X Y wv xs :=
  ⟨below_tr h.below hb, h.blk.below hb, app.owns_below h.own hb⟩
theorem Ask.grow {WB wr W : World} {X Y : Int} {wv v' : Value} {xs : List Int} {x : Int} (h : Ask WB wr X Y wv xs) (ho : W.ownsRow (WB.heap.size + 1) 3 1 v' (xs.length + 1) (i64s xs ++ [.int .i64 x])) (hg : wr.grownBy W wv.ownBlock) :
    Ask WB (W.setCell ⟨WB.heap.size, 2, none⟩ v') X Y v' (xs ++ [x]) ∧ Blk W WB.heap.size 40 #[.int .i64 X, .int .i64 Y, wv, .slice none 0 0] := by
  have hB : Blk W WB.heap.size 40 #[.int .i64 X, .int .i64 Y, wv, .slice none 0 0] := (hg.block _ h.blk.lt (fun e => gway.apart_blk h.own h.blk (by decide) e.symm)).trans h.blk
  refine ⟨⟨(h.below.grown hg h.below.size (fun j hj => by have := (h.own.lt j hj).1; omega)).setCell (Nat.le_refl _) _, ?_, ?_⟩, hB⟩
  · have := Joins.block_setCell (i := 2) hB v'
    unfold Blk
    simpa using this
  · have e : i64s (xs ++ [x]) = i64s xs ++ [.int .i64 x] := (app.i64s_snoc xs x).symm
    rw [e, List.length_append]
    exact ownsRow_setCell_other ho (gway.apart_blk ho hB (by decide)) _
theorem lows5q {n : Nat} {w w' : World} {a0 a1 a2 a3 q : Addr} {u0 u1 u2 u3 u : Value} (h0 : w.cell? a0 = some u0) (h1 : w.cell? a1 = some u1) (h2 : w.cell? a2 = some u2) (h3 : w.cell? a3 = some u3)
    (l0 : a0.block < n) (l1 : a1.block < n) (l2 : a2.block < n) (l3 : a3.block < n) (h : step.Low n w w') (hq : w'.cell? q = some u) :
    w'.cell? a0 = some u0 ∧ w'.cell? a1 = some u1 ∧ w'.cell? a2 = some u2 ∧ w'.cell? a3 = some u3 ∧ w'.cell? q = some u :=
  ⟨(h _ l0).trans h0, (h _ l1).trans h1, (h _ l2).trans h2, (h _ l3).trans h3, hq⟩


set_option maxRecDepth 100000 in
set_option maxHeartbeats 8000000 in
theorem asked (gx gy : Int) (v : Value) (ws : List Int) (u : Value) (xss : List (List Int)) (fv sv : Value) (fs ss : List Int) (w : World) (h : game.GV w v ws u xss) (hf : Ints w fv fs) (hs : Ints w sv ss) (hok : okGame gx gy ws xss) (ha : okAsk gx gy fs ss) :
    Calls Try.prog 79 #[.agg #[.int .i64 gx, .int .i64 gy, v, u], fv, sv] w fun e w' => ∃ a r, e = .returned (.agg #[.int .i64 (fs.length : Nat), .int .i64 (ss.length : Nat), a, r]) ∧
      game.OG w' w.heap.size w'.heap.size a (wts gy fs ss ws (fs.length * ss.length)) r (make.rowsOf (N gy fs ss xss) (fs.length * ss.length)) ∧ Below w.heap.size w w' := by
  obtain ⟨i0, hi, hz0, hz1, hz2⟩ := info_parts infoInt
  obtain ⟨va, vn, vc, ua, un, uc, rfl, rfl⟩ := h.shape
  obtain ⟨A1, b1, o1, q1, rfl, _, _, hA1, hc1⟩ := hf.form
  obtain rfl := hA1 (by have := ha.1; omega)
  obtain ⟨A2, b2, o2, q2, rfl, _, _, hA2, hc2⟩ := hs.form
  obtain rfl := hA2 (by have := ha.2.1; omega)
  have H := Lib.hid h
  have HF := Lib.hid hf
  have HS := Lib.hid hs
  have HOK := Lib.hid hok
  have HA := Lib.hid ha
  have BB := Lib.hid (below_al (below_al (below_al (below_al (Below.refl w.heap.size w) (.cells #[.int .i64 gx, .int .i64 gy, .slice va vn vc, .slice ua un uc] 40)) (.cells #[.slice (some ⟨b1, o1, none⟩) fs.length q1] 34)) (.cells #[.slice (some ⟨b2, o2, none⟩) ss.length q2] 34)) (.cells #[.int .i64 0, .int .i64 0, .slice none 0 0, .slice none 0 0] 40))
  have K0 : Hid (Blk ((((w.alloc (.cells #[.int .i64 gx, .int .i64 gy, .slice va vn vc, .slice ua un uc] 40)).alloc (.cells #[.slice (some ⟨b1, o1, none⟩) fs.length q1] 34)).alloc (.cells #[.slice (some ⟨b2, o2, none⟩) ss.length q2] 34)).alloc (.cells #[.int .i64 0, .int .i64 0, .slice none 0 0, .slice none 0 0] 40)) w.heap.size 40 #[.int .i64 gx, .int .i64 gy, .slice va vn vc, .slice ua un uc]) := Lib.hid ((((Blk.new w 40 #[.int .i64 gx, .int .i64 gy, .slice va vn vc, .slice ua un uc]).alloc _).alloc _).alloc _)
  have K1 : Hid (((((w.alloc (.cells #[.int .i64 gx, .int .i64 gy, .slice va vn vc, .slice ua un uc] 40)).alloc (.cells #[.slice (some ⟨b1, o1, none⟩) fs.length q1] 34)).alloc (.cells #[.slice (some ⟨b2, o2, none⟩) ss.length q2] 34)).alloc (.cells #[.int .i64 0, .int .i64 0, .slice none 0 0, .slice none 0 0] 40)).cell? ⟨w.heap.size + 1, 0, none⟩ = some (.slice (some ⟨b1, o1, none⟩) fs.length q1)) := Lib.hid (by
    have := below_cell (below_al (below_al (Below.refl _ _) (.cells #[.slice (some ⟨b2, o2, none⟩) ss.length q2] 34)) (.cells #[.int .i64 0, .int .i64 0, .slice none 0 0, .slice none 0 0] 40)) _ _ (app.one_at (w.alloc (.cells #[.int .i64 gx, .int .i64 gy, .slice va vn vc, .slice ua un uc] 40)) (.slice (some ⟨b1, o1, none⟩) fs.length q1) 34 0 _ rfl)
    simpa [Addr.add] using this)
  have K2 : Hid (((((w.alloc (.cells #[.int .i64 gx, .int .i64 gy, .slice va vn vc, .slice ua un uc] 40)).alloc (.cells #[.slice (some ⟨b1, o1, none⟩) fs.length q1] 34)).alloc (.cells #[.slice (some ⟨b2, o2, none⟩) ss.length q2] 34)).alloc (.cells #[.int .i64 0, .int .i64 0, .slice none 0 0, .slice none 0 0] 40)).cell? ⟨w.heap.size + 1 + 1, 0, none⟩ = some (.slice (some ⟨b2, o2, none⟩) ss.length q2)) := Lib.hid (by
    have := below_cell (below_al (Below.refl _ _) (.cells #[.int .i64 0, .int .i64 0, .slice none 0 0, .slice none 0 0] 40)) _ _ (app.one_at ((w.alloc (.cells #[.int .i64 gx, .int .i64 gy, .slice va vn vc, .slice ua un uc] 40)).alloc (.cells #[.slice (some ⟨b1, o1, none⟩) fs.length q1] 34)) (.slice (some ⟨b2, o2, none⟩) ss.length q2) 34 0 _ rfl)
    simpa [Addr.add] using this)
  have R0 : Hid (Blk ((((w.alloc (.cells #[.int .i64 gx, .int .i64 gy, .slice va vn vc, .slice ua un uc] 40)).alloc (.cells #[.slice (some ⟨b1, o1, none⟩) fs.length q1] 34)).alloc (.cells #[.slice (some ⟨b2, o2, none⟩) ss.length q2] 34)).alloc (.cells #[.int .i64 0, .int .i64 0, .slice none 0 0, .slice none 0 0] 40)) (w.heap.size + 1 + 1 + 1) 40 #[.int .i64 0, .int .i64 0, .slice none 0 0, .slice none 0 0]) := Lib.hid (by
    have := Blk.new (((w.alloc (.cells #[.int .i64 gx, .int .i64 gy, .slice va vn vc, .slice ua un uc] 40)).alloc (.cells #[.slice (some ⟨b1, o1, none⟩) fs.length q1] 34)).alloc (.cells #[.slice (some ⟨b2, o2, none⟩) ss.length q2] 34)) 40 #[.int .i64 0, .int .i64 0, .slice none 0 0, .slice none 0 0]
    simpa using this)
  have HZ : Hid (((((w.alloc (.cells #[.int .i64 gx, .int .i64 gy, .slice va vn vc, .slice ua un uc] 40)).alloc (.cells #[.slice (some ⟨b1, o1, none⟩) fs.length q1] 34)).alloc (.cells #[.slice (some ⟨b2, o2, none⟩) ss.length q2] 34)).alloc (.cells #[.int .i64 0, .int .i64 0, .slice none 0 0, .slice none 0 0] 40)).heap.size = w.heap.size + 1 + 1 + 1 + 1) := Lib.hid (by simp)
  have A0 : Hid (Ask ((((w.alloc (.cells #[.int .i64 gx, .int .i64 gy, .slice va vn vc, .slice ua un uc] 40)).alloc (.cells #[.slice (some ⟨b1, o1, none⟩) fs.length q1] 34)).alloc (.cells #[.slice (some ⟨b2, o2, none⟩) ss.length q2] 34)).alloc (.cells #[.int .i64 0, .int .i64 0, .slice none 0 0, .slice none 0 0] 40)) (((((w.alloc (.cells #[.int .i64 gx, .int .i64 gy, .slice va vn vc, .slice ua un uc] 40)).alloc (.cells #[.slice (some ⟨b1, o1, none⟩) fs.length q1] 34)).alloc (.cells #[.slice (some ⟨b2, o2, none⟩) ss.length q2] 34)).alloc (.cells #[.int .i64 0, .int .i64 0, .slice none 0 0, .slice none 0 0] 40)).alloc (.cells #[.int .i64 (fs.length : Nat), .int .i64 (ss.length : Nat), .slice none 0 0, .slice none 0 0] 40)) (fs.length : Nat) (ss.length : Nat) (.slice none 0 0) (wts gy fs ss ws (0 * ss.length))) := Lib.hid (by
    refine ⟨below_al (Below.refl _ _) _, Blk.new _ _ _, ?_⟩
    rw [Nat.zero_mul]
    exact ⟨by simp [wts, i64s], .inl ⟨rfl, by simp [wts]⟩⟩)
  have HC1 := Lib.hid (fun (k : Nat) (hk : k < fs.length) => show w.cell? ⟨b1, o1 + k, none⟩ = some (.int .i64 (fs.getD k 0)) from by rw [show fs.getD k 0 = fs[k] from by simp [List.getD, hk]]; exact hc1 k hk)
  have HC2 := Lib.hid (fun (k : Nat) (hk : k < ss.length) => show w.cell? ⟨b2, o2 + k, none⟩ = some (.int .i64 (ss.getD k 0)) from by rw [show ss.getD k 0 = ss[k] from by simp [List.getD, hk]]; exact hc2 k hk)
  have h9 : fs.length * ss.length ≤ 9 := Nat.mul_le_mul ha.1.2 ha.2.1.2
  have H9 := Lib.hid h9
  have hX3 := ha.1
  have hY3 := ha.2.1
  have HSA := Lib.hid (src_at gy fs ss)
  have HWS := Lib.hid (wts_succ gy fs ss ws)
  have HLW := Lib.hid (len_wts gy fs ss ws)
  clear h hf hs hok ha hA1 hA2 hc1 hc2 h9
  go_enter Try.func79, Try.ntmps79
  go_wp2_with fail
  generalize ((((w.alloc (.cells #[.int .i64 gx, .int .i64 gy, .slice va vn vc, .slice ua un uc] 40)).alloc (.cells #[.slice (some ⟨b1, o1, none⟩) fs.length q1] 34)).alloc (.cells #[.slice (some ⟨b2, o2, none⟩) ss.length q2] 34)).alloc (.cells #[.int .i64 0, .int .i64 0, .slice none 0 0, .slice none 0 0] 40)) = WB at *
  go_loopw [9, 11, 19] (fun z9 z11 i wr => ∃ a : Nat, a ≤ fs.length ∧ i = .int .i64 a ∧ (∃ z, z9 = z) ∧ (∃ z, z11 = z) ∧ ∃ wv, Hid (Ask WB wr (fs.length : Nat) (ss.length : Nat) wv (wts gy fs ss ws (a * ss.length)))) (fun _ _ i _ => fs.length - (intOf i).toNat)
  case atStart => exact ⟨0, Nat.zero_le _, rfl, ⟨_, rfl⟩, ⟨_, rfl⟩, _, A0⟩
  case round =>
    obtain ⟨a, hal, rfl, ⟨z9, rfl⟩, ⟨z11, rfl⟩, wv, hA⟩ := hrel
    clear A0
    obtain ⟨wo, rfl⟩ : ∃ wo : World, wo = wr := ⟨_, rfl⟩
    by_cases hlt : a < fs.length
    · have hkz : (a : Int) < (fs.length : Int) := by omega
      have e1 := below_cell (below_tr BB.out hA.out.below) _ _ (HC1.out a hlt)
      have e5 := below_cell hA.out.below _ _ K2.out
      obtain ⟨x, hx⟩ : ∃ x, fs.getD a 0 = x := ⟨_, rfl⟩
      rw [hx] at e1
      have HX := Lib.hid hx
      clear hx
      go_wp2_with fail
      clear e1 e5
      go_loopw [11, 25] (fun z11 j wi => ∃ c : Nat, c ≤ ss.length ∧ j = .int .i64 c ∧ (∃ z, z11 = z) ∧ ∃ wv, Hid (Ask WB wi (fs.length : Nat) (ss.length : Nat) wv (wts gy fs ss ws (a * ss.length + c)))) (fun _ j _ => ss.length - (intOf j).toNat)
      case atStart => exact ⟨0, Nat.zero_le _, rfl, ⟨_, rfl⟩, _, hA⟩
      case round =>
        clear hA
        obtain ⟨c, hcl, rfl, ⟨z, rfl⟩, wv, hA⟩ := hrel
        obtain ⟨wi, rfl⟩ : ∃ wi : World, wi = wr := ⟨_, rfl⟩
        by_cases hlc : c < ss.length
        · have hkc : (c : Int) < (ss.length : Int) := by omega
          have BI := Lib.hid (below_tr BB.out hA.out.below)
          have e2 := below_cell BI.out _ _ (HC2.out c hlc)
          obtain ⟨k0, k1, k2, k3, k4⟩ := four_cells K0.out
          obtain ⟨f0, f1, f2, f3, f4⟩ := four_cells hA.out.blk
          rw [HZ.out] at f2
          obtain ⟨xa, xl, xc, rfl⟩ := make.shape hA.out.own
          have hfa := HA.out.2.2.1 a hlt
          have hsc := HA.out.2.2.2 c hlc
          have HWT := Lib.hid (fun (W : World) (hb : Below w.heap.size w W) => gwon.weightof gx gy (fs.getD a 0) (ss.getD c 0) _ ws _ xss W (H.out.below hb) HOK.out hfa.1 hfa.2 hsc.1 hsc.2)
          have HNX := Lib.hid (show wts gy fs ss ws (a * ss.length + c + 1) = wts gy fs ss ws (a * ss.length + c) ++ [wt ws (at_ gy (fs.getD a 0) (ss.getD c 0))] from by rw [HWS.out, HSA.out a c hlc])
          have hk9 : a * ss.length + c < 9 := by
            have h1 : a * ss.length + c < (a + 1) * ss.length := by rw [Nat.add_mul]; omega
            have h2 : (a + 1) * ss.length ≤ fs.length * ss.length := Nat.mul_le_mul_right _ (by omega)
            have := H9.out
            omega
          have HK9 : Hid ((wts gy fs ss ws (a * ss.length + c)).length < 9) := Lib.hid (by rw [HLW.out]; exact hk9)
          have hlw : (wts gy fs ss ws (a * ss.length + c)).length = a * ss.length + c := HLW.out _
          have HLN := Lib.hid hlw
          rw [HX.out] at hfa HWT HNX
          generalize ss.getD c 0 = y at *
          generalize wt ws (at_ gy x y) = n at *
          have L2 := Lib.hid (step.Low.below hA.out.below)
          have hsw : WB.heap.size ≤ wi.heap.size := hA.out.below.size
          have hHZ := HZ.out
          have HAA := hA
          clear hA hk9 hlw hfa hsc
          go_wp2_with fail
          refine last.start (S := (fun w' => w'.cell? ⟨w.heap.size, 0, none⟩ = some (.int .i64 gx) ∧ w'.cell? ⟨w.heap.size, 1, none⟩ = some (.int .i64 gy) ∧ w'.cell? ⟨w.heap.size, 2, none⟩ = some (.slice va vn vc) ∧ w'.cell? ⟨w.heap.size, 3, none⟩ = some (.slice ua un uc) ∧ w'.cell? ⟨w.heap.size + 1 + 1 + 1 + 1, 2, none⟩ = some (.slice xa xl xc))) (L := 9) (by kernel_rfl) ?_
          have hHeld : (fun w' => w'.cell? ⟨w.heap.size, 0, none⟩ = some (.int .i64 gx) ∧ w'.cell? ⟨w.heap.size, 1, none⟩ = some (.int .i64 gy) ∧ w'.cell? ⟨w.heap.size, 2, none⟩ = some (.slice va vn vc) ∧ w'.cell? ⟨w.heap.size, 3, none⟩ = some (.slice ua un uc) ∧ w'.cell? ⟨w.heap.size + 1 + 1 + 1 + 1, 2, none⟩ = some (.slice xa xl xc)) wi.drew := by
            refine lows5q k0 k1 k2 k3 k4 k4 k4 k4 ?_ f2
            exact L2.out.drew
          refine last.take (i := 0) (oi := { dst := some 29, op := Op.fieldAddr 40 (Operand.tmp 7) 2, type := 0, pos := "l4_games.go:265", after := #[], guard := none }) (v := ?v0) rfl (by kernel_rfl) (by kernel_rfl) (by kernel_rfl) (by kernel_rfl) (by decide) (fun _ _ _ h => h) (Or.inl ⟨by rfl, ?y0⟩) hHeld ?r0
          case y0 => (intro w hSw; (try dsimp only at hSw); go_simp; try with_reducible rfl)
          try simp only [Act.put, List.setIfInBounds_toArray, List.set_cons_zero, List.set_cons_succ]
          refine last.take (i := 1) (oi := { dst := some 30, op := Op.load 34 (Operand.tmp 29), type := 34, pos := "l4_games.go:265", after := #[{ on := 0, ground := Ground.data }], guard := none }) (v := ?v1) rfl (by kernel_rfl) (by kernel_rfl) (by kernel_rfl) (by kernel_rfl) (by decide) (fun _ _ _ h => h) (Or.inl ⟨by rfl, ?y1⟩) hHeld ?r1
          case y1 => (intro w hSw; (try dsimp only at hSw); go_simp; try with_reducible rfl)
          try simp only [Act.put, List.setIfInBounds_toArray, List.set_cons_zero, List.set_cons_succ]
          refine last.take (i := 2) (oi := { dst := some 31, op := Op.load 40 (Operand.tmp 3), type := 40, pos := "l4_games.go:265", after := #[], guard := none }) (v := ?v2) rfl (by kernel_rfl) (by kernel_rfl) (by kernel_rfl) (by kernel_rfl) (by decide) (fun _ _ _ h => h) (Or.inl ⟨by rfl, ?y2⟩) hHeld ?r2
          case y2 => (intro w hSw; (try dsimp only at hSw); go_simp; try with_reducible rfl)
          try simp only [Act.put, List.setIfInBounds_toArray, List.set_cons_zero, List.set_cons_succ]
          refine last.take (i := 3) (oi := { dst := some 32, op := Op.move (Operand.tmp 9), type := 3, pos := "l4_games.go:265", after := #[], guard := none }) (v := ?v3) rfl (by kernel_rfl) (by kernel_rfl) (by kernel_rfl) (by kernel_rfl) (by decide) (fun _ _ _ h => h) (Or.inl ⟨by rfl, ?y3⟩) hHeld ?r3
          case y3 => (intro w hSw; (try dsimp only at hSw); go_simp; try with_reducible rfl)
          try simp only [Act.put, List.setIfInBounds_toArray, List.set_cons_zero, List.set_cons_succ]
          refine last.take (i := 4) (oi := { dst := some 33, op := Op.move (Operand.tmp 11), type := 3, pos := "l4_games.go:265", after := #[], guard := none }) (v := ?v4) rfl (by kernel_rfl) (by kernel_rfl) (by kernel_rfl) (by kernel_rfl) (by decide) (fun _ _ _ h => h) (Or.inl ⟨by rfl, ?y4⟩) hHeld ?r4
          case y4 => (intro w hSw; (try dsimp only at hSw); go_simp; try with_reducible rfl)
          try simp only [Act.put, List.setIfInBounds_toArray, List.set_cons_zero, List.set_cons_succ]
          refine last.one (i := 5) (o := { dst := some 34, op := Op.call { callee := Callee.value (Operand.func 83), args := #[Operand.tmp 31, Operand.tmp 32, Operand.tmp 33], argTypes := #[40, 3, 3] }, type := 3, pos := "l4_games.go:265", after := #[{ on := 2, ground := Ground.data }, { on := 3, ground := Ground.data }, { on := 4, ground := Ground.data }], guard := none }) (by kernel_rfl) rfl (fun K hK => ?_)
          go_simp
          (go_at_call 83; (with_reducible refine (HWT.out _ (below_dr BI.out)).mono ?_); rintro e wc ⟨rfl, hb⟩)
          try go_simp
          have hbw : Below wi.heap.size wi wc := below_tr (below_dr (Below.refl _ _)) hb
          have f2c := below_cell hbw _ _ f2
          have L4 := Lib.hid (step.Low.below (below_tr HAA.out.below hbw))
          have hsc2 : WB.heap.size ≤ wc.heap.size := (below_tr HAA.out.below hbw).size
          have f2a := fun (o1 : Obj) => below_cell (below_al (Below.refl _ _) o1) _ _ f2c
          have HG := Lib.hid (HAA.out.keep (below_al hbw (.cells #[.int .i64 n] 3)))
          refine hK.out _ _ ?s5 (fun hHeld => ?_)
          case s5 => (try dsimp only); (refine lows5q k0 k1 k2 k3 k4 k4 k4 k4 ?_ f2c; (repeat (first | exact L2.out | exact L3.out | exact L4.out | refine step.Low.drew ?_ | refine step.Low.alloc ?_ (by first | omega | (simp; omega)) _)))
          clear hK K
          try simp only [Act.put, List.setIfInBounds_toArray, List.set_cons_zero, List.set_cons_succ]
          refine last.one (i := 6) (o := { dst := some 35, op := Op.buildSlice 34 1 #[(0, Operand.tmp 34)], type := 34, pos := "l4_games.go:265", after := #[{ on := 5, ground := Ground.data }], guard := none }) (by kernel_rfl) rfl (fun K hK => ?_)
          go_simp
          refine hK.out _ _ ?s6 (fun hHeld => ?_)
          case s6 => (try dsimp only); (refine lows5q k0 k1 k2 k3 k4 k4 k4 k4 ?_ (f2a _); (repeat (first | exact L2.out | exact L3.out | exact L4.out | refine step.Low.drew ?_ | refine step.Low.alloc ?_ (by first | omega | (simp; omega)) _)))
          clear hK K
          try simp only [Act.put, List.setIfInBounds_toArray, List.set_cons_zero, List.set_cons_succ]
          refine last.one (i := 7) (o := { dst := some 36, op := Op.call { callee := Callee.builtin Builtin.append, args := #[Operand.tmp 30, Operand.tmp 35], argTypes := #[34, 34] }, type := 34, pos := "l4_games.go:265", after := #[{ on := 1, ground := Ground.data }, { on := 6, ground := Ground.data }, { on := 5, ground := Ground.chain }], guard := none }) (by kernel_rfl) rfl (fun K hK => ?_)
          refine step.own rfl (.tmp 30) (.tmp 35) 34 rfl 3 i0 (.int .i64 0) 1 8 Try.underlying34 hi hz0 hz1 hz2 rfl (by decide) (WB.heap.size + 1) _ (wts gy fs ss ws (a * ss.length + c)).length (i64s (wts gy fs ss ws (a * ss.length + c))) HG.out.own (by simp [Act.eval]) ⟨wc.heap.size, 0, none⟩ 1 1 [.int .i64 n] (by simp [Act.eval]) rfl (by intro j u hj; have := app.one_at wc (.int .i64 n) 3; exact this j u hj) (by intro u hu; simp at hu; subst hu; rfl) (by have := HK9.out; unfold maxLen; omega) (by have := HK9.out; omega) (by simp; have := HAA.out.blk.lt; have := hbw.size; omega) ?_
          intro v' w3 hown' hgrow
          obtain ⟨hW4, hB4⟩ := HG.out.grow hown' hgrow
          have W4 := Lib.hid hW4
          obtain ⟨s0, s1, s2, s3, s4⟩ := four_cells hB4
          rw [HZ.out] at s2
          have sf : ∀ k, w3.frozen? ⟨w.heap.size + 1 + 1 + 1 + 1, k, none⟩ = false := fun k => by rw [← HZ.out]; exact Joins.unfrozen_of_block hB4 k
          obtain ⟨ya, yl, yc, hvv⟩ := make.shape hown'
          subst hvv
          have L3 := Lib.hid (step.Low.grown (w := WB) (n := WB.heap.size) (step.Low.alloc L4.out hsc2 _) hgrow (by first | omega | (simp; omega)) (fun q hq => by have := (HG.out.own.lt q hq).1; omega))
          clear hW4 hB4 s0 s1 s3 s4
          refine hK.out _ _ ?s7 (fun hHeld => ?_)
          case s7 => (try dsimp only); (refine lows5q k0 k1 k2 k3 k4 k4 k4 k4 ?_ s2; (repeat (first | exact L2.out | exact L3.out | exact L4.out | refine step.Low.drew ?_ | refine step.Low.alloc ?_ (by first | omega | (simp; omega)) _)))
          clear hK K
          try simp only [Act.put, List.setIfInBounds_toArray, List.set_cons_zero, List.set_cons_succ]
          refine last.take (i := 8) (oi := { dst := some 37, op := Op.fieldAddr 40 (Operand.tmp 7) 2, type := 0, pos := "l4_games.go:265", after := #[{ on := 0, ground := Ground.phase }, { on := 1, ground := Ground.phase }, { on := 2, ground := Ground.phase }, { on := 3, ground := Ground.phase }, { on := 4, ground := Ground.phase }, { on := 5, ground := Ground.phase }, { on := 6, ground := Ground.phase }, { on := 7, ground := Ground.phase }], guard := none }) (v := ?v8) rfl (by kernel_rfl) (by kernel_rfl) (by kernel_rfl) (by kernel_rfl) (by decide) (fun _ _ _ h => h) (Or.inl ⟨by rfl, ?y8⟩) hHeld ?r8
          case y8 => (intro w hSw; (try dsimp only at hSw); go_simp; try with_reducible rfl)
          try simp only [Act.put, List.setIfInBounds_toArray, List.set_cons_zero, List.set_cons_succ]
          refine last.final (o := { dst := none, op := Op.store 34 (Operand.tmp 37) (Operand.tmp 36), type := 0, pos := "l4_games.go:265", after := #[{ on := 8, ground := Ground.data }, { on := 7, ground := Ground.data }, { on := 7, ground := Ground.chain }, { on := 0, ground := Ground.phase }, { on := 1, ground := Ground.phase }, { on := 2, ground := Ground.phase }, { on := 3, ground := Ground.phase }, { on := 4, ground := Ground.phase }, { on := 5, ground := Ground.phase }, { on := 6, ground := Ground.phase }, { on := 7, ground := Ground.phase }], guard := none }) (by kernel_rfl) rfl (fun K hK => ?_)
          go_simp
          refine hK.out _ _ ?_
          clear hK K
          try simp only [Act.put, List.setIfInBounds_toArray, List.set_cons_zero, List.set_cons_succ]
          refine last.done (by kernel_rfl) ?_ _
          rw [HZ.out, ← HNX.out] at W4
          clear hown' hgrow HG HAA L2 L3 L4 f0 f1 f2 f3 f4 f2c f2a s2 sf hb hbw e2 k0 k1 k2 k3 k4
          go_wp2_with fail
          go_roundw
          case rel => exact ⟨c + 1, by omega, by go_num, ⟨_, rfl⟩, _, W4⟩
          case measure => simp [intOf]; omega
        · have hkc : ¬ (c : Int) < (ss.length : Int) := by omega
          have hcy : a * ss.length + c = (a + 1) * ss.length := by rw [Nat.add_mul, Nat.one_mul]; omega
          rw [hcy] at hA
          go_wp2_with fail
          go_roundw
          case rel => exact ⟨a + 1, by omega, by go_num, ⟨_, rfl⟩, ⟨_, rfl⟩, _, hA⟩
          case measure => simp [intOf]; omega
    · have hkz : ¬ (a : Int) < (fs.length : Int) := by omega
      obtain rfl : a = fs.length := by omega
      obtain ⟨xa, xl, xc, rfl⟩ := make.shape hA.out.own
      obtain ⟨f0, f1, f2, f3, f4⟩ := four_cells hA.out.blk
      rw [HZ.out] at f0 f1 f2 f3
      have HMK := Lib.hid (make_anyR w.heap.size (w.heap.size + 1) (w.heap.size + 1 + 1) fs.length ss.length (N gy fs ss xss) wo hX3.2 hY3.2 (fun i j W hi hj hW =>
        clo w.heap.size (w.heap.size + 1) (w.heap.size + 1 + 1) gx gy _ ws _ xss _ _ fs ss i j W (K0.out.below (below_tr hA.out.below hW)) (below_cell (below_tr hA.out.below hW) _ _ K1.out) (below_cell (below_tr hA.out.below hW) _ _ K2.out)
          (H.out.below (below_tr (below_tr BB.out hA.out.below) hW)) (HF.out.below (below_tr (below_tr BB.out hA.out.below) hW)) (HS.out.below (below_tr (below_tr BB.out hA.out.below) hW)) HOK.out hi hj (HA.out.2.2.1 i hi) (HA.out.2.2.2 j hj)))
      have HOI := Lib.hid (app.ints_of_owns hA.out.own)
      go_wp2_with fail
      refine HMK.out.mono ?_
      rintro e w2 ⟨u', rfl, hu, hb⟩
      obtain ⟨ya, yl, yc, rfl⟩ := hu.rows.shape
      have hgz : WB.heap.size < wo.heap.size := hA.out.blk.lt
      have OW : Hid (game.OG w2 (WB.heap.size + 1) w2.heap.size (.slice xa xl xc) (wts gy fs ss ws (fs.length * ss.length)) (.slice ya yl yc) (make.rowsOf (N gy fs ss xss) (fs.length * ss.length))) := Lib.hid ⟨wo.heap.size, by omega, hb.size, .inl ⟨HOI.out.keep hb, hu⟩⟩
      have B2 := Lib.hid (below_tr (below_tr BB.out hA.out.below) hb)
      have hB2 := hA.out.blk.below hb
      have hR2 := R0.out.below (below_tr hA.out.below hb)
      obtain ⟨g0, g1, g2, g3, g4⟩ := four_cells hB2
      obtain ⟨r0, r1, r2, r3, r4⟩ := four_cells hR2
      have gf : ∀ k, w2.frozen? ⟨WB.heap.size, k, none⟩ = false := fun k => Joins.unfrozen_of_block hB2 k
      have rf : ∀ k, w2.frozen? ⟨w.heap.size + 1 + 1 + 1, k, none⟩ = false := fun k => Joins.unfrozen_of_block hR2 k
      rw [HZ.out] at g0 g1 g2 g3 gf
      have hHZ := HZ.out
      clear hu hb hB2 hR2 HMK HOI hA f0 f1 f2 f3 f4
      go_wp2_with fail
      refine bodyPost_ret (v := .agg #[.int .i64 (fs.length : Nat), .int .i64 (ss.length : Nat), .slice xa xl xc, .slice ya yl yc]) (by simp [results, Try.results79, go_sem, r0, r1, r2, r3]) rfl ?_
      refine ⟨_, _, rfl, ?_, ?_⟩
      · refine (OW.out.wrote (S := fun p => p.block < WB.heap.size + 1) ?_ (fun p hp => .inl hp)).mono (by omega) (by simp [World.setCell])
        repeat (first | exact Wrote.refl _ _ | refine Wrote.setCell ?_ (by first | omega | (simp; omega)) _)
      · repeat (first | (with_reducible exact B2.out) | refine Below.setCell ?_ (by simp <;> omega) _)


end Go.Proofs.Ytimfnhejiiagmaa.gask
