/- MixWirings of the program. -/
import Derived.Test.YtiigfhigmdjooaaMxw
import Derived.Test.YtiigfhigmdjooaaWirb
import Derived.Test.YtiigfhigmdjooaaMixb
import Derived.Test.YtiigfhigmdjooaaNam
import Derived.Deep.RegionHeld3
namespace Go.Proofs.Ytiigfhigmdjooaa.mxw
open Go.RowKit Go.Deep Go.Proofs.Ytiigfhigmdjooaa.base
open Go.Proofs.Ytiigfhigmdjooaa.rws (total)
open Go.Proofs.Ytiigfhigmdjooaa.rls (R3 Rls At)
open Go.Proofs.Ytiigfhigmdjooaa.rule (RV OR)
open Go.Proofs.Ytiigfhigmdjooaa.mix (set4 set4_same set4_wrote)

theorem held14 {B : Nat} {w w' : World} {p1 p2 p3 p4 p5 p6 p7 p8 p9 p10 p11 p12 p13 p14 : Addr} {u1 u2 u3 u4 u5 u6 u7 u8 u9 u10 u11 u12 u13 u14 : Value} (hB : B = w.heap.size) (h1 : w.cell? p1 = some u1) (h2 : w.cell? p2 = some u2) (h3 : w.cell? p3 = some u3) (h4 : w.cell? p4 = some u4) (h5 : w.cell? p5 = some u5) (h6 : w.cell? p6 = some u6) (h7 : w.cell? p7 = some u7) (h8 : w.cell? p8 = some u8) (h9 : w.cell? p9 = some u9) (h10 : w.cell? p10 = some u10) (h11 : w.cell? p11 = some u11) (h12 : w.cell? p12 = some u12) (h13 : w.cell? p13 = some u13) (h14 : w.cell? p14 = some u14) (hb : Below B w w') :
    w'.cell? p1 = some u1 ∧ w'.cell? p2 = some u2 ∧ w'.cell? p3 = some u3 ∧ w'.cell? p4 = some u4 ∧ w'.cell? p5 = some u5 ∧ w'.cell? p6 = some u6 ∧ w'.cell? p7 = some u7 ∧ w'.cell? p8 = some u8 ∧ w'.cell? p9 = some u9 ∧ w'.cell? p10 = some u10 ∧ w'.cell? p11 = some u11 ∧ w'.cell? p12 = some u12 ∧ w'.cell? p13 = some u13 ∧ w'.cell? p14 = some u14 ∧ Below B w w' := by
  subst hB
  exact ⟨below_cell hb _ _ h1, below_cell hb _ _ h2, below_cell hb _ _ h3, below_cell hb _ _ h4, below_cell hb _ _ h5, below_cell hb _ _ h6, below_cell hb _ _ h7, below_cell hb _ _ h8, below_cell hb _ _ h9, below_cell hb _ _ h10, below_cell hb _ _ h11, below_cell hb _ _ h12, below_cell hb _ _ h13, below_cell hb _ _ h14, hb⟩
/-- the mixture under way -/
structure Way (w3 W : World) (g : Nat) (s : make.Res) (r : Value) : Prop where
  below : Below w3.heap.size w3 W
  mix : Blk W g 28 #[.int .i64 s.x, .int .i64 s.y, .int .i64 s.wh, r]
  rows : ∃ Br Tr, OwnRows W Br Tr r s.rows ∧ w3.heap.size ≤ Br ∧ Tr ≤ W.heap.size ∧ (g < Br ∨ Tr ≤ g)
  hg : w3.heap.size ≤ g


set_option maxRecDepth 100000 in
set_option maxHeartbeats 4000000 in
theorem impl_bad (x y wh : Int) (v : Value) (xss : List (List Int)) (x' y' wh' : Int) (v' : Value) (yss : List (List Int)) (q : Value) (rs : List R3) (q' : Value) (ts : List R3) (w : World) (h : IRows w v xss) (h' : IRows w v' yss) (hq : Rls w q rs) (hq' : Rls w q' ts) (hne : ¬ (0 < rs.length ∧ rs.length = ts.length)) :
    Calls Try.prog 20 #[.agg #[.int .i64 x, .int .i64 y, .int .i64 wh, v], .agg #[.int .i64 x', .int .i64 y', .int .i64 wh', v'], q, q'] w fun e w' => ∃ r, e = .returned (.tuple #[.agg #[.int .i64 (res x y wh xss x' y' wh' yss rs ts).x, .int .i64 (res x y wh xss x' y' wh' yss rs ts).y, .int .i64 (res x y wh xss x' y' wh' yss rs ts).wh, r], .bool (res x y wh xss x' y' wh' yss rs ts).ok]) ∧ OwnRows w' w.heap.size w'.heap.size r (res x y wh xss x' y' wh' yss rs ts).rows ∧ Below w.heap.size w w' := by
  obtain ⟨va, vn, vc, rfl⟩ := h.shape
  obtain ⟨ua, un, uc, rfl⟩ := h'.shape
  obtain ⟨A1, b1, o1, c1, rfl, hcap1, hmax1, hA1, hc1⟩ := hq
  obtain ⟨A2, b2, o2, c2, rfl, hcap2, hmax2, hA2, hc2⟩ := hq'
  have B3 := below_al (below_al (below_al (Below.refl w.heap.size w) (.cells #[.int .i64 x, .int .i64 y, .int .i64 wh, .slice va vn vc] 28)) (.cells #[.int .i64 x', .int .i64 y', .int .i64 wh', .slice ua un uc] 28)) (.cells #[.int .i64 0, .int .i64 0, .int .i64 0, .slice none 0 0] 28)
  have P1 := ((Blk.new w 28 #[.int .i64 x, .int .i64 y, .int .i64 wh, .slice va vn vc]).alloc (.cells #[.int .i64 x', .int .i64 y', .int .i64 wh', .slice ua un uc] 28)).alloc (.cells #[.int .i64 0, .int .i64 0, .int .i64 0, .slice none 0 0] 28)
  have P2 : Blk (((w.alloc (.cells #[.int .i64 x, .int .i64 y, .int .i64 wh, .slice va vn vc] 28)).alloc (.cells #[.int .i64 x', .int .i64 y', .int .i64 wh', .slice ua un uc] 28)).alloc (.cells #[.int .i64 0, .int .i64 0, .int .i64 0, .slice none 0 0] 28)) (w.heap.size + 1) 28 #[.int .i64 x', .int .i64 y', .int .i64 wh', .slice ua un uc] := by have := (Blk.new (w.alloc (.cells #[.int .i64 x, .int .i64 y, .int .i64 wh, .slice va vn vc] 28)) 28 #[.int .i64 x', .int .i64 y', .int .i64 wh', .slice ua un uc]).alloc (.cells #[.int .i64 0, .int .i64 0, .int .i64 0, .slice none 0 0] 28); simpa using this
  have P3 : Blk (((w.alloc (.cells #[.int .i64 x, .int .i64 y, .int .i64 wh, .slice va vn vc] 28)).alloc (.cells #[.int .i64 x', .int .i64 y', .int .i64 wh', .slice ua un uc] 28)).alloc (.cells #[.int .i64 0, .int .i64 0, .int .i64 0, .slice none 0 0] 28)) (w.heap.size + 1 + 1) 28 #[.int .i64 0, .int .i64 0, .int .i64 0, .slice none 0 0] := by have := Blk.new ((w.alloc (.cells #[.int .i64 x, .int .i64 y, .int .i64 wh, .slice va vn vc] 28)).alloc (.cells #[.int .i64 x', .int .i64 y', .int .i64 wh', .slice ua un uc] 28)) 28 #[.int .i64 0, .int .i64 0, .int .i64 0, .slice none 0 0]; simpa using this
  have hz3 : (((w.alloc (.cells #[.int .i64 x, .int .i64 y, .int .i64 wh, .slice va vn vc] 28)).alloc (.cells #[.int .i64 x', .int .i64 y', .int .i64 wh', .slice ua un uc] 28)).alloc (.cells #[.int .i64 0, .int .i64 0, .int .i64 0, .slice none 0 0] 28)).heap.size = w.heap.size + 1 + 1 + 1 := by simp
  have HVA := Lib.hid (h.below B3)
  have HVB := Lib.hid (h'.below B3)
  have HC1 := Lib.hid (fun k hk => (hc1 k hk).below B3)
  have HC2 := Lib.hid (fun k hk => (hc2 k hk).below B3)
  have HA1 := Lib.hid hA1
  have HA2 := Lib.hid hA2
  obtain ⟨w3, hw3⟩ : ∃ w3, (((w.alloc (.cells #[.int .i64 x, .int .i64 y, .int .i64 wh, .slice va vn vc] 28)).alloc (.cells #[.int .i64 x', .int .i64 y', .int .i64 wh', .slice ua un uc] 28)).alloc (.cells #[.int .i64 0, .int .i64 0, .int .i64 0, .slice none 0 0] 28)) = w3 := ⟨_, rfl⟩
  rw [hw3] at B3 P1 P2 P3 HVA HVB HC1 HC2 hz3
  have BB := Lib.hid B3
  have HZ3 := Lib.hid hz3
  have HP1 := Lib.hid P1
  have HP2 := Lib.hid P2
  have HP3 := Lib.hid P3
  have hl1 : (rs.length : Int) ≤ 9223372036854775807 := by unfold maxLen at hmax1; omega
  clear h h' hc1 hc2 hA1 hA2 B3 P1 P2 P3 hz3 hcap1 hmax1 hcap2 hmax2
  have HR := Lib.hid (res_no (x := x) (y := y) (wh := wh) (xss := xss) (x' := x') (y' := y') (wh' := wh') (yss := yss) hne)
  obtain ⟨n, hn⟩ : ∃ n, rs.length = n := ⟨_, rfl⟩
  obtain ⟨m, hm⟩ : ∃ m, ts.length = m := ⟨_, rfl⟩
  rw [hn, hm] at hne
  rw [hn, hm]
  clear hn hm HA1 HA2 HC1 HC2
  obtain ⟨r0, r1, r2, r3, r4⟩ := four_cells HP3.out
  have rf : ∀ q, w3.frozen? ⟨w.heap.size + 1 + 1, q, none⟩ = false := fun q => Joins.unfrozen_of_block HP3.out q
  by_cases h0 : n = 0
  · subst h0
    clear hne
    go_enter Try.func20, Try.ntmps20
    go_wp2_with fail
    refine bodyPost_ret (v := .tuple #[.agg #[.int .i64 0, .int .i64 0, .int .i64 0, .slice none 0 0], .bool false]) (by simp [results, Try.results20, go_sem, r0, r1, r2, r3]) rfl ?_
    rw [HR.out]
    refine ⟨_, rfl, OwnRows.nil _ _ _, ?_⟩
    repeat (first | (with_reducible exact BB.out) | (with_reducible refine Below.setCell ?_ (by simp <;> omega) _))
  · have d0 : ((n : Int) == 0) = false := by simp; omega
    have d1 : ((n : Int) != (m : Int)) = true := by simp; omega
    have h1 : ¬ (n : Int) = 0 := by omega
    have h2 : ¬ (n : Int) = (m : Int) := by omega
    clear hne
    go_enter Try.func20, Try.ntmps20
    go_wp2_with fail
    refine bodyPost_ret (v := .tuple #[.agg #[.int .i64 0, .int .i64 0, .int .i64 0, .slice none 0 0], .bool false]) (by simp [results, Try.results20, go_sem, r0, r1, r2, r3]) rfl ?_
    rw [HR.out]
    refine ⟨_, rfl, OwnRows.nil _ _ _, ?_⟩
    repeat (first | (with_reducible exact BB.out) | (with_reducible refine Below.setCell ?_ (by simp <;> omega) _))
set_option maxRecDepth 100000 in
set_option maxHeartbeats 8000000 in
theorem impl_yes (x y wh : Int) (v : Value) (xss : List (List Int)) (x' y' wh' : Int) (v' : Value) (yss : List (List Int)) (q : Value) (rs : List R3) (q' : Value) (ts : List R3) (w : World) (h : IRows w v xss) (h' : IRows w v' yss) (hn : total xss ≤ 1048576) (hn' : total yss ≤ 1048576) (hq : Rls w q rs) (hq' : Rls w q' ts) (hne : 0 < rs.length ∧ rs.length = ts.length) :
    Calls Try.prog 20 #[.agg #[.int .i64 x, .int .i64 y, .int .i64 wh, v], .agg #[.int .i64 x', .int .i64 y', .int .i64 wh', v'], q, q'] w fun e w' => ∃ r, e = .returned (.tuple #[.agg #[.int .i64 (res x y wh xss x' y' wh' yss rs ts).x, .int .i64 (res x y wh xss x' y' wh' yss rs ts).y, .int .i64 (res x y wh xss x' y' wh' yss rs ts).wh, r], .bool (res x y wh xss x' y' wh' yss rs ts).ok]) ∧ OwnRows w' w.heap.size w'.heap.size r (res x y wh xss x' y' wh' yss rs ts).rows ∧ Below w.heap.size w w' := by
  obtain ⟨va, vn, vc, rfl⟩ := h.shape
  obtain ⟨ua, un, uc, rfl⟩ := h'.shape
  obtain ⟨A1, b1, o1, c1, rfl, hcap1, hmax1, hA1, hc1⟩ := hq
  obtain ⟨A2, b2, o2, c2, rfl, hcap2, hmax2, hA2, hc2⟩ := hq'
  have B3 := below_al (below_al (below_al (Below.refl w.heap.size w) (.cells #[.int .i64 x, .int .i64 y, .int .i64 wh, .slice va vn vc] 28)) (.cells #[.int .i64 x', .int .i64 y', .int .i64 wh', .slice ua un uc] 28)) (.cells #[.int .i64 0, .int .i64 0, .int .i64 0, .slice none 0 0] 28)
  have P1 := ((Blk.new w 28 #[.int .i64 x, .int .i64 y, .int .i64 wh, .slice va vn vc]).alloc (.cells #[.int .i64 x', .int .i64 y', .int .i64 wh', .slice ua un uc] 28)).alloc (.cells #[.int .i64 0, .int .i64 0, .int .i64 0, .slice none 0 0] 28)
  have P2 : Blk (((w.alloc (.cells #[.int .i64 x, .int .i64 y, .int .i64 wh, .slice va vn vc] 28)).alloc (.cells #[.int .i64 x', .int .i64 y', .int .i64 wh', .slice ua un uc] 28)).alloc (.cells #[.int .i64 0, .int .i64 0, .int .i64 0, .slice none 0 0] 28)) (w.heap.size + 1) 28 #[.int .i64 x', .int .i64 y', .int .i64 wh', .slice ua un uc] := by have := (Blk.new (w.alloc (.cells #[.int .i64 x, .int .i64 y, .int .i64 wh, .slice va vn vc] 28)) 28 #[.int .i64 x', .int .i64 y', .int .i64 wh', .slice ua un uc]).alloc (.cells #[.int .i64 0, .int .i64 0, .int .i64 0, .slice none 0 0] 28); simpa using this
  have P3 : Blk (((w.alloc (.cells #[.int .i64 x, .int .i64 y, .int .i64 wh, .slice va vn vc] 28)).alloc (.cells #[.int .i64 x', .int .i64 y', .int .i64 wh', .slice ua un uc] 28)).alloc (.cells #[.int .i64 0, .int .i64 0, .int .i64 0, .slice none 0 0] 28)) (w.heap.size + 1 + 1) 28 #[.int .i64 0, .int .i64 0, .int .i64 0, .slice none 0 0] := by have := Blk.new ((w.alloc (.cells #[.int .i64 x, .int .i64 y, .int .i64 wh, .slice va vn vc] 28)).alloc (.cells #[.int .i64 x', .int .i64 y', .int .i64 wh', .slice ua un uc] 28)) 28 #[.int .i64 0, .int .i64 0, .int .i64 0, .slice none 0 0]; simpa using this
  have hz3 : (((w.alloc (.cells #[.int .i64 x, .int .i64 y, .int .i64 wh, .slice va vn vc] 28)).alloc (.cells #[.int .i64 x', .int .i64 y', .int .i64 wh', .slice ua un uc] 28)).alloc (.cells #[.int .i64 0, .int .i64 0, .int .i64 0, .slice none 0 0] 28)).heap.size = w.heap.size + 1 + 1 + 1 := by simp
  have HVA := Lib.hid (h.below B3)
  have HVB := Lib.hid (h'.below B3)
  have HC1 := Lib.hid (fun k hk => (hc1 k hk).below B3)
  have HC2 := Lib.hid (fun k hk => (hc2 k hk).below B3)
  have HA1 := Lib.hid hA1
  have HA2 := Lib.hid hA2
  obtain ⟨w3, hw3⟩ : ∃ w3, (((w.alloc (.cells #[.int .i64 x, .int .i64 y, .int .i64 wh, .slice va vn vc] 28)).alloc (.cells #[.int .i64 x', .int .i64 y', .int .i64 wh', .slice ua un uc] 28)).alloc (.cells #[.int .i64 0, .int .i64 0, .int .i64 0, .slice none 0 0] 28)) = w3 := ⟨_, rfl⟩
  rw [hw3] at B3 P1 P2 P3 HVA HVB HC1 HC2 hz3
  have BB := Lib.hid B3
  have HZ3 := Lib.hid hz3
  have HP1 := Lib.hid P1
  have HP2 := Lib.hid P2
  have HP3 := Lib.hid P3
  have hl1 : (rs.length : Int) ≤ 9223372036854775807 := by unfold maxLen at hmax1; omega
  clear h h' hc1 hc2 hA1 hA2 B3 P1 P2 P3 hz3 hcap1 hmax1 hcap2 hmax2
  have HR := Lib.hid (res_yes (x := x) (y := y) (wh := wh) (xss := xss) (x' := x') (y' := y') (wh' := wh') (yss := yss) hne)
  have e1 := HA1.out hne.1
  have e2 := HA2.out (by omega)
  subst e1 e2
  have HWB := Lib.hid (fun (i : Nat) (h1 : i < rs.length) (h2 : i < ts.length) (W : World) (hb : Below w3.heap.size w3 W) (a0 : Value) (a1 : Value) (a2 : Value) (e0 : Value) (e1 : Value) (e2 : Value) (hr : RV W a0 rs[i].f a1 rs[i].k a2 rs[i].s) (hr' : RV W e0 ts[i].f e1 ts[i].k e2 ts[i].s) => (show Calls Try.prog 73 #[.agg #[.int .i64 x, .int .i64 y, .int .i64 wh, .slice va vn vc], .agg #[.int .i64 x', .int .i64 y', .int .i64 wh', .slice ua un uc], .agg #[a0, a1, a2], .agg #[e0, e1, e2]] W fun e w' => ∃ r, e = .returned (.tuple #[.agg #[.int .i64 (wi x y wh xss x' y' wh' yss rs ts (i)).x, .int .i64 (wi x y wh xss x' y' wh' yss rs ts (i)).y, .int .i64 (wi x y wh xss x' y' wh' yss rs ts (i)).wh, r], .bool (wi x y wh xss x' y' wh' yss rs ts (i)).ok]) ∧ OwnRows w' W.heap.size w'.heap.size r (wi x y wh xss x' y' wh' yss rs ts (i)).rows ∧ Below W.heap.size W w' from by
    have := wir.impl_any x y wh _ xss x' y' wh' _ yss _ _ _ _ _ _ _ _ _ _ _ _ W (HVA.out.below hb) (HVB.out.below hb) hn hn' hr hr'
    unfold wi
    rw [at_get h1, at_get h2]
    exact this))
  obtain ⟨n, hnl⟩ : ∃ n, rs.length = n := ⟨_, rfl⟩
  have hml : ts.length = n := by omega
  have HN := Lib.hid (And.intro hnl hml)
  have n0' : ¬ (n : Int) = 0 := by omega
  have d0 : ((n : Int) == 0) = false := by simp; omega
  have n1' : (0 : Int) < (n : Int) := by omega
  have n2' : 0 < n := by omega
  have HN0 : Hid (0 < n) := Lib.hid n2'
  rw [hnl] at hl1
  rw [hnl, hml]
  obtain ⟨a0, a1, a2, a3, a4, a5, a6, a7, a8, m0, m1, m2, hra⟩ := HC1.out 0 (by omega)
  obtain ⟨e0, e1, e2, e3, e4, e5, e6, e7, e8, n0, n1, n2, hre⟩ := HC2.out 0 (by omega)
  rw [show o1 + 0 * 3 = o1 from by omega] at m0 m1 m2
  rw [show o2 + 0 * 3 = o2 from by omega] at n0 n1 n2
  have HW := Lib.hid (fun (W : World) (hb : Below w3.heap.size w3 W) => HWB.out 0 (by omega) (by omega) W hb _ _ _ _ _ _ (hra.below hb) (hre.below hb))
  obtain ⟨p0, p1, p2, p3, p4⟩ := four_cells HP1.out
  obtain ⟨q0, q1, q2, q3, q4⟩ := four_cells HP2.out
  clear hra hre hne hnl hml hn hn' HA1 HA2
  go_enter Try.func20, Try.ntmps20
  go_wp2_with fail
  clear hw3
  go_region_held3 (fun w' => w'.cell? ⟨w.heap.size, 0, none⟩ = some (.int .i64 x) ∧ w'.cell? ⟨w.heap.size, 1, none⟩ = some (.int .i64 y) ∧ w'.cell? ⟨w.heap.size, 2, none⟩ = some (.int .i64 wh) ∧ w'.cell? ⟨w.heap.size, 3, none⟩ = some (.slice va vn vc) ∧ w'.cell? ⟨w.heap.size + 1, 0, none⟩ = some (.int .i64 x') ∧ w'.cell? ⟨w.heap.size + 1, 1, none⟩ = some (.int .i64 y') ∧ w'.cell? ⟨w.heap.size + 1, 2, none⟩ = some (.int .i64 wh') ∧ w'.cell? ⟨w.heap.size + 1, 3, none⟩ = some (.slice ua un uc) ∧ w'.cell? ⟨b1, o1, none⟩ = some (.slice a0 a1 a2) ∧ w'.cell? ⟨b1, o1 + 1, none⟩ = some (.slice a3 a4 a5) ∧ w'.cell? ⟨b1, o1 + 2, none⟩ = some (.slice a6 a7 a8) ∧ w'.cell? ⟨b2, o2, none⟩ = some (.slice e0 e1 e2) ∧ w'.cell? ⟨b2, o2 + 1, none⟩ = some (.slice e3 e4 e5) ∧ w'.cell? ⟨b2, o2 + 2, none⟩ = some (.slice e6 e7 e8) ∧ Below w3.heap.size w3 w')
    ((refine held14 rfl p0 p1 p2 p3 q0 q1 q2 q3 m0 m1 m2 n0 n1 n2 ?_; repeat (first | (with_reducible exact Below.refl _ _) | (with_reducible refine below_dr ?_) | (with_reducible refine below_al ?_ _) | (with_reducible exact E5.out) | (with_reducible refine Below.setCell ?_ (by first | (simp; done) | (simp; omega) | omega) _))))
    (first | (go_at_call 73; (with_reducible refine (HW.out _ ?_).mono ?_); (first | (with_reducible exact below_dr (Below.refl _ _)) | (with_reducible exact below_dr (below_al (Below.refl _ _) _))); rintro e w5 ⟨r5, rfl, h5, hb5⟩; obtain ⟨xa, xn, xc, rfl⟩ := h5.rows.shape; have z5 := hb5.size; have E5 := Lib.hid (by first | exact below_tr (below_dr (Below.refl w3.heap.size w3)) hb5 | exact below_tr (below_dr (below_al (Below.refl w3.heap.size w3) _)) hb5); have y5 := E5.out.size; try (have gB := (Blk.new w3 28 #[.int .i64 0, .int .i64 0, .int .i64 0, .slice none 0 0]).below (below_tr (below_dr (Below.refl _ _)) hb5); obtain ⟨t0, t1, t2, t3, t4⟩ := four_cells gB; have rf5 : ∀ q, w5.frozen? ⟨w3.heap.size, q, none⟩ = false := fun q => Joins.unfrozen_of_block gB q)))
  · skip
    have B7 := below_al E5.out (.cells #[.int .i64 (wi x y wh xss x' y' wh' yss rs ts 0).x, .int .i64 (wi x y wh xss x' y' wh' yss rs ts 0).y, .int .i64 (wi x y wh xss x' y' wh' yss rs ts 0).wh, .slice xa xn xc] 28)
    have G7 := Blk.new w5 28 #[.int .i64 (wi x y wh xss x' y' wh' yss rs ts 0).x, .int .i64 (wi x y wh xss x' y' wh' yss rs ts 0).y, .int .i64 (wi x y wh xss x' y' wh' yss rs ts 0).wh, .slice xa xn xc]
    have O7 := h5.keep (below_al (Below.refl _ _) (.cells #[.int .i64 (wi x y wh xss x' y' wh' yss rs ts 0).x, .int .i64 (wi x y wh xss x' y' wh' yss rs ts 0).y, .int .i64 (wi x y wh xss x' y' wh' yss rs ts 0).wh, .slice xa xn xc] 28))
    have g7 : w3.heap.size ≤ w5.heap.size := y5
    generalize (w5.alloc (.cells #[.int .i64 (wi x y wh xss x' y' wh' yss rs ts 0).x, .int .i64 (wi x y wh xss x' y' wh' yss rs ts 0).y, .int .i64 (wi x y wh xss x' y' wh' yss rs ts 0).wh, .slice xa xn xc] 28)) = W0 at *
    have sz7 : w5.heap.size ≤ W0.heap.size := by have := O7; have := G7.lt; omega
    have WAY : Hid (Way w3 W0 (w5.heap.size) (st x y wh xss x' y' wh' yss rs ts 0) (.slice xa xn xc)) := Lib.hid ⟨B7, G7, ⟨_, _, O7, by simp, sz7, .inr (Nat.le_refl _)⟩, g7⟩
    have HGG := Lib.hid g7
    clear h5 hb5 z5 E5 y5 B7 G7 O7 g7 sz7 p0 p1 p2 p3 p4 q0 q1 q2 q3 q4 m0 m1 m2 n0 n1 n2 HW
    obtain ⟨gg, hgg⟩ : ∃ gg, w5.heap.size = gg := ⟨_, rfl⟩
    rw [hgg] at WAY HGG
    try rw [hgg]
    clear hgg
    go_wp2_with fail
    go_loopw [11, 12, 13, 14] (fun okv pv z13 z14 wr => ∃ (p : Nat) (s : make.Res) (ra : Option Addr) (rn rc : Nat), 1 ≤ p ∧ p ≤ n ∧ pv = .int .i64 (p : Int) ∧ okv = .bool s.ok ∧ (∃ z, z13 = z) ∧ (∃ z, z14 = z) ∧ Hid (s = st x y wh xss x' y' wh' yss rs ts (p - 1)) ∧ Hid (Way w3 wr gg s (.slice ra rn rc))) (fun _ pv _ _ _ => n - (intOf pv).toNat)
    case atStart => exact ⟨1, _, xa, xn, xc, Nat.le_refl _, HN0.out, rfl, rfl, ⟨_, rfl⟩, ⟨_, rfl⟩, Lib.hid rfl, WAY⟩
    case round =>
      clear WAY
      obtain ⟨p, s, ra, rn, rc, hp1, hpn, rfl, rfl, ⟨z13, rfl⟩, ⟨z14, rfl⟩, hs, hW⟩ := hrel
      obtain ⟨wo, rfl⟩ : ∃ wo : World, wo = wr := ⟨_, rfl⟩
      by_cases hlt : p < n ∧ s.ok = true
      · obtain ⟨hlt, hok⟩ := hlt
        have hpz : (p : Int) < (n : Int) := by omega
        have HP := Lib.hid (And.intro hp1 hlt)
        have hr1 : p < rs.length := by have := HN.out.1; omega
        have hr2 : p < ts.length := by have := HN.out.2; omega
        obtain ⟨a0, a1, a2, a3, a4, a5, a6, a7, a8, m0, m1, m2, hra⟩ := (HC1.out p hr1).below hW.out.below
        obtain ⟨e0, e1, e2, e3, e4, e5, e6, e7, e8, n0, n1, n2, hre⟩ := (HC2.out p hr2).below hW.out.below
        have HW := Lib.hid (fun (W : World) (hb : Below wo.heap.size wo W) => HWB.out p hr1 hr2 W (below_tr hW.out.below hb) _ _ _ _ _ _ (hra.below hb) (hre.below hb))
        have HS1 : Hid (mx s (wi x y wh xss x' y' wh' yss rs ts p) = st x y wh xss x' y' wh' yss rs ts (p + 1 - 1)) := Lib.hid (by
          obtain ⟨j, rfl⟩ : ∃ j, p = j + 1 := ⟨p - 1, by omega⟩
          rw [hs.out]
          rfl)
        obtain ⟨p0, p1, p2, p3, p4⟩ := four_cells (HP1.out.below hW.out.below)
        obtain ⟨q0, q1, q2, q3, q4⟩ := four_cells (HP2.out.below hW.out.below)
        have HTOT : Hid (total s.rows ≤ 1048576) := Lib.hid (by rw [hs.out]; exact tot_st _)
        clear hra hre hs hr1 hr2
        go_wp2_with fail
        go_region_held3 (fun w' => w'.cell? ⟨w.heap.size, 0, none⟩ = some (.int .i64 x) ∧ w'.cell? ⟨w.heap.size, 1, none⟩ = some (.int .i64 y) ∧ w'.cell? ⟨w.heap.size, 2, none⟩ = some (.int .i64 wh) ∧ w'.cell? ⟨w.heap.size, 3, none⟩ = some (.slice va vn vc) ∧ w'.cell? ⟨w.heap.size + 1, 0, none⟩ = some (.int .i64 x') ∧ w'.cell? ⟨w.heap.size + 1, 1, none⟩ = some (.int .i64 y') ∧ w'.cell? ⟨w.heap.size + 1, 2, none⟩ = some (.int .i64 wh') ∧ w'.cell? ⟨w.heap.size + 1, 3, none⟩ = some (.slice ua un uc) ∧ w'.cell? ⟨b1, o1 + p * 3, none⟩ = some (.slice a0 a1 a2) ∧ w'.cell? ⟨b1, o1 + p * 3 + 1, none⟩ = some (.slice a3 a4 a5) ∧ w'.cell? ⟨b1, o1 + p * 3 + 2, none⟩ = some (.slice a6 a7 a8) ∧ w'.cell? ⟨b2, o2 + p * 3, none⟩ = some (.slice e0 e1 e2) ∧ w'.cell? ⟨b2, o2 + p * 3 + 1, none⟩ = some (.slice e3 e4 e5) ∧ w'.cell? ⟨b2, o2 + p * 3 + 2, none⟩ = some (.slice e6 e7 e8) ∧ Below wo.heap.size wo w')
          ((refine held14 rfl p0 p1 p2 p3 q0 q1 q2 q3 m0 m1 m2 n0 n1 n2 ?_; repeat (first | (with_reducible exact Below.refl _ _) | (with_reducible refine below_dr ?_) | (with_reducible refine below_al ?_ _) | (with_reducible exact E5.out) | (with_reducible refine Below.setCell ?_ (by first | (simp; done) | (simp; omega) | omega) _))))
          (first | (go_at_call 73; (with_reducible refine (HW.out _ ?_).mono ?_); (first | (with_reducible exact below_dr (Below.refl _ _)) | (with_reducible exact below_dr (below_al (Below.refl _ _) _))); rintro e w5 ⟨r5, rfl, h5, hb5⟩; obtain ⟨xa, xn, xc, rfl⟩ := h5.rows.shape; have z5 := hb5.size; have E5 := Lib.hid (by first | exact below_tr (below_dr (Below.refl wo.heap.size wo)) hb5 | exact below_tr (below_dr (below_al (Below.refl wo.heap.size wo) _)) hb5); have y5 := E5.out.size; try (have gB := (Blk.new wo 28 #[.int .i64 0, .int .i64 0, .int .i64 0, .slice none 0 0]).below (below_tr (below_dr (Below.refl _ _)) hb5); obtain ⟨t0, t1, t2, t3, t4⟩ := four_cells gB; have rf5 : ∀ q, w5.frozen? ⟨wo.heap.size, q, none⟩ = false := fun q => Joins.unfrozen_of_block gB q)))
        · skip
          have B7 := below_al E5.out (.cells #[.int .i64 (wi x y wh xss x' y' wh' yss rs ts p).x, .int .i64 (wi x y wh xss x' y' wh' yss rs ts p).y, .int .i64 (wi x y wh xss x' y' wh' yss rs ts p).wh, .slice xa xn xc] 28)
          have G7 := Blk.new w5 28 #[.int .i64 (wi x y wh xss x' y' wh' yss rs ts p).x, .int .i64 (wi x y wh xss x' y' wh' yss rs ts p).y, .int .i64 (wi x y wh xss x' y' wh' yss rs ts p).wh, .slice xa xn xc]
          have O7 := h5.keep (below_al (Below.refl _ _) (.cells #[.int .i64 (wi x y wh xss x' y' wh' yss rs ts p).x, .int .i64 (wi x y wh xss x' y' wh' yss rs ts p).y, .int .i64 (wi x y wh xss x' y' wh' yss rs ts p).wh, .slice xa xn xc] 28))
          have g7 : wo.heap.size ≤ w5.heap.size := y5
          generalize (w5.alloc (.cells #[.int .i64 (wi x y wh xss x' y' wh' yss rs ts p).x, .int .i64 (wi x y wh xss x' y' wh' yss rs ts p).y, .int .i64 (wi x y wh xss x' y' wh' yss rs ts p).wh, .slice xa xn xc] 28)) = W7 at *
          obtain ⟨Br, Tr, hR, hr1, hr2, hr3⟩ := hW.out.rows
          have hgw := hW.out.mix.lt
          have WR : Hid (OwnRows W7 Br Tr (.slice ra rn rc) s.rows) := Lib.hid (hR.keep B7)
          have WM := Lib.hid (hW.out.mix.below B7)
          have WB := Lib.hid (below_tr hW.out.below B7)
          have HM := Lib.hid (mix.impl_any s.x s.y s.wh _ s.rows (wi x y wh xss x' y' wh' yss rs ts p).x (wi x y wh xss x' y' wh' yss rs ts p).y (wi x y wh xss x' y' wh' yss rs ts p).wh _ (wi x y wh xss x' y' wh' yss rs ts p).rows W7 WR.out.rows O7.rows (HTOT.out) (tot_wi p))
          obtain ⟨c0, c1, c2, c3, c4⟩ := four_cells WM.out
          obtain ⟨d0, d1, d2, d3, d4⟩ := four_cells G7
          have HGW := Lib.hid hW.out.hg
          clear h5 hb5 z5 E5 y5 B7 G7 O7 g7 p0 p1 p2 p3 p4 q0 q1 q2 q3 q4 m0 m1 m2 n0 n1 n2 HW hR hr1 hr2 hr3 hW WR
          go_wp2_with fail
          refine HM.out.mono ?_
          rintro e w8 ⟨r8, rfl, h8, hb8⟩
          obtain ⟨ya, yn, yc, rfl⟩ := h8.rows.shape
          have M8 := WM.out.below hb8
          have rf : ∀ q, w8.frozen? ⟨gg, q, none⟩ = false := fun q => Joins.unfrozen_of_block M8 q
          obtain ⟨c0, c1, c2, c3, c4⟩ := four_cells M8
          have hg7 : gg < W7.heap.size := WM.out.lt
          have WS : Hid (Way w3 (set4 w8 gg (.int .i64 (mx s (wi x y wh xss x' y' wh' yss rs ts p)).x) (.int .i64 (mx s (wi x y wh xss x' y' wh' yss rs ts p)).y) (.int .i64 (mx s (wi x y wh xss x' y' wh' yss rs ts p)).wh) (.slice ya yn yc)) gg (mx s (wi x y wh xss x' y' wh' yss rs ts p)) (.slice ya yn yc)) := Lib.hid (by
            have hw := set4_wrote w8 gg (.int .i64 (mx s (wi x y wh xss x' y' wh' yss rs ts p)).x) (.int .i64 (mx s (wi x y wh xss x' y' wh' yss rs ts p)).y) (.int .i64 (mx s (wi x y wh xss x' y' wh' yss rs ts p)).wh) (.slice ya yn yc)
            have hgw := HGW.out
            refine ⟨?_, set4_same _ _ _ _ M8, ⟨_, _, h8.wrote hw (fun p hp => .inl (by have e : p.block = gg := hp; omega)), by have := WB.out.size; omega, by rw [hw.size]; exact Nat.le_refl _, .inl hg7⟩, hgw⟩
            unfold set4
            exact Below.setCell (Below.setCell (Below.setCell (Below.setCell (below_tr WB.out hb8) hgw _) hgw _) hgw _) hgw _)
          clear h8 hb8 M8 HM d0 d1 d2 d3 d4
          go_wp2_with fail
          go_roundw
          case rel => exact ⟨p + 1, _, ya, yn, yc, by omega, by have := HP.out; omega, by go_num, rfl, ⟨_, rfl⟩, ⟨_, rfl⟩, HS1, WS⟩
          case measure => have := HP.out; simp [intOf]; omega
        · skip
          have hw7 := set4_wrote w5 wo.heap.size (.int .i64 (wi x y wh xss x' y' wh' yss rs ts p).x) (.int .i64 (wi x y wh xss x' y' wh' yss rs ts p).y) (.int .i64 (wi x y wh xss x' y' wh' yss rs ts p).wh) (.slice xa xn xc)
          have B7 : Below wo.heap.size wo ((((w5.setCell ⟨wo.heap.size, 0, none⟩ (.int .i64 (wi x y wh xss x' y' wh' yss rs ts p).x)).setCell ⟨wo.heap.size, 1, none⟩ (.int .i64 (wi x y wh xss x' y' wh' yss rs ts p).y)).setCell ⟨wo.heap.size, 2, none⟩ (.int .i64 (wi x y wh xss x' y' wh' yss rs ts p).wh)).setCell ⟨wo.heap.size, 3, none⟩ (.slice xa xn xc)) := Below.setCell (Below.setCell (Below.setCell (Below.setCell E5.out (Nat.le_refl _) _) (Nat.le_refl _) _) (Nat.le_refl _) _) (Nat.le_refl _) _
          have G7 : Blk ((((w5.setCell ⟨wo.heap.size, 0, none⟩ (.int .i64 (wi x y wh xss x' y' wh' yss rs ts p).x)).setCell ⟨wo.heap.size, 1, none⟩ (.int .i64 (wi x y wh xss x' y' wh' yss rs ts p).y)).setCell ⟨wo.heap.size, 2, none⟩ (.int .i64 (wi x y wh xss x' y' wh' yss rs ts p).wh)).setCell ⟨wo.heap.size, 3, none⟩ (.slice xa xn xc)) wo.heap.size 28 #[.int .i64 (wi x y wh xss x' y' wh' yss rs ts p).x, .int .i64 (wi x y wh xss x' y' wh' yss rs ts p).y, .int .i64 (wi x y wh xss x' y' wh' yss rs ts p).wh, .slice xa xn xc] := set4_same (.int .i64 (wi x y wh xss x' y' wh' yss rs ts p).x) (.int .i64 (wi x y wh xss x' y' wh' yss rs ts p).y) (.int .i64 (wi x y wh xss x' y' wh' yss rs ts p).wh) (.slice xa xn xc) gB
          have O7 : OwnRows ((((w5.setCell ⟨wo.heap.size, 0, none⟩ (.int .i64 (wi x y wh xss x' y' wh' yss rs ts p).x)).setCell ⟨wo.heap.size, 1, none⟩ (.int .i64 (wi x y wh xss x' y' wh' yss rs ts p).y)).setCell ⟨wo.heap.size, 2, none⟩ (.int .i64 (wi x y wh xss x' y' wh' yss rs ts p).wh)).setCell ⟨wo.heap.size, 3, none⟩ (.slice xa xn xc)) (wo.heap.size + 1) w5.heap.size (.slice xa xn xc) (wi x y wh xss x' y' wh' yss rs ts p).rows := (h5.mono (by simp) (Nat.le_refl _)).wrote hw7 (fun p hp => .inl (by have e : p.block = wo.heap.size := hp; omega))
          have g7 : wo.heap.size ≤ wo.heap.size := Nat.le_refl _
          clear hw7 gB rf5 t0 t1 t2 t3 t4
          have hsz : w5.heap.size ≤ ((((w5.setCell ⟨wo.heap.size, 0, none⟩ (.int .i64 (wi x y wh xss x' y' wh' yss rs ts p).x)).setCell ⟨wo.heap.size, 1, none⟩ (.int .i64 (wi x y wh xss x' y' wh' yss rs ts p).y)).setCell ⟨wo.heap.size, 2, none⟩ (.int .i64 (wi x y wh xss x' y' wh' yss rs ts p).wh)).setCell ⟨wo.heap.size, 3, none⟩ (.slice xa xn xc)).heap.size := by simp [World.setCell]
          generalize ((((w5.setCell ⟨wo.heap.size, 0, none⟩ (.int .i64 (wi x y wh xss x' y' wh' yss rs ts p).x)).setCell ⟨wo.heap.size, 1, none⟩ (.int .i64 (wi x y wh xss x' y' wh' yss rs ts p).y)).setCell ⟨wo.heap.size, 2, none⟩ (.int .i64 (wi x y wh xss x' y' wh' yss rs ts p).wh)).setCell ⟨wo.heap.size, 3, none⟩ (.slice xa xn xc)) = W7 at *
          obtain ⟨Br, Tr, hR, hr1, hr2, hr3⟩ := hW.out.rows
          have hgw := hW.out.mix.lt
          have WR : Hid (OwnRows W7 Br Tr (.slice ra rn rc) s.rows) := Lib.hid (hR.keep B7)
          have WM := Lib.hid (hW.out.mix.below B7)
          have WB := Lib.hid (below_tr hW.out.below B7)
          have HM := Lib.hid (mix.impl_any s.x s.y s.wh _ s.rows (wi x y wh xss x' y' wh' yss rs ts p).x (wi x y wh xss x' y' wh' yss rs ts p).y (wi x y wh xss x' y' wh' yss rs ts p).wh _ (wi x y wh xss x' y' wh' yss rs ts p).rows W7 WR.out.rows O7.rows (HTOT.out) (tot_wi p))
          obtain ⟨c0, c1, c2, c3, c4⟩ := four_cells WM.out
          obtain ⟨d0, d1, d2, d3, d4⟩ := four_cells G7
          have HGW := Lib.hid hW.out.hg
          clear h5 hb5 z5 E5 y5 B7 G7 O7 g7 p0 p1 p2 p3 p4 q0 q1 q2 q3 q4 m0 m1 m2 n0 n1 n2 HW hR hr1 hr2 hr3 hW WR
          go_wp2_with fail
          refine HM.out.mono ?_
          rintro e w8 ⟨r8, rfl, h8, hb8⟩
          obtain ⟨ya, yn, yc, rfl⟩ := h8.rows.shape
          have M8 := WM.out.below hb8
          have rf : ∀ q, w8.frozen? ⟨gg, q, none⟩ = false := fun q => Joins.unfrozen_of_block M8 q
          obtain ⟨c0, c1, c2, c3, c4⟩ := four_cells M8
          have hg7 : gg < W7.heap.size := WM.out.lt
          have WS : Hid (Way w3 (set4 w8 gg (.int .i64 (mx s (wi x y wh xss x' y' wh' yss rs ts p)).x) (.int .i64 (mx s (wi x y wh xss x' y' wh' yss rs ts p)).y) (.int .i64 (mx s (wi x y wh xss x' y' wh' yss rs ts p)).wh) (.slice ya yn yc)) gg (mx s (wi x y wh xss x' y' wh' yss rs ts p)) (.slice ya yn yc)) := Lib.hid (by
            have hw := set4_wrote w8 gg (.int .i64 (mx s (wi x y wh xss x' y' wh' yss rs ts p)).x) (.int .i64 (mx s (wi x y wh xss x' y' wh' yss rs ts p)).y) (.int .i64 (mx s (wi x y wh xss x' y' wh' yss rs ts p)).wh) (.slice ya yn yc)
            have hgw := HGW.out
            refine ⟨?_, set4_same _ _ _ _ M8, ⟨_, _, h8.wrote hw (fun p hp => .inl (by have e : p.block = gg := hp; omega)), by have := WB.out.size; omega, by rw [hw.size]; exact Nat.le_refl _, .inl hg7⟩, hgw⟩
            unfold set4
            exact Below.setCell (Below.setCell (Below.setCell (Below.setCell (below_tr WB.out hb8) hgw _) hgw _) hgw _) hgw _)
          clear h8 hb8 M8 HM d0 d1 d2 d3 d4
          go_wp2_with fail
          go_roundw
          case rel => exact ⟨p + 1, _, ya, yn, yc, by omega, by have := HP.out; omega, by go_num, rfl, ⟨_, rfl⟩, ⟨_, rfl⟩, HS1, WS⟩
          case measure => have := HP.out; simp [intOf]; omega
      · have HE : Hid (res x y wh xss x' y' wh' yss rs ts = s) := Lib.hid (by
          rw [HR.out, hs.out]
          have hl := HN.out.1
          by_cases hq : p < n
          · have hz : s = make.Res.zero := by
              rcases st_ok (x := x) (y := y) (wh := wh) (xss := xss) (x' := x') (y' := y') (wh' := wh') (yss := yss) (rs := rs) (ts := ts) (p - 1) with hz | hz
              · rw [hs.out]; exact hz
              · exact absurd ⟨hq, by rw [hs.out]; exact hz⟩ hlt
            rw [← hs.out, hz]
            exact st_stop' (i := p - 1) (hs.out ▸ hz) (by omega)
          · rw [show rs.length - 1 = p - 1 from by omega])
        have HX : Hid ((s.ok = false) ∨ (s.ok = true ∧ p = n)) := Lib.hid (by
          cases hk : s.ok with
          | false => exact .inl rfl
          | true => exact .inr ⟨rfl, by rcases Nat.lt_or_ge p n with h | h; exact absurd ⟨h, hk⟩ hlt; omega⟩)
        have HRS := Lib.hid (HP3.out.below hW.out.below)
        have HGZ := Lib.hid (HZ3.out)
        have HWW := hW
        obtain ⟨c0, c1, c2, c3, c4⟩ := four_cells hW.out.mix
        obtain ⟨r0, r1, r2, r3, r4⟩ := four_cells HRS.out
        have rf : ∀ q, wo.frozen? ⟨w.heap.size + 1 + 1, q, none⟩ = false := fun q => Joins.unfrozen_of_block HRS.out q
        clear hs hlt hW
        rcases HX.out with hk | ⟨hk, rfl⟩
        all_goals
          rw [hk]
          have HK := Lib.hid hk
          clear hk
          go_wp2_with fail
          refine bodyPost_ret (v := .tuple #[.agg #[.int .i64 s.x, .int .i64 s.y, .int .i64 s.wh, .slice ra rn rc], .bool s.ok]) (by simp [results, Try.results20, go_sem, r0, r1, r2, r3, HK.out]) rfl ?_
          rw [HE.out]
          have hz := HGZ.out
          obtain ⟨Br, Tr, hR, hr1, hr2, hr3⟩ := HWW.out.rows
          refine ⟨_, rfl, ?_, ?_⟩
          · refine (hR.wrote (S := fun p => p.block < w3.heap.size) ?_ (fun p hp => .inl (by have e : p.block < w3.heap.size := hp; omega))).mono (by omega) (by simp [World.setCell]; omega)
            repeat (first | exact Wrote.refl _ _ | refine Wrote.setCell ?_ (by simp; omega) _)
          · repeat (first | (with_reducible exact below_tr BB.out HWW.out.below) | (with_reducible refine Below.setCell ?_ (by simp <;> omega) _))
  · skip
    have hw7 := set4_wrote w5 w3.heap.size (.int .i64 (wi x y wh xss x' y' wh' yss rs ts 0).x) (.int .i64 (wi x y wh xss x' y' wh' yss rs ts 0).y) (.int .i64 (wi x y wh xss x' y' wh' yss rs ts 0).wh) (.slice xa xn xc)
    have B7 : Below w3.heap.size w3 ((((w5.setCell ⟨w3.heap.size, 0, none⟩ (.int .i64 (wi x y wh xss x' y' wh' yss rs ts 0).x)).setCell ⟨w3.heap.size, 1, none⟩ (.int .i64 (wi x y wh xss x' y' wh' yss rs ts 0).y)).setCell ⟨w3.heap.size, 2, none⟩ (.int .i64 (wi x y wh xss x' y' wh' yss rs ts 0).wh)).setCell ⟨w3.heap.size, 3, none⟩ (.slice xa xn xc)) := Below.setCell (Below.setCell (Below.setCell (Below.setCell E5.out (Nat.le_refl _) _) (Nat.le_refl _) _) (Nat.le_refl _) _) (Nat.le_refl _) _
    have G7 : Blk ((((w5.setCell ⟨w3.heap.size, 0, none⟩ (.int .i64 (wi x y wh xss x' y' wh' yss rs ts 0).x)).setCell ⟨w3.heap.size, 1, none⟩ (.int .i64 (wi x y wh xss x' y' wh' yss rs ts 0).y)).setCell ⟨w3.heap.size, 2, none⟩ (.int .i64 (wi x y wh xss x' y' wh' yss rs ts 0).wh)).setCell ⟨w3.heap.size, 3, none⟩ (.slice xa xn xc)) w3.heap.size 28 #[.int .i64 (wi x y wh xss x' y' wh' yss rs ts 0).x, .int .i64 (wi x y wh xss x' y' wh' yss rs ts 0).y, .int .i64 (wi x y wh xss x' y' wh' yss rs ts 0).wh, .slice xa xn xc] := set4_same (.int .i64 (wi x y wh xss x' y' wh' yss rs ts 0).x) (.int .i64 (wi x y wh xss x' y' wh' yss rs ts 0).y) (.int .i64 (wi x y wh xss x' y' wh' yss rs ts 0).wh) (.slice xa xn xc) gB
    have O7 : OwnRows ((((w5.setCell ⟨w3.heap.size, 0, none⟩ (.int .i64 (wi x y wh xss x' y' wh' yss rs ts 0).x)).setCell ⟨w3.heap.size, 1, none⟩ (.int .i64 (wi x y wh xss x' y' wh' yss rs ts 0).y)).setCell ⟨w3.heap.size, 2, none⟩ (.int .i64 (wi x y wh xss x' y' wh' yss rs ts 0).wh)).setCell ⟨w3.heap.size, 3, none⟩ (.slice xa xn xc)) (w3.heap.size + 1) w5.heap.size (.slice xa xn xc) (wi x y wh xss x' y' wh' yss rs ts 0).rows := (h5.mono (by simp) (Nat.le_refl _)).wrote hw7 (fun p hp => .inl (by have e : p.block = w3.heap.size := hp; omega))
    have g7 : w3.heap.size ≤ w3.heap.size := Nat.le_refl _
    clear hw7 gB rf5 t0 t1 t2 t3 t4
    have hsz : w5.heap.size ≤ ((((w5.setCell ⟨w3.heap.size, 0, none⟩ (.int .i64 (wi x y wh xss x' y' wh' yss rs ts 0).x)).setCell ⟨w3.heap.size, 1, none⟩ (.int .i64 (wi x y wh xss x' y' wh' yss rs ts 0).y)).setCell ⟨w3.heap.size, 2, none⟩ (.int .i64 (wi x y wh xss x' y' wh' yss rs ts 0).wh)).setCell ⟨w3.heap.size, 3, none⟩ (.slice xa xn xc)).heap.size := by simp [World.setCell]
    generalize ((((w5.setCell ⟨w3.heap.size, 0, none⟩ (.int .i64 (wi x y wh xss x' y' wh' yss rs ts 0).x)).setCell ⟨w3.heap.size, 1, none⟩ (.int .i64 (wi x y wh xss x' y' wh' yss rs ts 0).y)).setCell ⟨w3.heap.size, 2, none⟩ (.int .i64 (wi x y wh xss x' y' wh' yss rs ts 0).wh)).setCell ⟨w3.heap.size, 3, none⟩ (.slice xa xn xc)) = W0 at *
    have sz7 : w5.heap.size ≤ W0.heap.size := by have := O7; exact hsz
    have WAY : Hid (Way w3 W0 (w3.heap.size) (st x y wh xss x' y' wh' yss rs ts 0) (.slice xa xn xc)) := Lib.hid ⟨B7, G7, ⟨_, _, O7, by omega, sz7, .inl (by omega)⟩, g7⟩
    have HGG := Lib.hid g7
    clear h5 hb5 z5 E5 y5 B7 G7 O7 g7 sz7 p0 p1 p2 p3 p4 q0 q1 q2 q3 q4 m0 m1 m2 n0 n1 n2 HW
    obtain ⟨gg, hgg⟩ : ∃ gg, w3.heap.size = gg := ⟨_, rfl⟩
    rw [hgg] at WAY HGG
    try rw [hgg]
    clear hgg
    go_wp2_with fail
    go_loopw [11, 12, 13, 14] (fun okv pv z13 z14 wr => ∃ (p : Nat) (s : make.Res) (ra : Option Addr) (rn rc : Nat), 1 ≤ p ∧ p ≤ n ∧ pv = .int .i64 (p : Int) ∧ okv = .bool s.ok ∧ (∃ z, z13 = z) ∧ (∃ z, z14 = z) ∧ Hid (s = st x y wh xss x' y' wh' yss rs ts (p - 1)) ∧ Hid (Way w3 wr gg s (.slice ra rn rc))) (fun _ pv _ _ _ => n - (intOf pv).toNat)
    case atStart => exact ⟨1, _, xa, xn, xc, Nat.le_refl _, HN0.out, rfl, rfl, ⟨_, rfl⟩, ⟨_, rfl⟩, Lib.hid rfl, WAY⟩
    case round =>
      clear WAY
      obtain ⟨p, s, ra, rn, rc, hp1, hpn, rfl, rfl, ⟨z13, rfl⟩, ⟨z14, rfl⟩, hs, hW⟩ := hrel
      obtain ⟨wo, rfl⟩ : ∃ wo : World, wo = wr := ⟨_, rfl⟩
      by_cases hlt : p < n ∧ s.ok = true
      · obtain ⟨hlt, hok⟩ := hlt
        have hpz : (p : Int) < (n : Int) := by omega
        have HP := Lib.hid (And.intro hp1 hlt)
        have hr1 : p < rs.length := by have := HN.out.1; omega
        have hr2 : p < ts.length := by have := HN.out.2; omega
        obtain ⟨a0, a1, a2, a3, a4, a5, a6, a7, a8, m0, m1, m2, hra⟩ := (HC1.out p hr1).below hW.out.below
        obtain ⟨e0, e1, e2, e3, e4, e5, e6, e7, e8, n0, n1, n2, hre⟩ := (HC2.out p hr2).below hW.out.below
        have HW := Lib.hid (fun (W : World) (hb : Below wo.heap.size wo W) => HWB.out p hr1 hr2 W (below_tr hW.out.below hb) _ _ _ _ _ _ (hra.below hb) (hre.below hb))
        have HS1 : Hid (mx s (wi x y wh xss x' y' wh' yss rs ts p) = st x y wh xss x' y' wh' yss rs ts (p + 1 - 1)) := Lib.hid (by
          obtain ⟨j, rfl⟩ : ∃ j, p = j + 1 := ⟨p - 1, by omega⟩
          rw [hs.out]
          rfl)
        obtain ⟨p0, p1, p2, p3, p4⟩ := four_cells (HP1.out.below hW.out.below)
        obtain ⟨q0, q1, q2, q3, q4⟩ := four_cells (HP2.out.below hW.out.below)
        have HTOT : Hid (total s.rows ≤ 1048576) := Lib.hid (by rw [hs.out]; exact tot_st _)
        clear hra hre hs hr1 hr2
        go_wp2_with fail
        go_region_held3 (fun w' => w'.cell? ⟨w.heap.size, 0, none⟩ = some (.int .i64 x) ∧ w'.cell? ⟨w.heap.size, 1, none⟩ = some (.int .i64 y) ∧ w'.cell? ⟨w.heap.size, 2, none⟩ = some (.int .i64 wh) ∧ w'.cell? ⟨w.heap.size, 3, none⟩ = some (.slice va vn vc) ∧ w'.cell? ⟨w.heap.size + 1, 0, none⟩ = some (.int .i64 x') ∧ w'.cell? ⟨w.heap.size + 1, 1, none⟩ = some (.int .i64 y') ∧ w'.cell? ⟨w.heap.size + 1, 2, none⟩ = some (.int .i64 wh') ∧ w'.cell? ⟨w.heap.size + 1, 3, none⟩ = some (.slice ua un uc) ∧ w'.cell? ⟨b1, o1 + p * 3, none⟩ = some (.slice a0 a1 a2) ∧ w'.cell? ⟨b1, o1 + p * 3 + 1, none⟩ = some (.slice a3 a4 a5) ∧ w'.cell? ⟨b1, o1 + p * 3 + 2, none⟩ = some (.slice a6 a7 a8) ∧ w'.cell? ⟨b2, o2 + p * 3, none⟩ = some (.slice e0 e1 e2) ∧ w'.cell? ⟨b2, o2 + p * 3 + 1, none⟩ = some (.slice e3 e4 e5) ∧ w'.cell? ⟨b2, o2 + p * 3 + 2, none⟩ = some (.slice e6 e7 e8) ∧ Below wo.heap.size wo w')
          ((refine held14 rfl p0 p1 p2 p3 q0 q1 q2 q3 m0 m1 m2 n0 n1 n2 ?_; repeat (first | (with_reducible exact Below.refl _ _) | (with_reducible refine below_dr ?_) | (with_reducible refine below_al ?_ _) | (with_reducible exact E5.out) | (with_reducible refine Below.setCell ?_ (by first | (simp; done) | (simp; omega) | omega) _))))
          (first | (go_at_call 73; (with_reducible refine (HW.out _ ?_).mono ?_); (first | (with_reducible exact below_dr (Below.refl _ _)) | (with_reducible exact below_dr (below_al (Below.refl _ _) _))); rintro e w5 ⟨r5, rfl, h5, hb5⟩; obtain ⟨xa, xn, xc, rfl⟩ := h5.rows.shape; have z5 := hb5.size; have E5 := Lib.hid (by first | exact below_tr (below_dr (Below.refl wo.heap.size wo)) hb5 | exact below_tr (below_dr (below_al (Below.refl wo.heap.size wo) _)) hb5); have y5 := E5.out.size; try (have gB := (Blk.new wo 28 #[.int .i64 0, .int .i64 0, .int .i64 0, .slice none 0 0]).below (below_tr (below_dr (Below.refl _ _)) hb5); obtain ⟨t0, t1, t2, t3, t4⟩ := four_cells gB; have rf5 : ∀ q, w5.frozen? ⟨wo.heap.size, q, none⟩ = false := fun q => Joins.unfrozen_of_block gB q)))
        · skip
          have B7 := below_al E5.out (.cells #[.int .i64 (wi x y wh xss x' y' wh' yss rs ts p).x, .int .i64 (wi x y wh xss x' y' wh' yss rs ts p).y, .int .i64 (wi x y wh xss x' y' wh' yss rs ts p).wh, .slice xa xn xc] 28)
          have G7 := Blk.new w5 28 #[.int .i64 (wi x y wh xss x' y' wh' yss rs ts p).x, .int .i64 (wi x y wh xss x' y' wh' yss rs ts p).y, .int .i64 (wi x y wh xss x' y' wh' yss rs ts p).wh, .slice xa xn xc]
          have O7 := h5.keep (below_al (Below.refl _ _) (.cells #[.int .i64 (wi x y wh xss x' y' wh' yss rs ts p).x, .int .i64 (wi x y wh xss x' y' wh' yss rs ts p).y, .int .i64 (wi x y wh xss x' y' wh' yss rs ts p).wh, .slice xa xn xc] 28))
          have g7 : wo.heap.size ≤ w5.heap.size := y5
          generalize (w5.alloc (.cells #[.int .i64 (wi x y wh xss x' y' wh' yss rs ts p).x, .int .i64 (wi x y wh xss x' y' wh' yss rs ts p).y, .int .i64 (wi x y wh xss x' y' wh' yss rs ts p).wh, .slice xa xn xc] 28)) = W7 at *
          obtain ⟨Br, Tr, hR, hr1, hr2, hr3⟩ := hW.out.rows
          have hgw := hW.out.mix.lt
          have WR : Hid (OwnRows W7 Br Tr (.slice ra rn rc) s.rows) := Lib.hid (hR.keep B7)
          have WM := Lib.hid (hW.out.mix.below B7)
          have WB := Lib.hid (below_tr hW.out.below B7)
          have HM := Lib.hid (mix.impl_any s.x s.y s.wh _ s.rows (wi x y wh xss x' y' wh' yss rs ts p).x (wi x y wh xss x' y' wh' yss rs ts p).y (wi x y wh xss x' y' wh' yss rs ts p).wh _ (wi x y wh xss x' y' wh' yss rs ts p).rows W7 WR.out.rows O7.rows (HTOT.out) (tot_wi p))
          obtain ⟨c0, c1, c2, c3, c4⟩ := four_cells WM.out
          obtain ⟨d0, d1, d2, d3, d4⟩ := four_cells G7
          have HGW := Lib.hid hW.out.hg
          clear h5 hb5 z5 E5 y5 B7 G7 O7 g7 p0 p1 p2 p3 p4 q0 q1 q2 q3 q4 m0 m1 m2 n0 n1 n2 HW hR hr1 hr2 hr3 hW WR
          go_wp2_with fail
          refine HM.out.mono ?_
          rintro e w8 ⟨r8, rfl, h8, hb8⟩
          obtain ⟨ya, yn, yc, rfl⟩ := h8.rows.shape
          have M8 := WM.out.below hb8
          have rf : ∀ q, w8.frozen? ⟨gg, q, none⟩ = false := fun q => Joins.unfrozen_of_block M8 q
          obtain ⟨c0, c1, c2, c3, c4⟩ := four_cells M8
          have hg7 : gg < W7.heap.size := WM.out.lt
          have WS : Hid (Way w3 (set4 w8 gg (.int .i64 (mx s (wi x y wh xss x' y' wh' yss rs ts p)).x) (.int .i64 (mx s (wi x y wh xss x' y' wh' yss rs ts p)).y) (.int .i64 (mx s (wi x y wh xss x' y' wh' yss rs ts p)).wh) (.slice ya yn yc)) gg (mx s (wi x y wh xss x' y' wh' yss rs ts p)) (.slice ya yn yc)) := Lib.hid (by
            have hw := set4_wrote w8 gg (.int .i64 (mx s (wi x y wh xss x' y' wh' yss rs ts p)).x) (.int .i64 (mx s (wi x y wh xss x' y' wh' yss rs ts p)).y) (.int .i64 (mx s (wi x y wh xss x' y' wh' yss rs ts p)).wh) (.slice ya yn yc)
            have hgw := HGW.out
            refine ⟨?_, set4_same _ _ _ _ M8, ⟨_, _, h8.wrote hw (fun p hp => .inl (by have e : p.block = gg := hp; omega)), by have := WB.out.size; omega, by rw [hw.size]; exact Nat.le_refl _, .inl hg7⟩, hgw⟩
            unfold set4
            exact Below.setCell (Below.setCell (Below.setCell (Below.setCell (below_tr WB.out hb8) hgw _) hgw _) hgw _) hgw _)
          clear h8 hb8 M8 HM d0 d1 d2 d3 d4
          go_wp2_with fail
          go_roundw
          case rel => exact ⟨p + 1, _, ya, yn, yc, by omega, by have := HP.out; omega, by go_num, rfl, ⟨_, rfl⟩, ⟨_, rfl⟩, HS1, WS⟩
          case measure => have := HP.out; simp [intOf]; omega
        · skip
          have hw7 := set4_wrote w5 wo.heap.size (.int .i64 (wi x y wh xss x' y' wh' yss rs ts p).x) (.int .i64 (wi x y wh xss x' y' wh' yss rs ts p).y) (.int .i64 (wi x y wh xss x' y' wh' yss rs ts p).wh) (.slice xa xn xc)
          have B7 : Below wo.heap.size wo ((((w5.setCell ⟨wo.heap.size, 0, none⟩ (.int .i64 (wi x y wh xss x' y' wh' yss rs ts p).x)).setCell ⟨wo.heap.size, 1, none⟩ (.int .i64 (wi x y wh xss x' y' wh' yss rs ts p).y)).setCell ⟨wo.heap.size, 2, none⟩ (.int .i64 (wi x y wh xss x' y' wh' yss rs ts p).wh)).setCell ⟨wo.heap.size, 3, none⟩ (.slice xa xn xc)) := Below.setCell (Below.setCell (Below.setCell (Below.setCell E5.out (Nat.le_refl _) _) (Nat.le_refl _) _) (Nat.le_refl _) _) (Nat.le_refl _) _
          have G7 : Blk ((((w5.setCell ⟨wo.heap.size, 0, none⟩ (.int .i64 (wi x y wh xss x' y' wh' yss rs ts p).x)).setCell ⟨wo.heap.size, 1, none⟩ (.int .i64 (wi x y wh xss x' y' wh' yss rs ts p).y)).setCell ⟨wo.heap.size, 2, none⟩ (.int .i64 (wi x y wh xss x' y' wh' yss rs ts p).wh)).setCell ⟨wo.heap.size, 3, none⟩ (.slice xa xn xc)) wo.heap.size 28 #[.int .i64 (wi x y wh xss x' y' wh' yss rs ts p).x, .int .i64 (wi x y wh xss x' y' wh' yss rs ts p).y, .int .i64 (wi x y wh xss x' y' wh' yss rs ts p).wh, .slice xa xn xc] := set4_same (.int .i64 (wi x y wh xss x' y' wh' yss rs ts p).x) (.int .i64 (wi x y wh xss x' y' wh' yss rs ts p).y) (.int .i64 (wi x y wh xss x' y' wh' yss rs ts p).wh) (.slice xa xn xc) gB
          have O7 : OwnRows ((((w5.setCell ⟨wo.heap.size, 0, none⟩ (.int .i64 (wi x y wh xss x' y' wh' yss rs ts p).x)).setCell ⟨wo.heap.size, 1, none⟩ (.int .i64 (wi x y wh xss x' y' wh' yss rs ts p).y)).setCell ⟨wo.heap.size, 2, none⟩ (.int .i64 (wi x y wh xss x' y' wh' yss rs ts p).wh)).setCell ⟨wo.heap.size, 3, none⟩ (.slice xa xn xc)) (wo.heap.size + 1) w5.heap.size (.slice xa xn xc) (wi x y wh xss x' y' wh' yss rs ts p).rows := (h5.mono (by simp) (Nat.le_refl _)).wrote hw7 (fun p hp => .inl (by have e : p.block = wo.heap.size := hp; omega))
          have g7 : wo.heap.size ≤ wo.heap.size := Nat.le_refl _
          clear hw7 gB rf5 t0 t1 t2 t3 t4
          have hsz : w5.heap.size ≤ ((((w5.setCell ⟨wo.heap.size, 0, none⟩ (.int .i64 (wi x y wh xss x' y' wh' yss rs ts p).x)).setCell ⟨wo.heap.size, 1, none⟩ (.int .i64 (wi x y wh xss x' y' wh' yss rs ts p).y)).setCell ⟨wo.heap.size, 2, none⟩ (.int .i64 (wi x y wh xss x' y' wh' yss rs ts p).wh)).setCell ⟨wo.heap.size, 3, none⟩ (.slice xa xn xc)).heap.size := by simp [World.setCell]
          generalize ((((w5.setCell ⟨wo.heap.size, 0, none⟩ (.int .i64 (wi x y wh xss x' y' wh' yss rs ts p).x)).setCell ⟨wo.heap.size, 1, none⟩ (.int .i64 (wi x y wh xss x' y' wh' yss rs ts p).y)).setCell ⟨wo.heap.size, 2, none⟩ (.int .i64 (wi x y wh xss x' y' wh' yss rs ts p).wh)).setCell ⟨wo.heap.size, 3, none⟩ (.slice xa xn xc)) = W7 at *
          obtain ⟨Br, Tr, hR, hr1, hr2, hr3⟩ := hW.out.rows
          have hgw := hW.out.mix.lt
          have WR : Hid (OwnRows W7 Br Tr (.slice ra rn rc) s.rows) := Lib.hid (hR.keep B7)
          have WM := Lib.hid (hW.out.mix.below B7)
          have WB := Lib.hid (below_tr hW.out.below B7)
          have HM := Lib.hid (mix.impl_any s.x s.y s.wh _ s.rows (wi x y wh xss x' y' wh' yss rs ts p).x (wi x y wh xss x' y' wh' yss rs ts p).y (wi x y wh xss x' y' wh' yss rs ts p).wh _ (wi x y wh xss x' y' wh' yss rs ts p).rows W7 WR.out.rows O7.rows (HTOT.out) (tot_wi p))
          obtain ⟨c0, c1, c2, c3, c4⟩ := four_cells WM.out
          obtain ⟨d0, d1, d2, d3, d4⟩ := four_cells G7
          have HGW := Lib.hid hW.out.hg
          clear h5 hb5 z5 E5 y5 B7 G7 O7 g7 p0 p1 p2 p3 p4 q0 q1 q2 q3 q4 m0 m1 m2 n0 n1 n2 HW hR hr1 hr2 hr3 hW WR
          go_wp2_with fail
          refine HM.out.mono ?_
          rintro e w8 ⟨r8, rfl, h8, hb8⟩
          obtain ⟨ya, yn, yc, rfl⟩ := h8.rows.shape
          have M8 := WM.out.below hb8
          have rf : ∀ q, w8.frozen? ⟨gg, q, none⟩ = false := fun q => Joins.unfrozen_of_block M8 q
          obtain ⟨c0, c1, c2, c3, c4⟩ := four_cells M8
          have hg7 : gg < W7.heap.size := WM.out.lt
          have WS : Hid (Way w3 (set4 w8 gg (.int .i64 (mx s (wi x y wh xss x' y' wh' yss rs ts p)).x) (.int .i64 (mx s (wi x y wh xss x' y' wh' yss rs ts p)).y) (.int .i64 (mx s (wi x y wh xss x' y' wh' yss rs ts p)).wh) (.slice ya yn yc)) gg (mx s (wi x y wh xss x' y' wh' yss rs ts p)) (.slice ya yn yc)) := Lib.hid (by
            have hw := set4_wrote w8 gg (.int .i64 (mx s (wi x y wh xss x' y' wh' yss rs ts p)).x) (.int .i64 (mx s (wi x y wh xss x' y' wh' yss rs ts p)).y) (.int .i64 (mx s (wi x y wh xss x' y' wh' yss rs ts p)).wh) (.slice ya yn yc)
            have hgw := HGW.out
            refine ⟨?_, set4_same _ _ _ _ M8, ⟨_, _, h8.wrote hw (fun p hp => .inl (by have e : p.block = gg := hp; omega)), by have := WB.out.size; omega, by rw [hw.size]; exact Nat.le_refl _, .inl hg7⟩, hgw⟩
            unfold set4
            exact Below.setCell (Below.setCell (Below.setCell (Below.setCell (below_tr WB.out hb8) hgw _) hgw _) hgw _) hgw _)
          clear h8 hb8 M8 HM d0 d1 d2 d3 d4
          go_wp2_with fail
          go_roundw
          case rel => exact ⟨p + 1, _, ya, yn, yc, by omega, by have := HP.out; omega, by go_num, rfl, ⟨_, rfl⟩, ⟨_, rfl⟩, HS1, WS⟩
          case measure => have := HP.out; simp [intOf]; omega
      · have HE : Hid (res x y wh xss x' y' wh' yss rs ts = s) := Lib.hid (by
          rw [HR.out, hs.out]
          have hl := HN.out.1
          by_cases hq : p < n
          · have hz : s = make.Res.zero := by
              rcases st_ok (x := x) (y := y) (wh := wh) (xss := xss) (x' := x') (y' := y') (wh' := wh') (yss := yss) (rs := rs) (ts := ts) (p - 1) with hz | hz
              · rw [hs.out]; exact hz
              · exact absurd ⟨hq, by rw [hs.out]; exact hz⟩ hlt
            rw [← hs.out, hz]
            exact st_stop' (i := p - 1) (hs.out ▸ hz) (by omega)
          · rw [show rs.length - 1 = p - 1 from by omega])
        have HX : Hid ((s.ok = false) ∨ (s.ok = true ∧ p = n)) := Lib.hid (by
          cases hk : s.ok with
          | false => exact .inl rfl
          | true => exact .inr ⟨rfl, by rcases Nat.lt_or_ge p n with h | h; exact absurd ⟨h, hk⟩ hlt; omega⟩)
        have HRS := Lib.hid (HP3.out.below hW.out.below)
        have HGZ := Lib.hid (HZ3.out)
        have HWW := hW
        obtain ⟨c0, c1, c2, c3, c4⟩ := four_cells hW.out.mix
        obtain ⟨r0, r1, r2, r3, r4⟩ := four_cells HRS.out
        have rf : ∀ q, wo.frozen? ⟨w.heap.size + 1 + 1, q, none⟩ = false := fun q => Joins.unfrozen_of_block HRS.out q
        clear hs hlt hW
        rcases HX.out with hk | ⟨hk, rfl⟩
        all_goals
          rw [hk]
          have HK := Lib.hid hk
          clear hk
          go_wp2_with fail
          refine bodyPost_ret (v := .tuple #[.agg #[.int .i64 s.x, .int .i64 s.y, .int .i64 s.wh, .slice ra rn rc], .bool s.ok]) (by simp [results, Try.results20, go_sem, r0, r1, r2, r3, HK.out]) rfl ?_
          rw [HE.out]
          have hz := HGZ.out
          obtain ⟨Br, Tr, hR, hr1, hr2, hr3⟩ := HWW.out.rows
          refine ⟨_, rfl, ?_, ?_⟩
          · refine (hR.wrote (S := fun p => p.block < w3.heap.size) ?_ (fun p hp => .inl (by have e : p.block < w3.heap.size := hp; omega))).mono (by omega) (by simp [World.setCell]; omega)
            repeat (first | exact Wrote.refl _ _ | refine Wrote.setCell ?_ (by simp; omega) _)
          · repeat (first | (with_reducible exact below_tr BB.out HWW.out.below) | (with_reducible refine Below.setCell ?_ (by simp <;> omega) _))
theorem impl_any (x y wh : Int) (v : Value) (xss : List (List Int)) (x' y' wh' : Int) (v' : Value) (yss : List (List Int)) (q : Value) (rs : List R3) (q' : Value) (ts : List R3) (w : World) (h : IRows w v xss) (h' : IRows w v' yss) (hn : total xss ≤ 1048576) (hn' : total yss ≤ 1048576) (hq : Rls w q rs) (hq' : Rls w q' ts) :
    Calls Try.prog 20 #[.agg #[.int .i64 x, .int .i64 y, .int .i64 wh, v], .agg #[.int .i64 x', .int .i64 y', .int .i64 wh', v'], q, q'] w fun e w' => ∃ r, e = .returned (.tuple #[.agg #[.int .i64 (res x y wh xss x' y' wh' yss rs ts).x, .int .i64 (res x y wh xss x' y' wh' yss rs ts).y, .int .i64 (res x y wh xss x' y' wh' yss rs ts).wh, r], .bool (res x y wh xss x' y' wh' yss rs ts).ok]) ∧ OwnRows w' w.heap.size w'.heap.size r (res x y wh xss x' y' wh' yss rs ts).rows ∧ Below w.heap.size w w' := by
  by_cases hne : 0 < rs.length ∧ rs.length = ts.length
  · exact impl_yes x y wh v xss x' y' wh' v' yss q rs q' ts w h h' hn hn' hq hq' hne
  · exact impl_bad x y wh v xss x' y' wh' v' yss q rs q' ts w h h' hq hq' hne


end Go.Proofs.Ytiigfhigmdjooaa.mxw
