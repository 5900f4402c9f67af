/- wiredRow of the program: one row of a wiring. -/
import Derived.Test.YtiigfhigmdjooaaRul
import Derived.Test.YtiigfhigmdjooaaRcl
import Derived.Test.YtiigfhigmdjooaaInv
import Derived.Deep.RegionHeld3
namespace Go.Proofs.Ytiigfhigmdjooaa.wir
open Go.RowKit Go.Deep Go.Proofs.Ytiigfhigmdjooaa.base
open Go.Proofs.Ytiigfhigmdjooaa.ints (ret_int)
open Go.Proofs.Ytiigfhigmdjooaa.rws (total)
open Go.Proofs.Ytiigfhigmdjooaa.val (okBox boxB boxB_yes boxB_no)
open Go.Proofs.Ytiigfhigmdjooaa.row (nn nn_bd at_)
open Go.Proofs.Ytiigfhigmdjooaa.play (within)
open Go.Proofs.Ytiigfhigmdjooaa.two (two twoB twoB_yes twoB_no asksB asksB_yes asksB_no)
open Go.Proofs.Ytiigfhigmdjooaa.wrm (rule ruleB bit term spot acc qa qb sy N)
open Go.Proofs.Ytiigfhigmdjooaa.scene (three_cells)
open Go.Proofs.Ytiigfhigmdjooaa.rule (RV)
open Go.Proofs.Ytiigfhigmdjooaa.rcl (Bits BRows)


set_option maxHeartbeats 1000000 in
theorem ibt (x y wh : Int) (v : Value) (xss : List (List Int)) (w : World) (h : IRows w v xss) (hn : total xss ≤ 1048576) :
    Calls Try.prog 140 #[.agg #[.int .i64 x, .int .i64 y, .int .i64 wh, v]] w fun e w' => e = .returned (.bool (twoB x y wh xss)) ∧ Below w.heap.size w w' := by
  obtain ⟨va, vn, vc, rfl⟩ := h.shape
  have B0 := Lib.hid (below_al (Below.refl w.heap.size w) (.cells #[.int .i64 x, .int .i64 y, .int .i64 wh, .slice va vn vc] 28))
  have K0 := Lib.hid (Blk.new w 28 #[.int .i64 x, .int .i64 y, .int .i64 wh, .slice va vn vc])
  have hr := val.impl_any x y wh _ xss _ (h.below B0.out) hn
  clear h
  by_cases hok : okBox x y wh xss
  · rw [boxB_yes hok] at hr
    have HR := Lib.hid hr
    have HT : Hid (twoB x y wh xss = asksB x y) := Lib.hid (by
      by_cases h2 : x = 2 ∧ y = 2
      · rw [twoB_yes ⟨hok, h2⟩, h2.1, h2.2]; exact asksB_yes.symm
      · rw [twoB_no (fun h => h2 h.2)]; exact (asksB_no h2).symm)
    clear hr hok
    go_enter Try.func140, Try.ntmps140
    go_wp2_with fail
    refine HR.out.mono ?_
    rintro e w1 ⟨rfl, hb⟩
    have B1 := Lib.hid (below_tr B0.out hb)
    have K1 := Lib.hid (K0.out.below hb)
    obtain ⟨c0, c1, c2, c3, c4⟩ := four_cells K1.out
    clear hb HR B0 K0
    go_wp2_with fail
    refine (two.asks x y w1).mono ?_
    rintro e w' ⟨rfl, rfl⟩
    go_wp2_with fail
    go_ret
    exact ⟨val.ret_b HT.out.symm, B1.out⟩
  · rw [boxB_no hok] at hr
    rw [twoB_no (fun h => hok h.1)]
    have HR := Lib.hid hr
    clear hr hok
    go_enter Try.func140, Try.ntmps140
    go_wp2_with fail
    refine HR.out.mono ?_
    rintro e w1 ⟨rfl, hb⟩
    have B1 := Lib.hid (below_tr B0.out hb)
    clear hb HR B0 K0
    go_wp2_with fail
    go_ret
    exact ⟨rfl, B1.out⟩


theorem ixn (f : Nat → Int) (k : Nat) (hk : k < 4) (W : World) : (Instr.index 152 (.agg #[.int .i64 (f 0), .int .i64 (f 1), .int .i64 (f 2), .int .i64 (f 3)]) (.int .i64 (k : Int))).run Try.prog W = .ok (.int .i64 (f k)) W := by
  obtain rfl | rfl | rfl | rfl : k = 0 ∨ k = 1 ∨ k = 2 ∨ k = 3 := by omega
  all_goals kernel_rfl
theorem heldA {w w' : World} {p1 p2 p3 p4 p5 p6 p7 p8 : Addr} {u1 u2 u3 u4 u5 u6 u7 u8 : Value} (h1 : w.cell? p1 = some u1) (h2 : w.cell? p2 = some u2) (h3 : w.cell? p3 = some u3) (h4 : w.cell? p4 = some u4) (h5 : w.cell? p5 = some u5) (h6 : w.cell? p6 = some u6) (h7 : w.cell? p7 = some u7) (h8 : w.cell? p8 = some u8) (hb : Below w.heap.size w w') :
    w'.cell? p1 = some u1 ∧ w'.cell? p2 = some u2 ∧ w'.cell? p3 = some u3 ∧ w'.cell? p4 = some u4 ∧ w'.cell? p5 = some u5 ∧ w'.cell? p6 = some u6 ∧ w'.cell? p7 = some u7 ∧ w'.cell? p8 = some u8 ∧ Below w.heap.size w w' :=
  ⟨below_cell hb _ _ h1, below_cell hb _ _ h2, below_cell hb _ _ h3, below_cell hb _ _ h4, below_cell hb _ _ h5, below_cell hb _ _ h6, below_cell hb _ _ h7, below_cell hb _ _ h8, hb⟩
theorem heldB {w w' : World} {p1 p2 p3 p4 p5 p6 p7 p8 p9 p10 : Addr} {u1 u2 u3 u4 u5 u6 u7 u8 u9 u10 : Value} (h1 : w.cell? p1 = some u1) (h2 : w.cell? p2 = some u2) (h3 : w.cell? p3 = some u3) (h4 : w.cell? p4 = some u4) (h5 : w.cell? p5 = some u5) (h6 : w.cell? p6 = some u6) (h7 : w.cell? p7 = some u7) (h8 : w.cell? p8 = some u8) (h9 : w.cell? p9 = some u9) (h10 : w.cell? p10 = some u10) (hb : Below w.heap.size w w') :
    w'.cell? p1 = some u1 ∧ w'.cell? p2 = some u2 ∧ w'.cell? p3 = some u3 ∧ w'.cell? p4 = some u4 ∧ w'.cell? p5 = some u5 ∧ w'.cell? p6 = some u6 ∧ w'.cell? p7 = some u7 ∧ w'.cell? p8 = some u8 ∧ w'.cell? p9 = some u9 ∧ w'.cell? p10 = some u10 ∧ Below w.heap.size w w' :=
  ⟨below_cell hb _ _ h1, below_cell hb _ _ h2, below_cell hb _ _ h3, below_cell hb _ _ h4, below_cell hb _ _ h5, below_cell hb _ _ h6, below_cell hb _ _ h7, below_cell hb _ _ h8, below_cell hb _ _ h9, below_cell hb _ _ h10, hb⟩

/-- the numbers of an outer round -/
theorem nums1 {k : Nat} (hk : k < 4) : k / 2 < 2 ∧ k % 2 < 2 ∧ IntKind.i64.wrap ((k : Int).tdiv 2) = ((k / 2 : Nat) : Int) ∧ IntKind.i64.wrap ((k : Int) / 2) = ((k / 2 : Nat) : Int) ∧ (k : Int).tmod 2 = ((k % 2 : Nat) : Int) ∧ (k : Int) % 2 = ((k % 2 : Nat) : Int) := by
  obtain rfl | rfl | rfl | rfl : k = 0 ∨ k = 1 ∨ k = 2 ∨ k = 3 := by omega
  all_goals decide
theorem nums2 {a b : Nat} (ha : a < 2) (hb : b < 2) : ∃ m u : Nat, 2 * a = m ∧ m + b = u ∧ u < 4 ∧ IntKind.i64.wrap (2 * (a : Int)) = (m : Int) ∧ IntKind.i64.wrap ((m : Int) + (b : Int)) = (u : Int) := by
  refine ⟨2 * a, 2 * a + b, rfl, rfl, by omega, ?_, ?_⟩
  · rw [IntWalk.i64_in _ (by omega)]; simp
  · rw [IntWalk.i64_in _ (by omega)]; simp
theorem sum_z {a b c : Int} (h1 : 0 ≤ a) (h2 : a ≤ 1000000) (h3 : 0 ≤ b) (h4 : b ≤ 1000) (h5 : 0 ≤ c) (h6 : c ≤ 1000) : IntKind.i64.wrap (b * c) = b * c ∧ IntKind.i64.wrap (a + b * c) = a + b * c := by
  have p1 := Int.mul_nonneg h3 h5
  have p2 : b * c ≤ 1000 * 1000 := Int.mul_le_mul h4 h6 h5 (by omega)
  exact ⟨IntWalk.i64_in _ (by omega), IntWalk.i64_in _ (by omega)⟩
theorem set_acc (F : Nat → Int) (G : Nat → Nat) (t g : Nat) (hg : G t = g) (h4 : g < 4) {W : World} {b : Nat} {ty : TypeId} (h : Blk W b ty #[.int .i64 (wrm.acc F G (t) 0), .int .i64 (wrm.acc F G (t) 1), .int .i64 (wrm.acc F G (t) 2), .int .i64 (wrm.acc F G (t) 3)]) :
    Blk (W.setCell ⟨b, g, none⟩ (.int .i64 (wrm.acc F G t g + F t))) b ty #[.int .i64 (wrm.acc F G (t + 1) 0), .int .i64 (wrm.acc F G (t + 1) 1), .int .i64 (wrm.acc F G (t + 1) 2), .int .i64 (wrm.acc F G (t + 1) 3)] := by
  have h2 := Joins.block_setCell (i := g) h (.int .i64 (wrm.acc F G t g + F t))
  have e : ∀ j, wrm.acc F G (t + 1) j = wrm.acc F G t j + if G t = j then F t else 0 := fun j => rfl
  rw [e 0, e 1, e 2, e 3, hg]
  unfold Blk at h2 ⊢
  rw [h2]
  obtain rfl | rfl | rfl | rfl : g = 0 ∨ g = 1 ∨ g = 2 ∨ g = 3 := by omega
  all_goals simp
theorem cel_acc (F : Nat → Int) (G : Nat → Nat) (t g : Nat) (h4 : g < 4) {W : World} {b : Nat} {ty : TypeId} (h : Blk W b ty #[.int .i64 (wrm.acc F G (t) 0), .int .i64 (wrm.acc F G (t) 1), .int .i64 (wrm.acc F G (t) 2), .int .i64 (wrm.acc F G (t) 3)]) : W.cell? ⟨b, g, none⟩ = some (.int .i64 (wrm.acc F G t g)) := by
  rw [Joins.cell_of_block h]
  obtain rfl | rfl | rfl | rfl : g = 0 ∨ g = 1 ∨ g = 2 ∨ g = 3 := by omega
  all_goals rfl


set_option maxRecDepth 100000 in
set_option maxHeartbeats 8000000 in
theorem wiredRow (wh wh' : Int) (v : Value) (xss : List (List Int)) (v' : Value) (yss : List (List Int)) (sv1 : Value) (f1 : List Int) (u1 : Value) (k1 : List (List Int)) (nv1 : Value) (s1 : List (List Int)) (sv2 : Value) (f2 : List Int) (u2 : Value) (k2 : List (List Int)) (nv2 : Value) (s2 : List (List Int)) (i j : Nat) (w : World)
    (h : IRows w v xss) (h' : IRows w v' yss) (ht : two 2 2 wh xss) (ht' : two 2 2 wh' yss) (hr1 : RV w sv1 f1 u1 k1 nv1 s1) (hr2 : RV w sv2 f2 u2 k2 nv2 s2) (hg1 : rule f1 k1 s1) (hg2 : rule f2 k2 s2) (hi : i < 2) (hj : j < 2) :
    Calls Try.prog 145 #[.agg #[.int .i64 2, .int .i64 2, .int .i64 wh, v], .agg #[.int .i64 2, .int .i64 2, .int .i64 wh', v'], .agg #[sv1, u1, nv1], .agg #[sv2, u2, nv2], .int .i64 (i : Int), .int .i64 (j : Int)] w fun e w' =>
      e = .returned (.agg #[.int .i64 (N xss yss f1 k1 s1 f2 k2 s2 (i * 2 + j) 0), .int .i64 (N xss yss f1 k1 s1 f2 k2 s2 (i * 2 + j) 1), .int .i64 (N xss yss f1 k1 s1 f2 k2 s2 (i * 2 + j) 2), .int .i64 (N xss yss f1 k1 s1 f2 k2 s2 (i * 2 + j) 3)]) ∧ Below w.heap.size w w' := by
  obtain ⟨b0, o0, c0, b1, o1, c1, b2, o2, c2, rfl, rfl, rfl, k0, k1', k2'⟩ := rcl.parts hr1 hg1
  obtain ⟨d0, q0, e0, d1, q1, e1, d2, q2, e2, rfl, rfl, rfl, l0, l1, l2⟩ := rcl.parts hr2 hg2
  have HV := Lib.hid h
  have HU := Lib.hid h'
  obtain ⟨va, vn, vc, rfl⟩ := h.shape
  obtain ⟨ua, un, uc, rfl⟩ := h'.shape
  have hp4 : i * 2 + j < 4 := by omega
  have hp1 : (i * 2 + j) / 2 = i := by omega
  have hp2 : (i * 2 + j) % 2 = j := by omega
  have HB := Lib.hid (fun (t g : Nat) (ht' : t ≤ 16) => (wrm.acc_bd ht ‹two 2 2 wh' yss› hg1 hg2 hp4 ht' g))
  have HW := Lib.hid (wrm.wh_bd ht ht')
  obtain ⟨F, hF⟩ : ∃ F, term xss yss f1 k1 f2 k2 (i * 2 + j) = F := ⟨_, rfl⟩
  obtain ⟨G, hG⟩ : ∃ G, spot s1 s2 (i * 2 + j) = G := ⟨_, rfl⟩
  unfold N
  rw [hF, hG] at HB ⊢
  have HFt := Lib.hid (fun (k n : Nat) (hn : n < 4) => show F (4 * k + n) = nn xss (bit f1 i * 2 + bit f2 j) k * nn yss (bit (k1.getD i []) (k / 2) * 2 + bit (k2.getD j []) (k % 2)) n from by
    rw [← hF]; unfold term qa qb; rw [hp1, hp2, show (4 * k + n) / 4 = k by omega, show (4 * k + n) % 4 = n by omega])
  have HGt := Lib.hid (fun (k n : Nat) (hn : n < 4) => show G (4 * k + n) = 2 * bit (s1.getD i []) (2 * (k / 2) + n / 2) + bit (s2.getD j []) (2 * (k % 2) + n % 2) from by
    rw [← hG]; unfold spot sy; rw [hp1, hp2, show (4 * k + n) / 4 = k by omega, show (4 * k + n) % 4 = n by omega])
  obtain ⟨ga, la⟩ := k0 i hi
  obtain ⟨gb, lb⟩ := l0 j hj
  have HA := Lib.hid (fun (W : World) (hb : Below w.heap.size w W) => row.rowof 2 2 wh (bit f1 i : Int) (bit f2 j : Int) _ xss W (HV.out.below hb) ht.1 (by omega) (by omega) (by omega) (by omega))
  have HBd := Lib.hid (fun (W : World) (hb : Below w.heap.size w W) (a c : Nat) (ha : a ≤ 1) (hc : c ≤ 1) => row.rowof 2 2 wh' (a : Int) (c : Int) _ yss W (HU.out.below hb) ht'.1 (by omega) (by omega) (by omega) (by omega))
  have HN1 := Lib.hid (fun (k : Nat) (hk : k < 4) => wrm.nn_two ht (r := bit f1 i * 2 + bit f2 j) (k := k) (by omega) hk)
  have HN2 := Lib.hid (fun (a c n : Nat) (ha : a ≤ 1) (hc : c ≤ 1) (hn : n < 4) => wrm.nn_two ht' (r := a * 2 + c) (k := n) (by omega) hn)
  have eA : at_ 2 (bit f1 i : Int) (bit f2 j : Int) = bit f1 i * 2 + bit f2 j := by unfold at_; omega
  have HeB := Lib.hid (fun (a c : Nat) => show at_ 2 (a : Int) (c : Int) = a * 2 + c from by unfold at_; omega)
  rw [eA] at HA
  obtain ⟨kb, jb, cb, gk, lk⟩ := k1' i hi
  obtain ⟨kd, jd, cd, gd, ld⟩ := l1 j hj
  obtain ⟨sb, so, sc, gs, ls⟩ := k2' i hi
  obtain ⟨tb, to, tc, gt, lt⟩ := l2 j hj
  have LK := Lib.hid lk
  have LD := Lib.hid ld
  have LS := Lib.hid ls
  have LT := Lib.hid lt
  have GK := Lib.hid gk
  have GD := Lib.hid gd
  have GS := Lib.hid gs
  have GT := Lib.hid gt
  generalize bit f1 i = x1 at *
  generalize bit f2 j = x2 at *
  have zi : (i : Int) < 2 := by omega
  have zj : (j : Int) < 2 := by omega
  have B5 := Lib.hid (show Below w.heap.size w (((((w.alloc (.cells #[.int .i64 2, .int .i64 2, .int .i64 wh, .slice va vn vc] 28)).alloc (.cells #[.int .i64 2, .int .i64 2, .int .i64 wh', .slice ua un uc] 28)).alloc (.cells #[.slice (some ⟨b0, o0, none⟩) 2 c0, .slice (some ⟨b1, o1, none⟩) 2 c1, .slice (some ⟨b2, o2, none⟩) 2 c2] 88)).alloc (.cells #[.slice (some ⟨d0, q0, none⟩) 2 e0, .slice (some ⟨d1, q1, none⟩) 2 e1, .slice (some ⟨d2, q2, none⟩) 2 e2] 88)).alloc (.cells #[.int .i64 0, .int .i64 0, .int .i64 0, .int .i64 0] 152)) from by repeat (first | exact Below.refl _ _ | refine below_al ?_ _))
  obtain ⟨w5, hw5⟩ : ∃ w5, (((((w.alloc (.cells #[.int .i64 2, .int .i64 2, .int .i64 wh, .slice va vn vc] 28)).alloc (.cells #[.int .i64 2, .int .i64 2, .int .i64 wh', .slice ua un uc] 28)).alloc (.cells #[.slice (some ⟨b0, o0, none⟩) 2 c0, .slice (some ⟨b1, o1, none⟩) 2 c1, .slice (some ⟨b2, o2, none⟩) 2 c2] 88)).alloc (.cells #[.slice (some ⟨d0, q0, none⟩) 2 e0, .slice (some ⟨d1, q1, none⟩) 2 e1, .slice (some ⟨d2, q2, none⟩) 2 e2] 88)).alloc (.cells #[.int .i64 0, .int .i64 0, .int .i64 0, .int .i64 0] 152)) = w5 := ⟨_, rfl⟩
  have P1 : Hid (Blk w5 w.heap.size 28 #[.int .i64 2, .int .i64 2, .int .i64 wh, .slice va vn vc]) := Lib.hid (by rw [← hw5]; exact ((((Blk.new w 28 #[.int .i64 2, .int .i64 2, .int .i64 wh, .slice va vn vc]).alloc _).alloc _).alloc _).alloc _)
  have P2 : Hid (Blk w5 (w.heap.size + 1) 28 #[.int .i64 2, .int .i64 2, .int .i64 wh', .slice ua un uc]) := Lib.hid (by rw [← hw5]; have := (((Blk.new (w.alloc (.cells #[.int .i64 2, .int .i64 2, .int .i64 wh, .slice va vn vc] 28)) 28 #[.int .i64 2, .int .i64 2, .int .i64 wh', .slice ua un uc]).alloc (.cells #[.slice (some ⟨b0, o0, none⟩) 2 c0, .slice (some ⟨b1, o1, none⟩) 2 c1, .slice (some ⟨b2, o2, none⟩) 2 c2] 88)).alloc (.cells #[.slice (some ⟨d0, q0, none⟩) 2 e0, .slice (some ⟨d1, q1, none⟩) 2 e1, .slice (some ⟨d2, q2, none⟩) 2 e2] 88)).alloc (.cells #[.int .i64 0, .int .i64 0, .int .i64 0, .int .i64 0] 152); simpa using this)
  have P3 : Hid (Blk w5 (w.heap.size + 1 + 1) 88 #[.slice (some ⟨b0, o0, none⟩) 2 c0, .slice (some ⟨b1, o1, none⟩) 2 c1, .slice (some ⟨b2, o2, none⟩) 2 c2]) := Lib.hid (by rw [← hw5]; have := ((Blk.new ((w.alloc (.cells #[.int .i64 2, .int .i64 2, .int .i64 wh, .slice va vn vc] 28)).alloc (.cells #[.int .i64 2, .int .i64 2, .int .i64 wh', .slice ua un uc] 28)) 88 #[.slice (some ⟨b0, o0, none⟩) 2 c0, .slice (some ⟨b1, o1, none⟩) 2 c1, .slice (some ⟨b2, o2, none⟩) 2 c2]).alloc (.cells #[.slice (some ⟨d0, q0, none⟩) 2 e0, .slice (some ⟨d1, q1, none⟩) 2 e1, .slice (some ⟨d2, q2, none⟩) 2 e2] 88)).alloc (.cells #[.int .i64 0, .int .i64 0, .int .i64 0, .int .i64 0] 152); simpa using this)
  have P4 : Hid (Blk w5 (w.heap.size + 1 + 1 + 1) 88 #[.slice (some ⟨d0, q0, none⟩) 2 e0, .slice (some ⟨d1, q1, none⟩) 2 e1, .slice (some ⟨d2, q2, none⟩) 2 e2]) := Lib.hid (by rw [← hw5]; have := (Blk.new (((w.alloc (.cells #[.int .i64 2, .int .i64 2, .int .i64 wh, .slice va vn vc] 28)).alloc (.cells #[.int .i64 2, .int .i64 2, .int .i64 wh', .slice ua un uc] 28)).alloc (.cells #[.slice (some ⟨b0, o0, none⟩) 2 c0, .slice (some ⟨b1, o1, none⟩) 2 c1, .slice (some ⟨b2, o2, none⟩) 2 c2] 88)) 88 #[.slice (some ⟨d0, q0, none⟩) 2 e0, .slice (some ⟨d1, q1, none⟩) 2 e1, .slice (some ⟨d2, q2, none⟩) 2 e2]).alloc (.cells #[.int .i64 0, .int .i64 0, .int .i64 0, .int .i64 0] 152); simpa using this)
  have P5 : Hid (Blk w5 (w.heap.size + 1 + 1 + 1 + 1) 152 #[.int .i64 0, .int .i64 0, .int .i64 0, .int .i64 0]) := Lib.hid (by rw [← hw5]; have := Blk.new ((((w.alloc (.cells #[.int .i64 2, .int .i64 2, .int .i64 wh, .slice va vn vc] 28)).alloc (.cells #[.int .i64 2, .int .i64 2, .int .i64 wh', .slice ua un uc] 28)).alloc (.cells #[.slice (some ⟨b0, o0, none⟩) 2 c0, .slice (some ⟨b1, o1, none⟩) 2 c1, .slice (some ⟨b2, o2, none⟩) 2 c2] 88)).alloc (.cells #[.slice (some ⟨d0, q0, none⟩) 2 e0, .slice (some ⟨d1, q1, none⟩) 2 e1, .slice (some ⟨d2, q2, none⟩) 2 e2] 88)) 152 #[.int .i64 0, .int .i64 0, .int .i64 0, .int .i64 0]; simpa using this)
  rw [hw5] at B5
  have P6 : Hid (Blk (w5.alloc (.cells #[.int .i64 0, .int .i64 0, .int .i64 0, .int .i64 0] 152)) w5.heap.size 152 #[.int .i64 (wrm.acc F G (0) 0), .int .i64 (wrm.acc F G (0) 1), .int .i64 (wrm.acc F G (0) 2), .int .i64 (wrm.acc F G (0) 3)]) := Lib.hid (Blk.new w5 152 #[.int .i64 0, .int .i64 0, .int .i64 0, .int .i64 0])
  have B6 := Lib.hid (below_al (Below.refl w5.heap.size w5) (.cells #[.int .i64 0, .int .i64 0, .int .i64 0, .int .i64 0] 152))
  obtain ⟨w6, hw6⟩ : ∃ w6, w5.alloc (.cells #[.int .i64 0, .int .i64 0, .int .i64 0, .int .i64 0] 152) = w6 := ⟨_, rfl⟩
  rw [hw6] at P6 B6
  obtain ⟨c0', c1', c2', c3', c4'⟩ := four_cells (P1.out.below B6.out)
  obtain ⟨r0, r1, r2, r3⟩ := three_cells (P3.out.below B6.out)
  obtain ⟨t0, t1, t2, t3⟩ := three_cells (P4.out.below B6.out)
  have ga' := below_cell (below_tr B5.out B6.out) _ _ ga
  have gb' := below_cell (below_tr B5.out B6.out) _ _ gb
  clear h h' hr1 hr2 hg1 hg2 ht ht' k0 k1' k2' l0 l1 l2 hF hG hp1 hp2 hp4 eA lk ld ls lt gk gd gs gt ga gb HV HU
  have z1 : (x1 : Int) < 2 := by omega
  have z2 : (x2 : Int) < 2 := by omega
  go_enter Try.func145, Try.ntmps145
  go_wp2_with fail
  clear hw5 hw6
  go_region_held3 (fun w' => w'.cell? ⟨w.heap.size, 0, none⟩ = some (.int .i64 2) ∧ w'.cell? ⟨w.heap.size, 1, none⟩ = some (.int .i64 2) ∧ w'.cell? ⟨w.heap.size, 2, none⟩ = some (.int .i64 wh) ∧ w'.cell? ⟨w.heap.size, 3, none⟩ = some (.slice va vn vc) ∧ w'.cell? ⟨w.heap.size + 1 + 1, 0, none⟩ = some (.slice (some ⟨b0, o0, none⟩) 2 c0) ∧ w'.cell? ⟨w.heap.size + 1 + 1 + 1, 0, none⟩ = some (.slice (some ⟨d0, q0, none⟩) 2 e0) ∧ w'.cell? ⟨b0, o0 + i, none⟩ = some (.int .i64 (x1 : Int)) ∧ w'.cell? ⟨d0, q0 + j, none⟩ = some (.int .i64 (x2 : Int)) ∧ Below w6.heap.size w6 w')
    ((refine heldA c0' c1' c2' c3' r0 t0 ga' gb' ?_; repeat (first | (with_reducible exact Below.refl _ _) | (with_reducible refine below_dr ?_) | (with_reducible refine below_tr ?_ (by assumption)))))
    (first | (go_at_call 148; (with_reducible refine (HA.out _ (below_tr B5.out (below_tr B6.out ?_))).mono ?_); (repeat (first | (with_reducible exact Below.refl _ _) | (with_reducible refine below_dr ?_))); rintro e w7 ⟨rfl, hb7⟩))
  have B7 := Lib.hid (below_tr (below_dr (Below.refl w6.heap.size w6)) hb7)
  have A0 : Hid (Blk w7 w5.heap.size 152 #[.int .i64 (wrm.acc F G (4 * 0) 0), .int .i64 (wrm.acc F G (4 * 0) 1), .int .i64 (wrm.acc F G (4 * 0) 2), .int .i64 (wrm.acc F G (4 * 0) 3)]) := Lib.hid (P6.out.below B7.out)
  have W0 : Hid (Below w5.heap.size w5 w7) := Lib.hid (below_tr B6.out B7.out)
  clear c0' c1' c2' c3' c4' r0 r1 r2 r3 t0 t1 t2 t3 ga' gb' hb7 HA P6 B6 B7
  go_wp2_with fail
  go_loopw [14, 15, 16, 17, 18, 19, 20, 21, 34] (fun z1 z2 z3 z4 z5 z6 z7 z8 q wr => ∃ k : Nat, k ≤ 4 ∧ q = .int .i64 k ∧ (∃ z', z1 = z') ∧ (∃ z', z2 = z') ∧ (∃ z', z3 = z') ∧ (∃ z', z4 = z') ∧ (∃ z', z5 = z') ∧ (∃ z', z6 = z') ∧ (∃ z', z7 = z') ∧ (∃ z', z8 = z') ∧ Hid (Blk wr w5.heap.size 152 #[.int .i64 (wrm.acc F G (4 * k) 0), .int .i64 (wrm.acc F G (4 * k) 1), .int .i64 (wrm.acc F G (4 * k) 2), .int .i64 (wrm.acc F G (4 * k) 3)]) ∧ Hid (Below w5.heap.size w5 wr)) (fun _ _ _ _ _ _ _ _ q _ => 4 - (intOf q).toNat)
  case atStart => exact ⟨0, by omega, rfl, ⟨_, rfl⟩, ⟨_, rfl⟩, ⟨_, rfl⟩, ⟨_, rfl⟩, ⟨_, rfl⟩, ⟨_, rfl⟩, ⟨_, rfl⟩, ⟨_, rfl⟩, A0, W0⟩
  case round =>
    clear A0 W0
    obtain ⟨k, hk, rfl, ⟨z1, rfl⟩, ⟨z2, rfl⟩, ⟨z3, rfl⟩, ⟨z4, rfl⟩, ⟨z5, rfl⟩, ⟨z6, rfl⟩, ⟨z7, rfl⟩, ⟨z8, rfl⟩, hA, hB⟩ := hrel
    obtain ⟨wo, rfl⟩ : ∃ wo : World, wo = wr := ⟨_, rfl⟩
    by_cases hlt : k < 4
    · have hkz : (k : Int) < 4 := by omega
      obtain ⟨ha1, ha2, m1, m2, m3, m4⟩ := nums1 hlt
      have ix := fun W => ixn (nn xss (x1 * 2 + x2)) k hlt W
      have bd1 := HN1.out k hlt
      have HF1 := HFt.out k
      have HG1 := HGt.out k
      obtain ⟨n1, hn1⟩ : ∃ n1, nn xss (x1 * 2 + x2) k = n1 := ⟨_, rfl⟩
      rw [hn1] at ix bd1 HF1
      generalize k / 2 = a1 at ha1 m1 m2 HF1 HG1
      generalize k % 2 = a2 at ha2 m3 m4 HF1 HG1
      obtain ⟨gy, ly⟩ := LK.out a1 ha1
      obtain ⟨gz, lz⟩ := LD.out a2 ha2
      generalize bit (k1.getD i []) a1 = y1 at gy ly HF1
      generalize bit (k2.getD j []) a2 = y2 at gz lz HF1
      have BW := Lib.hid (below_tr B5.out hB.out)
      obtain ⟨c0', c1', c2', c3', c4'⟩ := four_cells (P2.out.below hB.out)
      obtain ⟨r0, r1, r2, r3⟩ := three_cells (P3.out.below hB.out)
      obtain ⟨t0, t1, t2, t3⟩ := three_cells (P4.out.below hB.out)
      have g1 := below_cell BW.out _ _ GK.out
      have g2 := below_cell BW.out _ _ gy
      have g3 := below_cell BW.out _ _ GD.out
      have g4 := below_cell BW.out _ _ gz
      have za1 : (a1 : Int) < 2 := by omega
      have za2 : (a2 : Int) < 2 := by omega
      have HF2 := Lib.hid HF1
      have HG2 := Lib.hid HG1
      have BD1 := Lib.hid bd1
      have LY := Lib.hid ly
      have LZ := Lib.hid lz
      clear HF1 HG1 bd1 hn1 gy gz ly lz
      go_wp2_with fail
      go_region_held3 (fun w' => w'.cell? ⟨w.heap.size + 1, 0, none⟩ = some (.int .i64 2) ∧ w'.cell? ⟨w.heap.size + 1, 1, none⟩ = some (.int .i64 2) ∧ w'.cell? ⟨w.heap.size + 1, 2, none⟩ = some (.int .i64 wh') ∧ w'.cell? ⟨w.heap.size + 1, 3, none⟩ = some (.slice ua un uc) ∧ w'.cell? ⟨w.heap.size + 1 + 1, 1, none⟩ = some (.slice (some ⟨b1, o1, none⟩) 2 c1) ∧ w'.cell? ⟨w.heap.size + 1 + 1 + 1, 1, none⟩ = some (.slice (some ⟨d1, q1, none⟩) 2 e1) ∧ w'.cell? ⟨b1, o1 + i, none⟩ = some (.slice (some ⟨kb, jb, none⟩) 2 cb) ∧ w'.cell? ⟨kb, jb + a1, none⟩ = some (.int .i64 (y1 : Int)) ∧ w'.cell? ⟨d1, q1 + j, none⟩ = some (.slice (some ⟨kd, jd, none⟩) 2 cd) ∧ w'.cell? ⟨kd, jd + a2, none⟩ = some (.int .i64 (y2 : Int)) ∧ Below wo.heap.size wo w')
        ((refine heldB c0' c1' c2' c3' r1 t1 g1 g2 g3 g4 ?_; repeat (first | (with_reducible exact Below.refl _ _) | (with_reducible refine below_dr ?_) | (with_reducible refine below_tr ?_ (by assumption)))))
        (first | (go_at_call 148; (with_reducible refine (HBd.out _ (below_tr BW.out ?_) y1 y2 LY.out LZ.out).mono ?_); (repeat (first | (with_reducible exact Below.refl _ _) | (with_reducible refine below_dr ?_))); rintro e w8 ⟨rfl, hb8⟩))
      rw [HeB.out y1 y2]
      have B8 := below_tr (below_dr (Below.refl wo.heap.size wo)) hb8
      have A0 : Hid (Blk w8 w5.heap.size 152 #[.int .i64 (wrm.acc F G (4 * k + 0) 0), .int .i64 (wrm.acc F G (4 * k + 0) 1), .int .i64 (wrm.acc F G (4 * k + 0) 2), .int .i64 (wrm.acc F G (4 * k + 0) 3)]) := Lib.hid (hA.out.below B8)
      have W0 : Hid (Below w5.heap.size w5 w8) := Lib.hid (below_tr hB.out B8)
      have BY := HN2.out y1 y2
      have HB2 := Lib.hid (fun n (hn : n < 4) => BY n LY.out LZ.out hn)
      generalize y1 * 2 + y2 = yy at HF2 HB2
      clear BY c0' c1' c2' c3' c4' r0 r1 r2 r3 t0 t1 t2 t3 g1 g2 g3 g4 hb8 B8 hA hB BW ix m1 m2 m3 m4
      go_wp2_with fail
      go_loopw [18, 19, 20, 21, 60] (fun z5 z6 z7 z8 q wr => ∃ n : Nat, n ≤ 4 ∧ q = .int .i64 n ∧ (∃ z', z5 = z') ∧ (∃ z', z6 = z') ∧ (∃ z', z7 = z') ∧ (∃ z', z8 = z') ∧ Hid (Blk wr w5.heap.size 152 #[.int .i64 (wrm.acc F G (4 * k + n) 0), .int .i64 (wrm.acc F G (4 * k + n) 1), .int .i64 (wrm.acc F G (4 * k + n) 2), .int .i64 (wrm.acc F G (4 * k + n) 3)]) ∧ Hid (Below w5.heap.size w5 wr)) (fun _ _ _ _ q _ => 4 - (intOf q).toNat)
      case atStart => exact ⟨0, by omega, rfl, ⟨_, rfl⟩, ⟨_, rfl⟩, ⟨_, rfl⟩, ⟨_, rfl⟩, A0, W0⟩
      case round =>
        clear A0 W0
        obtain ⟨n, hn, rfl, ⟨z5, rfl⟩, ⟨z6, rfl⟩, ⟨z7, rfl⟩, ⟨z8, rfl⟩, hA, hB⟩ := hrel
        obtain ⟨wi, rfl⟩ : ∃ wi : World, wi = wr := ⟨_, rfl⟩
        by_cases hln : n < 4
        · have hnz : (n : Int) < 4 := by omega
          obtain ⟨hb1, hb2, m1, m2, m3, m4⟩ := nums1 hln
          have ix := fun W => ixn (nn yss yy) n hln W
          have bd2 := HB2.out n hln
          have hf := HF2.out n hln
          have hg := HG2.out n hln
          obtain ⟨n2, hn2⟩ : ∃ n2, nn yss yy n = n2 := ⟨_, rfl⟩
          rw [hn2] at ix bd2 hf
          generalize n / 2 = v1 at hb1 m1 m2 hg
          generalize n % 2 = v2 at hb2 m3 m4 hg
          obtain ⟨i1, i2, i3, i4, i5, i6, i7⟩ := nums2 ha1 hb1
          obtain ⟨j1, j2, j3, j4, j5, j6, j7⟩ := nums2 ha2 hb2
          rw [i3, i4, j3, j4] at hg
          obtain ⟨gp, lp⟩ := LS.out i2 i5
          obtain ⟨gq, lq⟩ := LT.out j2 j5
          generalize bit (s1.getD i []) i2 = p1 at gp lp hg
          generalize bit (s2.getD j []) j2 = p2 at gq lq hg
          obtain ⟨k1', g, k3, k4, k5, k6, k7⟩ := nums2 (a := p1) (b := p2) (by omega) (by omega)
          rw [k3, k4] at hg
          have hacc := HB.out (4 * k + n) g (by omega)
          have hw := HW.out
          have hce := cel_acc F G (4 * k + n) g k5 hA.out
          have hse := set_acc F G (4 * k + n) g hg k5 hA.out
          rw [hf] at hse
          generalize acc F G (4 * k + n) g = cc at hacc hce hse
          obtain ⟨s1', s2'⟩ := sum_z (a := cc) (b := n1) (c := n2) (by omega) (by omega) BD1.out.1 BD1.out.2 bd2.1 bd2.2
          have BW := below_tr B5.out hB.out
          obtain ⟨r0, r1, r2, r3⟩ := three_cells (P3.out.below hB.out)
          obtain ⟨t0, t1, t2, t3⟩ := three_cells (P4.out.below hB.out)
          have g1 := below_cell BW _ _ GS.out
          have g2 := below_cell BW _ _ gp
          have g3 := below_cell BW _ _ GT.out
          have g4 := below_cell BW _ _ gq
          have rf : ∀ q, wi.frozen? ⟨w5.heap.size, q, none⟩ = false := fun q => Joins.unfrozen_of_block hA.out q
          have y1z : (i2 : Int) < 4 := by omega
          have y2z : (j2 : Int) < 4 := by omega
          have y3z : (g : Int) < 4 := by omega
          have A3 := Lib.hid hse
          have W3 : Hid (Below w5.heap.size w5 (wi.setCell ⟨w5.heap.size, g, none⟩ (.int .i64 (cc + n1 * n2)))) := Lib.hid (hB.out.setCell (Nat.le_refl _) _)
          clear hse hacc hw hf hg hn2 bd2 i3 i4 j3 j4 k3 k4 gp gq hA hB BW r0 r1 r3 t0 t1 t3 lp lq
          go_wp2_with fail
          go_roundw
          case rel => exact ⟨n + 1, by omega, by go_num, ⟨_, rfl⟩, ⟨_, rfl⟩, ⟨_, rfl⟩, ⟨_, rfl⟩, A3, W3⟩
          case measure => simp [intOf]; omega
        · have hnz : ¬ (n : Int) < 4 := by omega
          obtain rfl : n = 4 := by omega
          go_wp2_with fail
          go_roundw
          case rel => exact ⟨k + 1, by omega, by go_num, ⟨_, rfl⟩, ⟨_, rfl⟩, ⟨_, rfl⟩, ⟨_, rfl⟩, ⟨_, rfl⟩, ⟨_, rfl⟩, ⟨_, rfl⟩, ⟨_, rfl⟩, hA, hB⟩
          case measure => simp [intOf]; omega
    · have hkz : ¬ (k : Int) < 4 := by omega
      obtain rfl : k = 4 := by omega
      have hA' : Blk wo w5.heap.size 152 #[.int .i64 (wrm.acc F G (16) 0), .int .i64 (wrm.acc F G (16) 1), .int .i64 (wrm.acc F G (16) 2), .int .i64 (wrm.acc F G (16) 3)] := hA.out
      obtain ⟨c0', c1', c2', c3', c4'⟩ := four_cells hA'
      obtain ⟨r0, r1, r2, r3, r4⟩ := four_cells (P5.out.below hB.out)
      have rf : ∀ q, wo.frozen? ⟨w.heap.size + 1 + 1 + 1 + 1, q, none⟩ = false := fun q => Joins.unfrozen_of_block (P5.out.below hB.out) q
      have BW := Lib.hid (below_tr B5.out hB.out)
      clear hA hB hA'
      go_wp2_with fail
      refine bodyPost_ret (v := .agg #[.int .i64 (wrm.acc F G (16) 0), .int .i64 (wrm.acc F G (16) 1), .int .i64 (wrm.acc F G (16) 2), .int .i64 (wrm.acc F G (16) 3)]) (by simp [results, Try.results145, go_sem, r0, r1, r2, r3]) rfl ⟨rfl, ?_⟩
      repeat (first | (with_reducible exact BW.out) | refine Below.setCell ?_ (by simp <;> omega) _)


end Go.Proofs.Ytiigfhigmdjooaa.wir
