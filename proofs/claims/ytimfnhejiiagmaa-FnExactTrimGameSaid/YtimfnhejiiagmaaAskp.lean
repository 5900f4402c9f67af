/- askedGame of the program: the closure, makeRows. -/
import Derived.Test.YtimfnhejiiagmaaGplay
import Derived.Test.YtimfnhejiiagmaaStep
import Derived.Test.YtimfnhejiiagmaaPile
import Derived.Deep.RegionHeld3
namespace Go.Proofs.Ytimfnhejiiagmaa.gask
open Go.RowKit Go.Deep Go.Proofs.Ytimfnhejiiagmaa.base
open Go.Proofs.Ytimfnhejiiagmaa.ints (ret_int infoInt infoInts)
open Go.Proofs.Ytimfnhejiiagmaa.rws (total)
open Go.Proofs.Ytimfnhejiiagmaa.gval (okGame)
open Go.Proofs.Ytimfnhejiiagmaa.row (nn at_)

/-- which row of the old game the new one shows -/
def src (gy : Int) (fs ss : List Int) (r : Nat) : Nat := at_ gy (fs.getD (r / ss.length) 0) (ss.getD (r % ss.length) 0)
def N (gy : Int) (fs ss : List Int) (xss : List (List Int)) (r k : Nat) : Int := nn xss (src gy fs ss r) k
theorem src_at (gy : Int) (fs ss : List Int) (a c : Nat) (hc : c < ss.length) : src gy fs ss (a * ss.length + c) = at_ gy (fs.getD a 0) (ss.getD c 0) := by
  unfold src
  rw [show (a * ss.length + c) / ss.length = a from by rw [Nat.add_comm, Nat.add_mul_div_right _ _ (by omega), Nat.div_eq_of_lt hc, Nat.zero_add], show (a * ss.length + c) % ss.length = c from by rw [Nat.add_comm, Nat.add_mul_mod_self_right, Nat.mod_eq_of_lt hc]]
theorem lows8 {n : Nat} {w w' : World} {p1 p2 p3 p4 p5 p6 p7 p8 : Addr} {u1 u2 u3 u4 u5 u6 u7 u8 : Value} (h1 : w.cell? p1 = some u1) (h2 : w.cell? p2 = some u2) (h3 : w.cell? p3 = some u3) (h4 : w.cell? p4 = some u4) (h5 : w.cell? p5 = some u5) (h6 : w.cell? p6 = some u6) (h7 : w.cell? p7 = some u7) (h8 : w.cell? p8 = some u8)
    (l1 : p1.block < n) (l2 : p2.block < n) (l3 : p3.block < n) (l4 : p4.block < n) (l5 : p5.block < n) (l6 : p6.block < n) (l7 : p7.block < n) (l8 : p8.block < n) (h : step.Low n w w') :
    w'.cell? p1 = some u1 ∧ w'.cell? p2 = some u2 ∧ w'.cell? p3 = some u3 ∧ w'.cell? p4 = some u4 ∧ w'.cell? p5 = some u5 ∧ w'.cell? p6 = some u6 ∧ w'.cell? p7 = some u7 ∧ w'.cell? p8 = some u8 :=
  ⟨(h _ l1).trans h1, (h _ l2).trans h2, (h _ l3).trans h3, (h _ l4).trans h4, (h _ l5).trans h5, (h _ l6).trans h6, (h _ l7).trans h7, (h _ l8).trans h8⟩


set_option maxRecDepth 100000 in
set_option maxHeartbeats 4000000 in
theorem clo (p0 p1 p2 : Nat) (gx gy : Int) (v : Value) (ws : List Int) (u : Value) (xss : List (List Int)) (fv sv : Value) (fs ss : List Int) (a c : Nat) (w : World) (hK : Blk w p0 40 #[.int .i64 gx, .int .i64 gy, v, u]) (h1 : w.cell? ⟨p1, 0, none⟩ = some fv) (h2 : w.cell? ⟨p2, 0, none⟩ = some sv)
    (h : game.GV w v ws u xss) (hf : Ints w fv fs) (hs : Ints w sv ss) (hok : okGame gx gy ws xss) (ha : a < fs.length) (hc : c < ss.length) (hfa : 0 ≤ fs.getD a 0 ∧ fs.getD a 0 < gx) (hsc : 0 ≤ ss.getD c 0 ∧ ss.getD c 0 < gy) :
    Calls Try.prog 147 #[.int .i64 (a : Int), .int .i64 (c : Int), .pointer (some ⟨p0, 0, none⟩), .pointer (some ⟨p1, 0, none⟩), .pointer (some ⟨p2, 0, none⟩)] w fun e w' =>
      e = .returned (.agg #[.int .i64 (N gy fs ss xss (a * ss.length + c) 0), .int .i64 (N gy fs ss xss (a * ss.length + c) 1), .int .i64 (N gy fs ss xss (a * ss.length + c) 2), .int .i64 (N gy fs ss xss (a * ss.length + c) 3)]) ∧ Below w.heap.size w w' := by
  unfold N
  rw [src_at _ _ _ _ _ hc]
  have HWO := Lib.hid (fun (W : World) (hb : Below w.heap.size w W) => gwon.winsof gx gy (fs.getD a 0) (ss.getD c 0) v ws u xss W (h.below hb) hok hfa.1 hfa.2 hsc.1 hsc.2)
  obtain ⟨va, vn, vc, ua, un, uc, rfl, rfl⟩ := h.shape
  obtain ⟨A1, b1, o1, q1, rfl, _, _, hA1, hc1⟩ := hf.form
  obtain rfl := hA1 (by omega)
  obtain ⟨A2, b2, o2, q2, rfl, _, _, hA2, hc2⟩ := hs.form
  obtain rfl := hA2 (by omega)
  have g1 := hc1 a ha
  have g2 := hc2 c hc
  rw [show fs[a] = fs.getD a 0 from by simp [List.getD, ha]] at g1
  rw [show ss[c] = ss.getD c 0 from by simp [List.getD, hc]] at g2
  have i1 : (a : Int) < (fs.length : Int) := by omega
  have i2 : (c : Int) < (ss.length : Int) := by omega
  obtain ⟨k0, k1, k2, k3, k4⟩ := four_cells hK
  have l1 : p1 < w.heap.size := World.block_lt_of_cell? _ _ h1
  have l2 : p2 < w.heap.size := World.block_lt_of_cell? _ _ h2
  have l3 : b1 < w.heap.size := World.block_lt_of_cell? _ _ g1
  have l4 : b2 < w.heap.size := World.block_lt_of_cell? _ _ g2
  have hl0 : a < fs.length := ha
  have hl1 : c < ss.length := hc
  clear h hf hs hok hc1 hc2 hA1 hA2 ha hc hfa hsc hK
  generalize fs.getD a 0 = x at *
  generalize ss.getD c 0 = y at *
  generalize nn xss (at_ gy x y) 0 = n0 at *
  generalize nn xss (at_ gy x y) 1 = n1 at *
  generalize nn xss (at_ gy x y) 2 = n2 at *
  generalize nn xss (at_ gy x y) 3 = n3 at *
  have R0 := Lib.hid (Blk.new w 158 #[.int .i64 0, .int .i64 0, .int .i64 0, .int .i64 0])
  have B0 := Lib.hid (below_al (Below.refl w.heap.size w) (.cells #[.int .i64 0, .int .i64 0, .int .i64 0, .int .i64 0] 158))
  obtain ⟨r0, r1, r2, r3, r4⟩ := four_cells R0.out
  have rf : ∀ k, (w.alloc (.cells #[.int .i64 0, .int .i64 0, .int .i64 0, .int .i64 0] 158)).frozen? ⟨w.heap.size, k, none⟩ = false := fun k => Joins.unfrozen_of_block R0.out k
  go_enter Try.func147, Try.ntmps147
  go_wp2_with fail
  go_region_held3 (fun w' => w'.cell? ⟨p0, 0, none⟩ = some (.int .i64 gx) ∧ w'.cell? ⟨p0, 1, none⟩ = some (.int .i64 gy) ∧ w'.cell? ⟨p0, 2, none⟩ = some (.slice va vn vc) ∧ w'.cell? ⟨p0, 3, none⟩ = some (.slice ua un uc) ∧ w'.cell? ⟨p1, 0, none⟩ = some (.slice (some ⟨b1, o1, none⟩) fs.length q1) ∧ w'.cell? ⟨p2, 0, none⟩ = some (.slice (some ⟨b2, o2, none⟩) ss.length q2) ∧ w'.cell? ⟨b1, o1 + a, none⟩ = some (.int .i64 x) ∧ w'.cell? ⟨b2, o2 + c, none⟩ = some (.int .i64 y))
    (((with_reducible refine lows8 k0 k1 k2 k3 h1 h2 g1 g2 k4 k4 k4 k4 l1 l2 l3 l4 ?_); repeat (first | (with_reducible exact L1.out) | (with_reducible exact step.Low.refl _ _) | (with_reducible refine step.Low.drew ?_) | (with_reducible refine step.Low.alloc ?_ (by first | omega | (simp; omega)) _) | (with_reducible refine step.Low.setCell ?_ _ _ (by first | exact Nat.le_refl _ | omega | (simp; omega))))))
    (first | (go_at_call 148; (with_reducible refine (HWO.out _ ?_).mono ?_); (repeat (first | (with_reducible exact B0.out) | (with_reducible exact Below.refl _ _) | (with_reducible refine below_dr ?_) | (with_reducible refine below_tr ?_ (by assumption)))); rintro e wq ⟨rfl, hq⟩; (have hbq : Below w.heap.size w wq := below_tr (by repeat (first | (with_reducible exact B0.out) | (with_reducible refine below_dr ?_))) hq); (have L1 := Lib.hid (step.Low.below hbq)); (have BQ := Lib.hid hbq); (have RQ := Lib.hid (R0.out.below (below_tr (by repeat (first | (with_reducible exact Below.refl _ _) | (with_reducible refine below_dr ?_))) hq))); (obtain ⟨s0, s1, s2, s3, s4⟩ := four_cells RQ.out); (have sf : ∀ k, wq.frozen? ⟨w.heap.size, k, none⟩ = false := fun k => Joins.unfrozen_of_block RQ.out k); clear hbq))
  go_wp2_with fail
  refine bodyPost_ret (v := .agg #[.int .i64 n0, .int .i64 n1, .int .i64 n2, .int .i64 n3]) (by simp [results, Try.results147, go_sem, s0, s1, s2, s3]) rfl ⟨rfl, ?_⟩
  repeat (first | (with_reducible exact BQ.out) | refine below_dr ?_ | refine Below.setCell ?_ (by simp <;> omega) _)

set_option maxHeartbeats 4000000 in
theorem make_anyR (p0 p1 p2 : Nat) (X Y : Nat) (N : Nat → Nat → Int) (w : World) (hX : X ≤ 3) (hY : Y ≤ 3)
    (hrow : ∀ (i j : Nat) (W : World), i < X → j < Y → Below w.heap.size w W → Calls Try.prog 147 #[.int .i64 (i : Int), .int .i64 (j : Int), .pointer (some ⟨p0, 0, none⟩), .pointer (some ⟨p1, 0, none⟩), .pointer (some ⟨p2, 0, none⟩)] W fun e w' =>
      e = .returned (.agg #[.int .i64 (N (i * Y + j) 0), .int .i64 (N (i * Y + j) 1), .int .i64 (N (i * Y + j) 2), .int .i64 (N (i * Y + j) 3)]) ∧ Below W.heap.size W w') :
    Calls Try.prog 146 #[.int .i64 (X : Int), .int .i64 (Y : Int), .func (.func 147) #[] #[.pointer (some ⟨p0, 0, none⟩), .pointer (some ⟨p1, 0, none⟩), .pointer (some ⟨p2, 0, none⟩)]] w fun e w' => ∃ u, e = .returned u ∧
      OwnRows w' w.heap.size w'.heap.size u (make.rowsOf N (X * Y)) ∧ Below w.heap.size w w' := by
  obtain ⟨i0, hi, hz0, hz1, hz2⟩ := info_parts infoInts
  have h9 : X * Y ≤ 9 := Nat.mul_le_mul hX hY
  have hm : (X : Int) * (Y : Int) = ((X * Y : Nat) : Int) := by simp
  have hmk := app.mk0s (X * Y) (by omega)
  rw [← hm] at hmk
  have hw1 : IntKind.i64.wrap ((X : Int) * (Y : Int)) = (X : Int) * (Y : Int) := IntWalk.i64_in _ (by omega)
  have HM := Lib.hid hm
  have HR := Lib.hid hrow
  have P0 : Hid (pile.Pile w (w.alloc (.cells (madeCells #[.slice none 0 0] (X * Y)) 34)) w.heap.size (w.alloc (.cells (madeCells #[.slice none 0 0] (X * Y)) 34)).heap.size (.slice (some ⟨w.heap.size, 0, none⟩) 0 (X * Y)) [] (make.rowsOf N (0 * Y))) := Lib.hid (by
    rw [Nat.zero_mul]
    refine pile.start (below_al (Below.refl _ _) _) (Nat.le_refl _) ?_ (by simp)
    have := World.ownsRow_made (base := w.heap.size) (e := 34) (size := 1) w (madeCells #[.slice none 0 0] (X * Y)) (X * Y) (Nat.le_refl _) (by unfold maxLen; omega) (by simp [madeCells])
    simpa using this)
  clear hm hrow
  go_enter Try.func146, Try.ntmps146
  go_wp2_with fail
  clear hmk hw1
  go_loopw [7, 17] (fun v i wr => ∃ a : Nat, a ≤ X ∧ i = .int .i64 a ∧ ∃ vals, Hid (pile.Pile w wr w.heap.size wr.heap.size v vals (make.rowsOf N (a * Y)))) (fun _ i _ => X - (intOf i).toNat)
  case atStart => exact ⟨0, Nat.zero_le _, rfl, _, P0⟩
  case round =>
    obtain ⟨a, ha, rfl, vals, hP⟩ := hrel
    clear P0
    obtain ⟨wo, rfl⟩ : ∃ wo : World, wo = wr := ⟨_, rfl⟩
    by_cases hlt : a < X
    · have hkz : (a : Int) < (X : Int) := by omega
      go_wp2_with fail
      go_loopw [7, 21] (fun v j wi => ∃ c : Nat, c ≤ Y ∧ j = .int .i64 c ∧ ∃ vals, Hid (pile.Pile w wi w.heap.size wi.heap.size v vals (make.rowsOf N (a * Y + c)))) (fun _ j _ => Y - (intOf j).toNat)
      case atStart => exact ⟨0, Nat.zero_le _, rfl, _, hP⟩
      case round =>
        obtain ⟨c, hc, rfl, vals, hP⟩ := hrel
        obtain ⟨wi, rfl⟩ : ∃ wi : World, wi = wr := ⟨_, rfl⟩
        by_cases hlc : c < Y
        · have hkc : (c : Int) < (Y : Int) := by omega
          have HCA := Lib.hid (HR.out a c wi hlt hlc hP.out.below)
          have hk9 : a * Y + c < 9 := by
            have h1 : a * Y + c < (a + 1) * Y := by rw [Nat.add_mul]; omega
            have h2 : (a + 1) * Y ≤ X * Y := Nat.mul_le_mul_right _ (by omega)
            omega
          have HK9 := Lib.hid hk9
          have HLE := Lib.hid (make.len_rowsOf N (a * Y + c))
          clear hk9
          go_wp2_with fail
          refine HCA.out.mono ?_
          rintro e w2 ⟨rfl, hb⟩
          have W2 := Lib.hid (hP.out.keep hb)
          have hcp := row.copy4p (W := w2.alloc (.cells #[.int .i64 (N (a * Y + c) 0), .int .i64 (N (a * Y + c) 1), .int .i64 (N (a * Y + c) 2), .int .i64 (N (a * Y + c) 3)] 158)) (b := w2.heap.size) (o := 0) (cap := 4) (n := w2.heap.size + 1)
            (n0 := .int .i64 (N (a * Y + c) 0)) (n1 := .int .i64 (N (a * Y + c) 1)) (n2 := .int .i64 (N (a * Y + c) 2)) (n3 := .int .i64 (N (a * Y + c) 3)) #[.int .i64 0, .int .i64 0, .int .i64 0, .int .i64 0] 3 rfl (by simp)
            (by rw [Joins.cell_of_block (heap_alloc_new w2 _)]; rfl) (by rw [Joins.cell_of_block (heap_alloc_new w2 _)]; rfl) (by rw [Joins.cell_of_block (heap_alloc_new w2 _)]; rfl) (by rw [Joins.cell_of_block (heap_alloc_new w2 _)]; rfl) rfl rfl rfl rfl
          have hrowis : ((w2.alloc (.cells #[.int .i64 (N (a * Y + c) 0), .int .i64 (N (a * Y + c) 1), .int .i64 (N (a * Y + c) 2), .int .i64 (N (a * Y + c) 3)] 158)).alloc (.cells #[.int .i64 (N (a * Y + c) 0), .int .i64 (N (a * Y + c) 1), .int .i64 (N (a * Y + c) 2), .int .i64 (N (a * Y + c) 3)] 3)).rowIs (w2.heap.size + 1) 3 4 (fun j => .int .i64 ((make.quad N (a * Y + c)).getD j 0)) := by
            refine ⟨#[.int .i64 (N (a * Y + c) 0), .int .i64 (N (a * Y + c) 1), .int .i64 (N (a * Y + c) 2), .int .i64 (N (a * Y + c) 3)], by
              have := heap_alloc_new (w2.alloc (.cells #[.int .i64 (N (a * Y + c) 0), .int .i64 (N (a * Y + c) 1), .int .i64 (N (a * Y + c) 2), .int .i64 (N (a * Y + c) 3)] 158)) (.cells #[.int .i64 (N (a * Y + c) 0), .int .i64 (N (a * Y + c) 1), .int .i64 (N (a * Y + c) 2), .int .i64 (N (a * Y + c) 3)] 3)
              simpa using this, rfl, fun i hi => ?_⟩
            match i, hi with
            | 0, _ => rfl
            | 1, _ => rfl
            | 2, _ => rfl
            | 3, _ => rfl
          have HRI := Lib.hid (hrowis.alloc (.cells #[.slice (some ⟨w2.heap.size + 1, 0, none⟩) 4 4] 34))
          have P3 := Lib.hid (((W2.out.keep (below_al (Below.refl _ _) (.cells #[.int .i64 (N (a * Y + c) 0), .int .i64 (N (a * Y + c) 1), .int .i64 (N (a * Y + c) 2), .int .i64 (N (a * Y + c) 3)] 158))).keep (below_al (Below.refl _ _) (.cells #[.int .i64 (N (a * Y + c) 0), .int .i64 (N (a * Y + c) 1), .int .i64 (N (a * Y + c) 2), .int .i64 (N (a * Y + c) 3)] 3))).keep (below_al (Below.refl _ _) (.cells #[.slice (some ⟨w2.heap.size + 1, 0, none⟩) 4 4] 34)))
          have hm4 := make.mk4
          have hsz := hb.size
          have hsw := W2.out.below.size
          clear hb hP HCA hrowis W2
          go_wp2_with (at_builtin; go_must (refine wpList_append_own _ rfl (.tmp 32) (.tmp 34) 22 rfl w.heap.size 34 i0 (.slice none 0 0) 1 24 Try.underlying22 hi hz0 hz1 hz2 rfl (by decide) _ _ _ rfl P3.out.owns ⟨w2.heap.size + 1 + 1, 0, none⟩ 1 1 [.slice (some ⟨w2.heap.size + 1, 0, none⟩) 4 4] rfl rfl ?c1 ?c2 ?c3 ?c4 ?c5 ?_))
          case c1 =>
            have := app.one_at ((w2.alloc (.cells #[.int .i64 (N (a * Y + c) 0), .int .i64 (N (a * Y + c) 1), .int .i64 (N (a * Y + c) 2), .int .i64 (N (a * Y + c) 3)] 158)).alloc (.cells #[.int .i64 (N (a * Y + c) 0), .int .i64 (N (a * Y + c) 1), .int .i64 (N (a * Y + c) 2), .int .i64 (N (a * Y + c) 3)] 3)) (.slice (some ⟨w2.heap.size + 1, 0, none⟩) 4 4) 34
            simpa using this
          case c2 => intro u hu; simp at hu; subst hu; rfl
          case c3 => rw [HLE.out]; have := HK9.out; unfold maxLen; omega
          case c4 => rw [HLE.out]; have := HK9.out; omega
          case c5 => simp; omega
          intro v' w3 hown' hgrow _
          have P4 : Hid (pile.Pile w w3 w.heap.size w3.heap.size v' (vals ++ [.slice (some ⟨w2.heap.size + 1, 0, none⟩) 4 4]) (make.rowsOf N (a * Y + (c + 1)))) := Lib.hid (by
            have e : make.rowsOf N (a * Y + (c + 1)) = make.rowsOf N (a * Y + c) ++ [make.quad N (a * Y + c)] := by simp [make.rowsOf, ← Nat.add_assoc, List.range_succ]
            rw [e]
            refine P3.out.grow (m' := w2.heap.size + 1) (T := w2.heap.size + 1 + 1) (ints.own_of_row (xs := make.quad N (a * Y + c)) HRI.out (Nat.le_refl _) (by omega) (by simp [make.quad, maxLen])) (by omega) (by simp) (pile.typ_row HRI.out _ _) hown' hgrow)
          obtain ⟨va, vl, vc, rfl⟩ := make.shape hown'
          clear hown' hgrow P3 HRI hcp hm4
          go_wp2_with fail
          go_roundw
          case rel => exact ⟨c + 1, by omega, by go_num, _, P4⟩
          case measure => simp [intOf]; omega
        · have hkc : ¬ (c : Int) < (Y : Int) := by omega
          obtain rfl : c = Y := by omega
          go_wp2_with fail
          go_roundw
          case rel => exact ⟨a + 1, by omega, by go_num, vals, by rw [Nat.add_mul, Nat.one_mul]; exact hP⟩
          case measure => simp [intOf]; omega
    · have hkz : ¬ (a : Int) < (X : Int) := by omega
      obtain rfl : a = X := by omega
      obtain ⟨va, vl, vc, rfl⟩ := make.shape hP.out.owns
      go_wp2_with fail
      go_ret
      exact ⟨_, rfl, hP.out.rows, hP.out.below⟩


end Go.Proofs.Ytimfnhejiiagmaa.gask
