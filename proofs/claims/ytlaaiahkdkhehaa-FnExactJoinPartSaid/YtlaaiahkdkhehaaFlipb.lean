/- FlipAnswers: the arithmetic, the closure of the program, the program's whole. -/
import Derived.Test.YtlaaiahkdkhehaaFlipa
namespace Go.Proofs.Ytlaaiahkdkhehaa.flipa
open Go.RowKit Go.Deep Go.Proofs.Ytlaaiahkdkhehaa.base
open Go.Proofs.Ytlaaiahkdkhehaa.ints (ret_int infoInt infoInts)
open Go.Proofs.Ytlaaiahkdkhehaa.rws (total)
open Go.Proofs.Ytlaaiahkdkhehaa.val (okSizes okBox boxB boxB_yes boxB_no)
open Go.Proofs.Ytlaaiahkdkhehaa.row (nn nn_bd at_ at_lt)
open Go.Proofs.Ytlaaiahkdkhehaa.play (within withinB withinB_yes withinB_no)

/-- which form the row r has -/
def fo (fs : List Int) (X Y r : Nat) : Nat := 2 * (fs.getD (r / Y) 0).toNat + (fs.getD (X + r % Y) 0).toNat
def N (xss : List (List Int)) (fs : List Int) (X Y r k : Nat) : Int := nn xss r (k ^^^ fo fs X Y r)
theorem fo_at (fs : List Int) (X Y a c : Nat) (hc : c < Y) : fo fs X Y (a * Y + c) = 2 * (fs.getD a 0).toNat + (fs.getD (X + c) 0).toNat := by
  unfold fo
  rw [Nat.add_comm (a * Y) c, Nat.add_mul_mod_self_right, Nat.mod_eq_of_lt hc, Nat.add_mul_div_right _ _ (by omega), Nat.div_eq_of_lt hc, Nat.zero_add]
theorem at_nat (a Y c : Nat) : at_ (Y : Int) (a : Int) (c : Int) = a * Y + c := by
  unfold at_
  rw [← Int.natCast_mul, ← Int.natCast_add, Int.toNat_natCast]
theorem getD_at {xs : List Int} {k : Nat} (h : k < xs.length) : xs.getD k 0 = xs[k] := by simp [List.getD, h]
def all (x y wh : Int) (xss : List (List Int)) (fs : List Int) : Prop := okBox x y wh xss ∧ within (x + y) 0 1 fs
open Classical in
noncomputable def res (x y wh : Int) (xss : List (List Int)) (fs : List Int) : make.Res := if all x y wh xss fs then ⟨x, y, wh, make.rowsOf (N xss fs x.toNat y.toNat) (x * y).toNat, true⟩ else make.Res.zero
theorem res_yes {x y wh : Int} {xss : List (List Int)} {fs : List Int} (h : all x y wh xss fs) : res x y wh xss fs = ⟨x, y, wh, make.rowsOf (N xss fs x.toNat y.toNat) (x * y).toNat, true⟩ := if_pos h
theorem res_no {x y wh : Int} {xss : List (List Int)} {fs : List Int} (h : ¬ all x y wh xss fs) : res x y wh xss fs = make.Res.zero := if_neg h
theorem res_nat {X Y : Nat} {wh : Int} {xss : List (List Int)} {fs : List Int} (h : all X Y wh xss fs) : res X Y wh xss fs = ⟨X, Y, wh, make.rowsOf (N xss fs X Y) (X * Y), true⟩ := by
  rw [res_yes h, ← Int.natCast_mul]; rfl
theorem tot (x y wh : Int) (xss : List (List Int)) (fs : List Int) : total (res x y wh xss fs).rows ≤ 1048576 := by
  by_cases h : all x y wh xss fs
  · rw [res_yes h]; exact make.total_rowsOf _ _ (by have := val.mul_small h.1.1; omega)
  · rw [res_no h]; exact Nat.zero_le _

set_option maxHeartbeats 4000000 in
theorem clo (p0 p1 : Nat) (X Y : Nat) (wh : Int) (v vf : Value) (xss : List (List Int)) (fs : List Int) (a c : Nat) (w : World) (h0 : Blk w p0 24 #[.int .i64 (X : Int), .int .i64 (Y : Int), .int .i64 wh, v]) (h1 : w.cell? ⟨p1, 0, none⟩ = some vf)
    (hv : IRows w v xss) (hvf : Ints w vf fs) (hok : okBox X Y wh xss) (hl : fs.length = X + Y) (hp : ∀ k (h : k < fs.length), 0 ≤ fs[k] ∧ fs[k] ≤ 1) (ha : a < X) (hc : c < Y) :
    Calls Try.prog 132 #[.int .i64 (a : Int), .int .i64 (c : Int), .pointer (some ⟨p0, 0, none⟩), .pointer (some ⟨p1, 0, none⟩)] w fun e w' =>
      e = .returned (.agg #[.int .i64 (N xss fs X Y (a * Y + c) 0), .int .i64 (N xss fs X Y (a * Y + c) 1), .int .i64 (N xss fs X Y (a * Y + c) 2), .int .i64 (N xss fs X Y (a * Y + c) 3)]) ∧ Below w.heap.size w w' := by
  unfold N
  rw [fo_at fs X Y a c hc]
  have HRW := (fun (W : World) (hb : Below w.heap.size w W) => row.rowof X Y wh a c v xss W (hv.below hb) hok (by omega) (by omega) (by omega) (by omega))
  rw [at_nat] at HRW
  have hX := hok.1.1
  have hY := hok.1.2
  obtain ⟨d, hd⟩ : ∃ d, d = X + c := ⟨_, rfl⟩
  rw [← hd]
  have hal : a < fs.length := by omega
  have hdl : d < fs.length := by omega
  rw [getD_at hal, getD_at hdl]
  have f1 := hp a hal
  have f2 := hp d hdl
  obtain ⟨A, b, o, cap, rfl, _, _, hA, hcell⟩ := hvf.form
  obtain rfl := hA (by omega)
  have g1 := hcell a hal
  have g2 := hcell d hdl
  have i1 : (a : Int) < (fs.length : Int) := by omega
  have i2 : (d : Int) < (fs.length : Int) := by omega
  have k1 : IntKind.i64.wrap ((X : Int) + (c : Int)) = (d : Int) := by rw [IntWalk.i64_in _ (by omega)]; omega
  generalize fs[a] = p at *
  generalize fs[d] = q at *
  obtain ⟨va, vl, vc, rfl⟩ := hv.shape
  have B0 := Lib.hid (below_al (Below.refl w.heap.size w) (.cells #[.int .i64 0, .int .i64 0, .int .i64 0, .int .i64 0] 65))
  have R0 := Lib.hid (Blk.new w 65 #[.int .i64 0, .int .i64 0, .int .i64 0, .int .i64 0])
  have l0 : p0 < w.heap.size := h0.lt
  have l1 : p1 < w.heap.size := World.block_lt_of_cell? _ _ h1
  have l3 : b < w.heap.size := World.block_lt_of_cell? _ _ g1
  have ne0 : p0 ≠ w.heap.size := by omega
  have ne1 : p1 ≠ w.heap.size := by omega
  have ne2 : b ≠ w.heap.size := by omega
  obtain ⟨c0, c1, c2, c3, c4⟩ := four_cells (h0.below B0.out)
  have e1 := below_cell B0.out _ _ h1
  have e2 := below_cell B0.out _ _ g1
  have e3 := below_cell B0.out _ _ g2
  clear hcell hA hv hvf hp hl hok hX hY h0 h1 g1 g2 hal hdl hd
  obtain rfl | rfl : p = 0 ∨ p = 1 := by omega
  · obtain rfl | rfl : q = 0 ∨ q = 1 := by omega
    · skip
      show Calls _ _ _ _ fun e w' => e = .returned (.agg #[.int .i64 (nn xss (a * Y + c) 0), .int .i64 (nn xss (a * Y + c) 1), .int .i64 (nn xss (a * Y + c) 2), .int .i64 (nn xss (a * Y + c) 3)]) ∧ Below w.heap.size w w'
      generalize nn xss (a * Y + c) 0 = n0 at *
      generalize nn xss (a * Y + c) 1 = n1 at *
      generalize nn xss (a * Y + c) 2 = n2 at *
      generalize nn xss (a * Y + c) 3 = n3 at *
      have H1 := Lib.hid HRW
      clear HRW f1 f2
      go_enter Try.func132, Try.ntmps132
      go_wp2_with fail
      go_region_held3 (fun w' => w'.cell? ⟨p0, 0, none⟩ = some (.int .i64 (X : Int)) ∧ w'.cell? ⟨p0, 1, none⟩ = some (.int .i64 (Y : Int)) ∧ w'.cell? ⟨p0, 2, none⟩ = some (.int .i64 wh) ∧ w'.cell? ⟨p0, 3, none⟩ = some (.slice va vl vc) ∧ w'.cell? ⟨p1, 0, none⟩ = some (.slice (some ⟨b, o, none⟩) fs.length cap) ∧ w'.cell? ⟨b, o + a, none⟩ = some (.int .i64 0) ∧ w'.cell? ⟨b, o + d, none⟩ = some (.int .i64 0))
        ((refine step.offs7 (R := w.heap.size) c0 c1 c2 c3 e1 e2 e3 ne0 ne0 ne0 ne0 ne1 ne2 ne2 ?_; repeat (first | (with_reducible exact step.Off.refl _ _) | (with_reducible refine step.Off.drew ?_) | (with_reducible refine step.Off.setCell ?_ _ _ rfl) | (with_reducible refine step.Off.below ?_ hb1) | (with_reducible refine step.Off.below ?_ hb2))))
        (first
          | (go_at_call 119; (with_reducible refine (H1.out _ (below_dr B0.out)).mono ?_); rintro e w3 ⟨rfl, hb1⟩)
          | (go_at_call 133; (with_reducible refine (flipped00 n0 n1 n2 n3 _).mono ?_); rintro e w4 ⟨rfl, hb2⟩; have R4 := R0.out.below (below_tr (below_tr (below_dr (Below.refl _ _)) hb1) hb2); obtain ⟨r0, r1, r2, r3, r4⟩ := four_cells R4; have rf : ∀ k, w4.frozen? ⟨w.heap.size, k, none⟩ = false := fun k => Joins.unfrozen_of_block R4 k))
      have B4 := Lib.hid (below_tr B0.out (below_tr (below_tr (below_dr (Below.refl _ _)) hb1) hb2))
      clear hb1 hb2 R4 c0 c1 c2 c3 c4 e1 e2 e3
      go_wp2_with fail
      refine bodyPost_ret (v := .agg #[.int .i64 n0, .int .i64 n1, .int .i64 n2, .int .i64 n3]) (by simp [results, Try.results132, go_sem, r0, r1, r2, r3]) rfl ⟨rfl, ?_⟩
      repeat (refine Below.setCell ?_ (by simp <;> omega) _)
      exact B4.out
    · skip
      show Calls _ _ _ _ fun e w' => e = .returned (.agg #[.int .i64 (nn xss (a * Y + c) 1), .int .i64 (nn xss (a * Y + c) 0), .int .i64 (nn xss (a * Y + c) 3), .int .i64 (nn xss (a * Y + c) 2)]) ∧ Below w.heap.size w w'
      generalize nn xss (a * Y + c) 0 = n0 at *
      generalize nn xss (a * Y + c) 1 = n1 at *
      generalize nn xss (a * Y + c) 2 = n2 at *
      generalize nn xss (a * Y + c) 3 = n3 at *
      have H1 := Lib.hid HRW
      clear HRW f1 f2
      go_enter Try.func132, Try.ntmps132
      go_wp2_with fail
      go_region_held3 (fun w' => w'.cell? ⟨p0, 0, none⟩ = some (.int .i64 (X : Int)) ∧ w'.cell? ⟨p0, 1, none⟩ = some (.int .i64 (Y : Int)) ∧ w'.cell? ⟨p0, 2, none⟩ = some (.int .i64 wh) ∧ w'.cell? ⟨p0, 3, none⟩ = some (.slice va vl vc) ∧ w'.cell? ⟨p1, 0, none⟩ = some (.slice (some ⟨b, o, none⟩) fs.length cap) ∧ w'.cell? ⟨b, o + a, none⟩ = some (.int .i64 0) ∧ w'.cell? ⟨b, o + d, none⟩ = some (.int .i64 1))
        ((refine step.offs7 (R := w.heap.size) c0 c1 c2 c3 e1 e2 e3 ne0 ne0 ne0 ne0 ne1 ne2 ne2 ?_; repeat (first | (with_reducible exact step.Off.refl _ _) | (with_reducible refine step.Off.drew ?_) | (with_reducible refine step.Off.setCell ?_ _ _ rfl) | (with_reducible refine step.Off.below ?_ hb1) | (with_reducible refine step.Off.below ?_ hb2))))
        (first
          | (go_at_call 119; (with_reducible refine (H1.out _ (below_dr B0.out)).mono ?_); rintro e w3 ⟨rfl, hb1⟩)
          | (go_at_call 133; (with_reducible refine (flipped01 n0 n1 n2 n3 _).mono ?_); rintro e w4 ⟨rfl, hb2⟩; have R4 := R0.out.below (below_tr (below_tr (below_dr (Below.refl _ _)) hb1) hb2); obtain ⟨r0, r1, r2, r3, r4⟩ := four_cells R4; have rf : ∀ k, w4.frozen? ⟨w.heap.size, k, none⟩ = false := fun k => Joins.unfrozen_of_block R4 k))
      have B4 := Lib.hid (below_tr B0.out (below_tr (below_tr (below_dr (Below.refl _ _)) hb1) hb2))
      clear hb1 hb2 R4 c0 c1 c2 c3 c4 e1 e2 e3
      go_wp2_with fail
      refine bodyPost_ret (v := .agg #[.int .i64 n1, .int .i64 n0, .int .i64 n3, .int .i64 n2]) (by simp [results, Try.results132, go_sem, r0, r1, r2, r3]) rfl ⟨rfl, ?_⟩
      repeat (refine Below.setCell ?_ (by simp <;> omega) _)
      exact B4.out
  · obtain rfl | rfl : q = 0 ∨ q = 1 := by omega
    · skip
      show Calls _ _ _ _ fun e w' => e = .returned (.agg #[.int .i64 (nn xss (a * Y + c) 2), .int .i64 (nn xss (a * Y + c) 3), .int .i64 (nn xss (a * Y + c) 0), .int .i64 (nn xss (a * Y + c) 1)]) ∧ Below w.heap.size w w'
      generalize nn xss (a * Y + c) 0 = n0 at *
      generalize nn xss (a * Y + c) 1 = n1 at *
      generalize nn xss (a * Y + c) 2 = n2 at *
      generalize nn xss (a * Y + c) 3 = n3 at *
      have H1 := Lib.hid HRW
      clear HRW f1 f2
      go_enter Try.func132, Try.ntmps132
      go_wp2_with fail
      go_region_held3 (fun w' => w'.cell? ⟨p0, 0, none⟩ = some (.int .i64 (X : Int)) ∧ w'.cell? ⟨p0, 1, none⟩ = some (.int .i64 (Y : Int)) ∧ w'.cell? ⟨p0, 2, none⟩ = some (.int .i64 wh) ∧ w'.cell? ⟨p0, 3, none⟩ = some (.slice va vl vc) ∧ w'.cell? ⟨p1, 0, none⟩ = some (.slice (some ⟨b, o, none⟩) fs.length cap) ∧ w'.cell? ⟨b, o + a, none⟩ = some (.int .i64 1) ∧ w'.cell? ⟨b, o + d, none⟩ = some (.int .i64 0))
        ((refine step.offs7 (R := w.heap.size) c0 c1 c2 c3 e1 e2 e3 ne0 ne0 ne0 ne0 ne1 ne2 ne2 ?_; repeat (first | (with_reducible exact step.Off.refl _ _) | (with_reducible refine step.Off.drew ?_) | (with_reducible refine step.Off.setCell ?_ _ _ rfl) | (with_reducible refine step.Off.below ?_ hb1) | (with_reducible refine step.Off.below ?_ hb2))))
        (first
          | (go_at_call 119; (with_reducible refine (H1.out _ (below_dr B0.out)).mono ?_); rintro e w3 ⟨rfl, hb1⟩)
          | (go_at_call 133; (with_reducible refine (flipped10 n0 n1 n2 n3 _).mono ?_); rintro e w4 ⟨rfl, hb2⟩; have R4 := R0.out.below (below_tr (below_tr (below_dr (Below.refl _ _)) hb1) hb2); obtain ⟨r0, r1, r2, r3, r4⟩ := four_cells R4; have rf : ∀ k, w4.frozen? ⟨w.heap.size, k, none⟩ = false := fun k => Joins.unfrozen_of_block R4 k))
      have B4 := Lib.hid (below_tr B0.out (below_tr (below_tr (below_dr (Below.refl _ _)) hb1) hb2))
      clear hb1 hb2 R4 c0 c1 c2 c3 c4 e1 e2 e3
      go_wp2_with fail
      refine bodyPost_ret (v := .agg #[.int .i64 n2, .int .i64 n3, .int .i64 n0, .int .i64 n1]) (by simp [results, Try.results132, go_sem, r0, r1, r2, r3]) rfl ⟨rfl, ?_⟩
      repeat (refine Below.setCell ?_ (by simp <;> omega) _)
      exact B4.out
    · skip
      show Calls _ _ _ _ fun e w' => e = .returned (.agg #[.int .i64 (nn xss (a * Y + c) 3), .int .i64 (nn xss (a * Y + c) 2), .int .i64 (nn xss (a * Y + c) 1), .int .i64 (nn xss (a * Y + c) 0)]) ∧ Below w.heap.size w w'
      generalize nn xss (a * Y + c) 0 = n0 at *
      generalize nn xss (a * Y + c) 1 = n1 at *
      generalize nn xss (a * Y + c) 2 = n2 at *
      generalize nn xss (a * Y + c) 3 = n3 at *
      have H1 := Lib.hid HRW
      clear HRW f1 f2
      go_enter Try.func132, Try.ntmps132
      go_wp2_with fail
      go_region_held3 (fun w' => w'.cell? ⟨p0, 0, none⟩ = some (.int .i64 (X : Int)) ∧ w'.cell? ⟨p0, 1, none⟩ = some (.int .i64 (Y : Int)) ∧ w'.cell? ⟨p0, 2, none⟩ = some (.int .i64 wh) ∧ w'.cell? ⟨p0, 3, none⟩ = some (.slice va vl vc) ∧ w'.cell? ⟨p1, 0, none⟩ = some (.slice (some ⟨b, o, none⟩) fs.length cap) ∧ w'.cell? ⟨b, o + a, none⟩ = some (.int .i64 1) ∧ w'.cell? ⟨b, o + d, none⟩ = some (.int .i64 1))
        ((refine step.offs7 (R := w.heap.size) c0 c1 c2 c3 e1 e2 e3 ne0 ne0 ne0 ne0 ne1 ne2 ne2 ?_; repeat (first | (with_reducible exact step.Off.refl _ _) | (with_reducible refine step.Off.drew ?_) | (with_reducible refine step.Off.setCell ?_ _ _ rfl) | (with_reducible refine step.Off.below ?_ hb1) | (with_reducible refine step.Off.below ?_ hb2))))
        (first
          | (go_at_call 119; (with_reducible refine (H1.out _ (below_dr B0.out)).mono ?_); rintro e w3 ⟨rfl, hb1⟩)
          | (go_at_call 133; (with_reducible refine (flipped11 n0 n1 n2 n3 _).mono ?_); rintro e w4 ⟨rfl, hb2⟩; have R4 := R0.out.below (below_tr (below_tr (below_dr (Below.refl _ _)) hb1) hb2); obtain ⟨r0, r1, r2, r3, r4⟩ := four_cells R4; have rf : ∀ k, w4.frozen? ⟨w.heap.size, k, none⟩ = false := fun k => Joins.unfrozen_of_block R4 k))
      have B4 := Lib.hid (below_tr B0.out (below_tr (below_tr (below_dr (Below.refl _ _)) hb1) hb2))
      clear hb1 hb2 R4 c0 c1 c2 c3 c4 e1 e2 e3
      go_wp2_with fail
      refine bodyPost_ret (v := .agg #[.int .i64 n3, .int .i64 n2, .int .i64 n1, .int .i64 n0]) (by simp [results, Try.results132, go_sem, r0, r1, r2, r3]) rfl ⟨rfl, ?_⟩
      repeat (refine Below.setCell ?_ (by simp <;> omega) _)
      exact B4.out

set_option maxHeartbeats 4000000 in
theorem make_anyR (p0 p1 : Nat) (X Y : Nat) (N : Nat → Nat → Int) (w : World) (hX : X ≤ 3) (hY : Y ≤ 3)
    (hrow : ∀ (i j : Nat) (W : World), i < X → j < Y → Below w.heap.size w W → Calls Try.prog 132 #[.int .i64 (i : Int), .int .i64 (j : Int), .pointer (some ⟨p0, 0, none⟩), .pointer (some ⟨p1, 0, none⟩)] W fun e w' =>
      e = .returned (.agg #[.int .i64 (N (i * Y + j) 0), .int .i64 (N (i * Y + j) 1), .int .i64 (N (i * Y + j) 2), .int .i64 (N (i * Y + j) 3)]) ∧ Below W.heap.size W w') :
    Calls Try.prog 140 #[.int .i64 (X : Int), .int .i64 (Y : Int), .func (.func 132) #[] #[.pointer (some ⟨p0, 0, none⟩), .pointer (some ⟨p1, 0, none⟩)]] w fun e w' => ∃ u, e = .returned u ∧
      OwnRows w' w.heap.size w'.heap.size u (make.rowsOf N (X * Y)) ∧ Below w.heap.size w w' := by
  obtain ⟨i0, hi, hz0, hz1, hz2⟩ := info_parts infoInts
  have h9 : X * Y ≤ 9 := Nat.mul_le_mul hX hY
  have hm : (X : Int) * (Y : Int) = ((X * Y : Nat) : Int) := by simp
  have hmk := app.mk0s (X * Y) (by omega)
  rw [← hm] at hmk
  have hw1 : IntKind.i64.wrap ((X : Int) * (Y : Int)) = (X : Int) * (Y : Int) := IntWalk.i64_in _ (by omega)
  have HM := Lib.hid hm
  have HR := Lib.hid hrow
  have P0 : Hid (pile.Pile w (w.alloc (.cells (madeCells #[.slice none 0 0] (X * Y)) 36)) w.heap.size (w.alloc (.cells (madeCells #[.slice none 0 0] (X * Y)) 36)).heap.size (.slice (some ⟨w.heap.size, 0, none⟩) 0 (X * Y)) [] (make.rowsOf N (0 * Y))) := Lib.hid (by
    rw [Nat.zero_mul]
    refine pile.start (below_al (Below.refl _ _) _) (Nat.le_refl _) ?_ (by simp)
    have := World.ownsRow_made (base := w.heap.size) (e := 36) (size := 1) w (madeCells #[.slice none 0 0] (X * Y)) (X * Y) (Nat.le_refl _) (by unfold maxLen; omega) (by simp [madeCells])
    simpa using this)
  clear hm hrow
  go_enter Try.func140, Try.ntmps140
  go_wp2_with fail
  clear hmk hw1
  go_loopw [7, 17] (fun v i wr => ∃ a : Nat, a ≤ X ∧ i = .int .i64 a ∧ ∃ vals, Hid (pile.Pile w wr w.heap.size wr.heap.size v vals (make.rowsOf N (a * Y)))) (fun _ i _ => X - (intOf i).toNat)
  case atStart => exact ⟨0, Nat.zero_le _, rfl, _, P0⟩
  case round =>
    obtain ⟨a, ha, rfl, vals, hP⟩ := hrel
    clear P0
    obtain ⟨wo, rfl⟩ : ∃ wo : World, wo = wr := ⟨_, rfl⟩
    by_cases hlt : a < X
    · have hkz : (a : Int) < (X : Int) := by omega
      go_wp2_with fail
      go_loopw [7, 21] (fun v j wi => ∃ c : Nat, c ≤ Y ∧ j = .int .i64 c ∧ ∃ vals, Hid (pile.Pile w wi w.heap.size wi.heap.size v vals (make.rowsOf N (a * Y + c)))) (fun _ j _ => Y - (intOf j).toNat)
      case atStart => exact ⟨0, Nat.zero_le _, rfl, _, hP⟩
      case round =>
        obtain ⟨c, hc, rfl, vals, hP⟩ := hrel
        obtain ⟨wi, rfl⟩ : ∃ wi : World, wi = wr := ⟨_, rfl⟩
        by_cases hlc : c < Y
        · have hkc : (c : Int) < (Y : Int) := by omega
          have HCA := Lib.hid (HR.out a c wi hlt hlc hP.out.below)
          have hk9 : a * Y + c < 9 := by
            have h1 : a * Y + c < (a + 1) * Y := by rw [Nat.add_mul]; omega
            have h2 : (a + 1) * Y ≤ X * Y := Nat.mul_le_mul_right _ (by omega)
            omega
          have HK9 := Lib.hid hk9
          have HLE := Lib.hid (make.len_rowsOf N (a * Y + c))
          clear hk9
          go_wp2_with fail
          refine HCA.out.mono ?_
          rintro e w2 ⟨rfl, hb⟩
          have W2 := Lib.hid (hP.out.keep hb)
          have hcp := row.copy4p (W := w2.alloc (.cells #[.int .i64 (N (a * Y + c) 0), .int .i64 (N (a * Y + c) 1), .int .i64 (N (a * Y + c) 2), .int .i64 (N (a * Y + c) 3)] 65)) (b := w2.heap.size) (o := 0) (cap := 4) (n := w2.heap.size + 1)
            (n0 := .int .i64 (N (a * Y + c) 0)) (n1 := .int .i64 (N (a * Y + c) 1)) (n2 := .int .i64 (N (a * Y + c) 2)) (n3 := .int .i64 (N (a * Y + c) 3)) #[.int .i64 0, .int .i64 0, .int .i64 0, .int .i64 0] 3 rfl (by simp)
            (by rw [Joins.cell_of_block (heap_alloc_new w2 _)]; rfl) (by rw [Joins.cell_of_block (heap_alloc_new w2 _)]; rfl) (by rw [Joins.cell_of_block (heap_alloc_new w2 _)]; rfl) (by rw [Joins.cell_of_block (heap_alloc_new w2 _)]; rfl) rfl rfl rfl rfl
          have hrowis : ((w2.alloc (.cells #[.int .i64 (N (a * Y + c) 0), .int .i64 (N (a * Y + c) 1), .int .i64 (N (a * Y + c) 2), .int .i64 (N (a * Y + c) 3)] 65)).alloc (.cells #[.int .i64 (N (a * Y + c) 0), .int .i64 (N (a * Y + c) 1), .int .i64 (N (a * Y + c) 2), .int .i64 (N (a * Y + c) 3)] 3)).rowIs (w2.heap.size + 1) 3 4 (fun j => .int .i64 ((make.quad N (a * Y + c)).getD j 0)) := by
            refine ⟨#[.int .i64 (N (a * Y + c) 0), .int .i64 (N (a * Y + c) 1), .int .i64 (N (a * Y + c) 2), .int .i64 (N (a * Y + c) 3)], by
              have := heap_alloc_new (w2.alloc (.cells #[.int .i64 (N (a * Y + c) 0), .int .i64 (N (a * Y + c) 1), .int .i64 (N (a * Y + c) 2), .int .i64 (N (a * Y + c) 3)] 65)) (.cells #[.int .i64 (N (a * Y + c) 0), .int .i64 (N (a * Y + c) 1), .int .i64 (N (a * Y + c) 2), .int .i64 (N (a * Y + c) 3)] 3)
              simpa using this, rfl, fun i hi => ?_⟩
            match i, hi with
            | 0, _ => rfl
            | 1, _ => rfl
            | 2, _ => rfl
            | 3, _ => rfl
          have HRI := Lib.hid (hrowis.alloc (.cells #[.slice (some ⟨w2.heap.size + 1, 0, none⟩) 4 4] 36))
          have P3 := Lib.hid (((W2.out.keep (below_al (Below.refl _ _) (.cells #[.int .i64 (N (a * Y + c) 0), .int .i64 (N (a * Y + c) 1), .int .i64 (N (a * Y + c) 2), .int .i64 (N (a * Y + c) 3)] 65))).keep (below_al (Below.refl _ _) (.cells #[.int .i64 (N (a * Y + c) 0), .int .i64 (N (a * Y + c) 1), .int .i64 (N (a * Y + c) 2), .int .i64 (N (a * Y + c) 3)] 3))).keep (below_al (Below.refl _ _) (.cells #[.slice (some ⟨w2.heap.size + 1, 0, none⟩) 4 4] 36)))
          have hm4 := make.mk4
          have hsz := hb.size
          have hsw := W2.out.below.size
          clear hb hP HCA hrowis W2
          go_wp2_with (at_builtin; go_must (refine wpList_append_own _ rfl (.tmp 32) (.tmp 34) 22 rfl w.heap.size 36 i0 (.slice none 0 0) 1 24 Try.underlying22 hi hz0 hz1 hz2 rfl (by decide) _ _ _ rfl P3.out.owns ⟨w2.heap.size + 1 + 1, 0, none⟩ 1 1 [.slice (some ⟨w2.heap.size + 1, 0, none⟩) 4 4] rfl rfl ?c1 ?c2 ?c3 ?c4 ?c5 ?_))
          case c1 =>
            have := app.one_at ((w2.alloc (.cells #[.int .i64 (N (a * Y + c) 0), .int .i64 (N (a * Y + c) 1), .int .i64 (N (a * Y + c) 2), .int .i64 (N (a * Y + c) 3)] 65)).alloc (.cells #[.int .i64 (N (a * Y + c) 0), .int .i64 (N (a * Y + c) 1), .int .i64 (N (a * Y + c) 2), .int .i64 (N (a * Y + c) 3)] 3)) (.slice (some ⟨w2.heap.size + 1, 0, none⟩) 4 4) 36
            simpa using this
          case c2 => intro u hu; simp at hu; subst hu; rfl
          case c3 => rw [HLE.out]; have := HK9.out; unfold maxLen; omega
          case c4 => rw [HLE.out]; have := HK9.out; omega
          case c5 => simp; omega
          intro v' w3 hown' hgrow _
          have P4 : Hid (pile.Pile w w3 w.heap.size w3.heap.size v' (vals ++ [.slice (some ⟨w2.heap.size + 1, 0, none⟩) 4 4]) (make.rowsOf N (a * Y + (c + 1)))) := Lib.hid (by
            have e : make.rowsOf N (a * Y + (c + 1)) = make.rowsOf N (a * Y + c) ++ [make.quad N (a * Y + c)] := by simp [make.rowsOf, ← Nat.add_assoc, List.range_succ]
            rw [e]
            refine P3.out.grow (m' := w2.heap.size + 1) (T := w2.heap.size + 1 + 1) (ints.own_of_row (xs := make.quad N (a * Y + c)) HRI.out (Nat.le_refl _) (by omega) (by simp [make.quad, maxLen])) (by omega) (by simp) (pile.typ_row HRI.out _ _) hown' hgrow)
          obtain ⟨va, vl, vc, rfl⟩ := make.shape hown'
          clear hown' hgrow P3 HRI hcp hm4
          go_wp2_with fail
          go_roundw
          case rel => exact ⟨c + 1, by omega, by go_num, _, P4⟩
          case measure => simp [intOf]; omega
        · have hkc : ¬ (c : Int) < (Y : Int) := by omega
          obtain rfl : c = Y := by omega
          go_wp2_with fail
          go_roundw
          case rel => exact ⟨a + 1, by omega, by go_num, vals, by rw [Nat.add_mul, Nat.one_mul]; exact hP⟩
          case measure => simp [intOf]; omega
    · have hkz : ¬ (a : Int) < (X : Int) := by omega
      obtain rfl : a = X := by omega
      obtain ⟨va, vl, vc, rfl⟩ := make.shape hP.out.owns
      go_wp2_with fail
      go_ret
      exact ⟨_, rfl, hP.out.rows, hP.out.below⟩

set_option maxHeartbeats 2000000 in
theorem make_any (p0 p1 : Nat) (X Y : Nat) (wh : Int) (N : Nat → Nat → Int) (w : World) (hX : X ≤ 3) (hY : Y ≤ 3)
    (hrow : ∀ (i j : Nat) (W : World), i < X → j < Y → Below w.heap.size w W → Calls Try.prog 132 #[.int .i64 (i : Int), .int .i64 (j : Int), .pointer (some ⟨p0, 0, none⟩), .pointer (some ⟨p1, 0, none⟩)] W fun e w' =>
      e = .returned (.agg #[.int .i64 (N (i * Y + j) 0), .int .i64 (N (i * Y + j) 1), .int .i64 (N (i * Y + j) 2), .int .i64 (N (i * Y + j) 3)]) ∧ Below W.heap.size W w') :
    Calls Try.prog 108 #[.int .i64 (X : Int), .int .i64 (Y : Int), .int .i64 wh, .func (.func 132) #[] #[.pointer (some ⟨p0, 0, none⟩), .pointer (some ⟨p1, 0, none⟩)]] w fun e w' => ∃ u, e = .returned (.agg #[.int .i64 (X : Int), .int .i64 (Y : Int), .int .i64 wh, u]) ∧
      OwnRows w' w.heap.size w'.heap.size u (make.rowsOf N (X * Y)) ∧ Below w.heap.size w w' := by
  have HC : Hid (∀ W, Below w.heap.size w W → Calls Try.prog 140 #[.int .i64 (X : Int), .int .i64 (Y : Int), .func (.func 132) #[] #[.pointer (some ⟨p0, 0, none⟩), .pointer (some ⟨p1, 0, none⟩)]] W fun e w' => ∃ u, e = .returned u ∧
      OwnRows w' W.heap.size w'.heap.size u (make.rowsOf N (X * Y)) ∧ Below W.heap.size W w') := Lib.hid (fun W hW => make_anyR p0 p1 X Y N W hX hY (fun i j W' h1 h2 hb => hrow i j W' h1 h2 (below_tr hW hb)))
  clear hrow
  go_enter Try.func108, Try.ntmps108
  go_wp2_with fail
  refine (HC.out _ (below_al (Below.refl _ _) _)).mono ?_
  rintro e w1 ⟨u, rfl, hu, hb⟩
  obtain ⟨va, vl, vc, rfl⟩ := hu.rows.shape
  have HU := Lib.hid hu
  have HB := Lib.hid hb
  have HRS := Lib.hid ((Blk.new w 24 #[.int .i64 0, .int .i64 0, .int .i64 0, .slice none 0 0]).below hb)
  obtain ⟨r0, r1, r2, r3, r4⟩ := four_cells HRS.out
  have rf : ∀ k, w1.frozen? ⟨w.heap.size, k, none⟩ = false := fun k => Joins.unfrozen_of_block HRS.out k
  clear hu hb
  go_wp2_with fail
  refine bodyPost_ret (v := .agg #[.int .i64 (X : Int), .int .i64 (Y : Int), .int .i64 wh, .slice va vl vc]) (by simp [results, Try.results108, go_sem, r0, r1, r2, r3]) rfl ⟨_, rfl, ?_, ?_⟩
  · refine (HU.out.wrote (S := fun p => p.block < w.heap.size + 1) ?_ (fun p hp => .inl (by simpa using hp))).mono (by simp) (by simp [World.setCell])
    repeat (first | exact Wrote.refl _ _ | refine Wrote.setCell ?_ (by simp) _)
  · repeat (refine Below.setCell ?_ (by simp <;> omega) _)
    exact below_tr (below_al (Below.refl _ _) _) HB.out

end Go.Proofs.Ytlaaiahkdkhehaa.flipa
