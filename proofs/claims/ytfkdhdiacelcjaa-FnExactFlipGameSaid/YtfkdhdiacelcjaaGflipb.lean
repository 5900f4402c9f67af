/- FlipGame of the program: the whole. -/
import Derived.Test.YtfkdhdiacelcjaaShelf
import Derived.Test.YtfkdhdiacelcjaaGvali
import Derived.Test.YtfkdhdiacelcjaaGflipa
namespace Go.Proofs.Ytfkdhdiacelcjaa.gflip
open Go.RowKit Go.Deep Go.Proofs.Ytfkdhdiacelcjaa.base
open Go.Proofs.Ytfkdhdiacelcjaa.rws (total)
open Go.Proofs.Ytfkdhdiacelcjaa.gval (okGame gameB)
open Go.Proofs.Ytfkdhdiacelcjaa.play (within withinB withinB_yes withinB_no)

structure Res where
  x : Int
  y : Int
  ws : List Int
  rows : List (List Int)
  ok : Bool
def Res.zero : Res := ⟨0, 0, [], [], false⟩
def all (x y : Int) (ws : List Int) (xss : List (List Int)) (fs : List Int) : Prop := okGame x y ws xss ∧ within (x + y) 0 1 fs
open Classical in
noncomputable def res (x y : Int) (ws : List Int) (xss : List (List Int)) (fs : List Int) : Res := if all x y ws xss fs then ⟨x, y, ws, make.rowsOf (N xss fs x.toNat y.toNat) (x * y).toNat, true⟩ else Res.zero
theorem res_yes {x y : Int} {ws : List Int} {xss : List (List Int)} {fs : List Int} (h : all x y ws xss fs) : res x y ws xss fs = ⟨x, y, ws, make.rowsOf (N xss fs x.toNat y.toNat) (x * y).toNat, true⟩ := if_pos h
theorem res_no {x y : Int} {ws : List Int} {xss : List (List Int)} {fs : List Int} (h : ¬ all x y ws xss fs) : res x y ws xss fs = Res.zero := if_neg h
theorem res_nat {X Y : Nat} {ws : List Int} {xss : List (List Int)} {fs : List Int} (h : all X Y ws xss fs) : res X Y ws xss fs = ⟨X, Y, ws, make.rowsOf (N xss fs X Y) (X * Y), true⟩ := by
  rw [res_yes h, ← Int.natCast_mul]; rfl
theorem tot (x y : Int) (ws : List Int) (xss : List (List Int)) (fs : List Int) : total (res x y ws xss fs).rows ≤ 1048576 := by
  by_cases h : all x y ws xss fs
  · rw [res_yes h]; exact make.total_rowsOf _ _ (by have := val.mul_small h.1.1; omega)
  · rw [res_no h]; exact Nat.zero_le _
theorem len_ws (x y : Int) (ws : List Int) (xss : List (List Int)) (fs : List Int) : (res x y ws xss fs).ws.length ≤ 1048576 := by
  by_cases h : all x y ws xss fs
  · rw [res_yes h]
    have h1 := h.1.2.1
    have h2 := val.mul_small h.1.1
    show ws.length ≤ _
    omega
  · rw [res_no h]; exact Nat.zero_le _

/-- the weights' clone -/
theorem clone (v : Value) (ws : List Int) (X Y : Nat) (xss : List (List Int)) (w : World) (h : Ints w v ws) (hok : okGame X Y ws xss) :
    Calls Try.prog 63 #[v] w fun e w' => ∃ q, e = .returned q ∧ OwnInts w' w.heap.size w'.heap.size q ws ∧ Below w.heap.size w w' := by
  have h1 := hok.2.1
  have h2 := val.mul_small hok.1
  have h3 : 0 < ws.length := by
    rcases Nat.eq_zero_or_pos ws.length with z | z
    · have := hok.2.2.2.2.2
      rw [List.length_eq_zero_iff.1 z] at this; simp at this
    · exact z
  obtain ⟨A, b, o, cap, rfl, _, _, hA, hc⟩ := h.form
  obtain rfl := hA h3
  refine (Try.slices_Clone_int b o ws.length cap ws w (Nat.le_refl _) (by omega) (fun j hj => by rw [hc j hj]; simp [List.getD, hj])).mono ?_
  rintro e w1 ⟨q, rfl, hq, _, hb⟩
  rw [List.take_length] at hq
  exact ⟨q, rfl, app.ints_of_owns hq, hb⟩

set_option maxHeartbeats 4000000 in
theorem impl_any (x y : Int) (wv : Value) (ws : List Int) (v : Value) (xss : List (List Int)) (vf : Value) (fs : List Int) (w : World) (h : game.GV w wv ws v xss) (hf : Ints w vf fs) (hn : ws.length ≤ 1048576) (hm : total xss ≤ 1048576) :
    Calls Try.prog 25 #[.agg #[.int .i64 x, .int .i64 y, wv, v], vf] w fun e w' => ∃ a r, e = .returned (.tuple #[.agg #[.int .i64 (res x y ws xss fs).x, .int .i64 (res x y ws xss fs).y, a, r], .bool (res x y ws xss fs).ok]) ∧ game.OG w' w.heap.size w'.heap.size a (res x y ws xss fs).ws r (res x y ws xss fs).rows ∧ Below w.heap.size w w' := by
  have HV0 := Lib.hid h
  have HF0 := Lib.hid hf
  obtain ⟨wa, wn, wc, A, vn, vc, rfl, rfl⟩ := h.shape
  obtain ⟨fa, fn, fc, rfl⟩ := hf.shape
  clear h hf
  have B0 := Lib.hid (below_al (below_al (below_al (Below.refl w.heap.size w) (.cells #[.int .i64 x, .int .i64 y, .slice wa wn wc, .slice A vn vc] 25)) (.cells #[.slice fa fn fc] 22)) (.cells #[.int .i64 0, .int .i64 0, .slice none 0 0, .slice none 0 0] 25))
  have R0 : Hid (Blk (((w.alloc (.cells #[.int .i64 x, .int .i64 y, .slice wa wn wc, .slice A vn vc] 25)).alloc (.cells #[.slice fa fn fc] 22)).alloc (.cells #[.int .i64 0, .int .i64 0, .slice none 0 0, .slice none 0 0] 25)) (w.heap.size + 1 + 1) 25 #[.int .i64 0, .int .i64 0, .slice none 0 0, .slice none 0 0]) := Lib.hid (by
    have := Blk.new ((w.alloc (.cells #[.int .i64 x, .int .i64 y, .slice wa wn wc, .slice A vn vc] 25)).alloc (.cells #[.slice fa fn fc] 22)) 25 #[.int .i64 0, .int .i64 0, .slice none 0 0, .slice none 0 0]
    simpa using this)
  have F0 : Hid ((((w.alloc (.cells #[.int .i64 x, .int .i64 y, .slice wa wn wc, .slice A vn vc] 25)).alloc (.cells #[.slice fa fn fc] 22)).alloc (.cells #[.int .i64 0, .int .i64 0, .slice none 0 0, .slice none 0 0] 25)).cell? ⟨w.heap.size + 1, 0, none⟩ = some (.slice fa fn fc)) := Lib.hid (by
    have := (Blk.new (w.alloc (.cells #[.int .i64 x, .int .i64 y, .slice wa wn wc, .slice A vn vc] 25)) 22 #[.slice fa fn fc]).alloc (.cells #[.int .i64 0, .int .i64 0, .slice none 0 0, .slice none 0 0] 25)
    simpa using cell_of_one this)
  have P0 : Hid (Blk (((w.alloc (.cells #[.int .i64 x, .int .i64 y, .slice wa wn wc, .slice A vn vc] 25)).alloc (.cells #[.slice fa fn fc] 22)).alloc (.cells #[.int .i64 0, .int .i64 0, .slice none 0 0, .slice none 0 0] 25)) w.heap.size 25 #[.int .i64 x, .int .i64 y, .slice wa wn wc, .slice A vn vc]) := Lib.hid (((Blk.new w 25 #[.int .i64 x, .int .i64 y, .slice wa wn wc, .slice A vn vc]).alloc _).alloc _)
  have CP := Lib.hid (gval.impl_any x y _ ws _ xss _ (HV0.out.below B0.out) hn hm)
  by_cases hs : okGame x y ws xss
  · have EB := Lib.hid (gval.gameB_yes hs)
    obtain ⟨⟨hX1, hX2⟩, hY1, hY2⟩ := hs.1
    by_cases hw : within (x + y) 0 1 fs
    · have HA := Lib.hid (show all x y ws xss fs from ⟨hs, hw⟩)
      have HC := Lib.hid (fun (W : World) (hb : Below w.heap.size w W) => withinB_yes hw ▸ play.impl_bits _ fs (x + y) W (HF0.out.below hb))
      obtain ⟨X, rfl⟩ : ∃ X : Nat, x = X := ⟨x.toNat, by omega⟩
      obtain ⟨Y, rfl⟩ : ∃ Y : Nat, y = Y := ⟨y.toNat, by omega⟩
      have HE := Lib.hid (res_nat HA.out)
      have hl : fs.length = X + Y := by have := hw.1; omega
      have HMK := Lib.hid (fun (W : World) (hb0 : Below w.heap.size w W) (hP : Blk W w.heap.size 25 #[.int .i64 (X : Int), .int .i64 (Y : Int), .slice wa wn wc, .slice A vn vc]) (hg : W.cell? ⟨w.heap.size + 1, 0, none⟩ = some (.slice fa fn fc)) => make_anyR w.heap.size (w.heap.size + 1) X Y (N xss fs X Y) W (by omega) (by omega) (fun i j W' hi hj hb =>
        clo w.heap.size (w.heap.size + 1) X Y _ _ _ ws xss fs i j W' (hP.below hb) (below_cell hb _ _ hg) (HV0.out.below (below_tr hb0 hb)) (HF0.out.below (below_tr hb0 hb)) HA.out.1 hl HA.out.2.2 hi hj))
      clear hs hw hl
      go_enter Try.func25, Try.ntmps25
      go_wp2_with fail
      refine CP.out.mono ?_
      rintro e w0 ⟨rfl, hb0⟩
      have B1 := Lib.hid (below_tr B0.out hb0)
      have R1 := Lib.hid (R0.out.below hb0)
      have P1 := Lib.hid (P0.out.below hb0)
      have g1 := below_cell hb0 _ _ F0.out
      obtain ⟨c0, c1, c2, c3, c4⟩ := four_cells P1.out
      rw [EB.out]
      clear hb0
      go_wp2_with fail
      refine (HC.out _ B1.out).mono ?_
      rintro e w' ⟨rfl, rfl⟩
      go_wp2_with fail
      refine (HMK.out _ B1.out P1.out g1).mono ?_
      rintro e w1 ⟨u, rfl, hu, hb⟩
      have B2 := Lib.hid (below_tr B1.out hb)
      have R2 := Lib.hid (R1.out.below hb)
      have hz0 := R1.out.lt
      have U2 := Lib.hid (hu.mono (B' := w.heap.size + 1 + 1 + 1) (by omega) (Nat.le_refl _))
      obtain ⟨ua, ul, uc, rfl⟩ := hu.rows.shape
      obtain ⟨r0, r1, r2, r3, r4⟩ := four_cells R2.out
      have rf : ∀ k, w1.frozen? ⟨w.heap.size + 1 + 1, k, none⟩ = false := fun k => Joins.unfrozen_of_block R2.out k
      clear r0 r1 r2 r3 r4 rf
      obtain ⟨d0, d1, d2, d3, d4⟩ := four_cells (P1.out.below hb)
      clear hu hb HMK R0 P0 B0 c0 c1 c2 c3 c4 g1
      have HCL := Lib.hid (fun (W : World) (hb : Below w.heap.size w W) => clone _ ws X Y xss W (HV0.out.below hb).ints HA.out.1)
      have ne0 : w.heap.size ≠ w.heap.size + 1 + 1 := by omega
      go_wp2_with fail
      go_region_held3 (fun w' => w'.cell? ⟨w.heap.size, 0, none⟩ = some (.int .i64 (X : Int)) ∧ w'.cell? ⟨w.heap.size, 1, none⟩ = some (.int .i64 (Y : Int)) ∧ w'.cell? ⟨w.heap.size, 2, none⟩ = some (.slice wa wn wc) ∧ w'.cell? ⟨w.heap.size, 3, none⟩ = some (.slice A vn vc) ∧ w'.cell? ⟨w.heap.size, 3, none⟩ = some (.slice A vn vc) ∧ w'.cell? ⟨w.heap.size, 3, none⟩ = some (.slice A vn vc) ∧ w'.cell? ⟨w.heap.size, 3, none⟩ = some (.slice A vn vc))
        ((refine step.offs7 (R := w.heap.size + 1 + 1) d0 d1 d2 d3 d3 d3 d3 ne0 ne0 ne0 ne0 ne0 ne0 ne0 ?_; repeat (first | (with_reducible exact step.Off.refl _ _) | (with_reducible refine step.Off.drew ?_) | (with_reducible refine step.Off.setCell ?_ _ _ rfl) | (with_reducible refine step.Off.below ?_ hb))))
        (first
          | (go_at_call 63; (with_reducible refine (HCL.out _ (below_dr B2.out)).mono ?_); rintro e w2 ⟨q, rfl, hq, hb⟩; obtain ⟨qa, ql, qc, rfl⟩ := hq.ints.shape; have R4 := R2.out.below (below_tr (below_dr (Below.refl _ _)) hb); obtain ⟨r0, r1, r2, r3, r4⟩ := four_cells R4; have rf : ∀ k, w2.frozen? ⟨w.heap.size + 1 + 1, k, none⟩ = false := fun k => Joins.unfrozen_of_block R4 k))
      have hbt := below_tr (below_dr (Below.refl _ _)) hb
      have B3 := Lib.hid (below_tr B2.out hbt)
      have U3 := Lib.hid (U2.out.keep hbt)
      have Q3 : Hid (OwnInts w2 w1.heap.size w2.heap.size (.slice qa ql qc) ws) := Lib.hid hq
      have hz1 := hbt.size
      have hz2 := R2.out.lt
      clear hq hb hbt HCL d0 d1 d2 d3 d4 R4
      go_wp2_with fail
      refine bodyPost_ret (v := .tuple #[.agg #[.int .i64 (X : Int), .int .i64 (Y : Int), .slice qa ql qc, .slice ua ul uc], .bool true]) (by simp [results, Try.results25, go_sem, r0, r1, r2, r3]) rfl ?_
      rw [HE.out]
      refine ⟨_, _, rfl, ?_, ?_⟩
      · have OW : game.OG w2 (w.heap.size + 1 + 1 + 1) w2.heap.size (.slice qa ql qc) ws (.slice ua ul uc) (make.rowsOf (N xss fs X Y) (X * Y)) := ⟨w1.heap.size, by omega, hz1, .inr ⟨U3.out, Q3.out⟩⟩
        refine (OW.wrote (S := fun p => p.block < w.heap.size + 1 + 1 + 1) ?_ (fun p hp => .inl hp)).mono (by omega) (by simp [World.setCell])
        repeat (first | exact Wrote.refl _ _ | refine Wrote.setCell ?_ (by simp) _)
      · repeat (refine Below.setCell ?_ (by simp <;> omega) _)
        exact B3.out
    · have HE := Lib.hid (res_no (x := x) (y := y) (ws := ws) (xss := xss) (fs := fs) (fun h => hw h.2))
      have HC := Lib.hid (fun (W : World) (hb : Below w.heap.size w W) => withinB_no hw ▸ play.impl_bits _ fs (x + y) W (HF0.out.below hb))
      clear hs hw
      go_enter Try.func25, Try.ntmps25
      go_wp2_with fail
      refine CP.out.mono ?_
      rintro e w0 ⟨rfl, hb0⟩
      have B1 := Lib.hid (below_tr B0.out hb0)
      have R1 := Lib.hid (R0.out.below hb0)
      have P1 := Lib.hid (P0.out.below hb0)
      have g1 := below_cell hb0 _ _ F0.out
      obtain ⟨c0, c1, c2, c3, c4⟩ := four_cells P1.out
      rw [EB.out]
      clear hb0
      go_wp2_with fail
      refine (HC.out _ B1.out).mono ?_
      rintro e w' ⟨rfl, rfl⟩
      obtain ⟨r0, r1, r2, r3, r4⟩ := four_cells R1.out
      have rf : ∀ k, w0.frozen? ⟨w.heap.size + 1 + 1, k, none⟩ = false := fun k => Joins.unfrozen_of_block R1.out k
      go_wp2_with fail
      refine bodyPost_ret (v := .tuple #[.agg #[.int .i64 0, .int .i64 0, .slice none 0 0, .slice none 0 0], .bool false]) (by simp [results, Try.results25, go_sem, r0, r1, r2, r3]) rfl ?_
      rw [HE.out]
      refine ⟨_, _, rfl, game.OG.nil _ _ _ (by have := B1.out.size; simp [World.setCell]; omega), ?_⟩
      repeat (first | (with_reducible exact B1.out) | refine Below.setCell ?_ (by simp <;> omega) _)
  · have EB := Lib.hid (gval.gameB_no hs)
    have HE := Lib.hid (res_no (x := x) (y := y) (ws := ws) (xss := xss) (fs := fs) (fun h => hs h.1))
    clear hs
    go_enter Try.func25, Try.ntmps25
    go_wp2_with fail
    refine CP.out.mono ?_
    rintro e w0 ⟨rfl, hb0⟩
    have B1 := Lib.hid (below_tr B0.out hb0)
    have R1 := Lib.hid (R0.out.below hb0)
    rw [EB.out]
    clear hb0
    obtain ⟨r0, r1, r2, r3, r4⟩ := four_cells R1.out
    have rf : ∀ k, w0.frozen? ⟨w.heap.size + 1 + 1, k, none⟩ = false := fun k => Joins.unfrozen_of_block R1.out k
    go_wp2_with fail
    refine bodyPost_ret (v := .tuple #[.agg #[.int .i64 0, .int .i64 0, .slice none 0 0, .slice none 0 0], .bool false]) (by simp [results, Try.results25, go_sem, r0, r1, r2, r3]) rfl ?_
    rw [HE.out]
    refine ⟨_, _, rfl, game.OG.nil _ _ _ (by have := B1.out.size; simp [World.setCell]; omega), ?_⟩
    repeat (first | (with_reducible exact B1.out) | refine Below.setCell ?_ (by simp <;> omega) _)

end Go.Proofs.Ytfkdhdiacelcjaa.gflip
