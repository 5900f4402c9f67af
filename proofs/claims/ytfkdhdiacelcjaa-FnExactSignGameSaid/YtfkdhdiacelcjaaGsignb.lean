/- SignGame of the program: the whole. -/
import Derived.Test.YtfkdhdiacelcjaaShelf
import Derived.Test.YtfkdhdiacelcjaaGsign
import Derived.Test.YtfkdhdiacelcjaaStep
import Derived.Deep.RegionHeld3
namespace Go.Proofs.Ytfkdhdiacelcjaa.gsign
open Go.RowKit Go.Deep Go.Proofs.Ytfkdhdiacelcjaa.base
open Go.Proofs.Ytfkdhdiacelcjaa.rws (total)
open Go.Proofs.Ytfkdhdiacelcjaa.val (okSizes)
open Go.Proofs.Ytfkdhdiacelcjaa.gval (okGame gameB)
open Go.Proofs.Ytfkdhdiacelcjaa.play (within withinB withinB_yes withinB_no)

structure Res where
  x : Int
  y : Int
  ws : List Int
  rows : List (List Int)
  ok : Bool
def Res.zero : Res := ⟨0, 0, [], [], false⟩
def rows (x y : Int) (ds : List Int) : List (List Int) := make.rowsOf (N ds) (x * y).toNat
def all (x y : Int) (ws ds : List Int) : Prop := okSizes x y ∧ within (x * y) 0 1 ds ∧ okGame x y ws (rows x y ds)
open Classical in
noncomputable def res (x y : Int) (ws ds : List Int) : Res := if all x y ws ds then ⟨x, y, ws, rows x y ds, true⟩ else Res.zero
theorem res_yes {x y : Int} {ws ds : List Int} (h : all x y ws ds) : res x y ws ds = ⟨x, y, ws, rows x y ds, true⟩ := if_pos h
theorem res_no {x y : Int} {ws ds : List Int} (h : ¬ all x y ws ds) : res x y ws ds = Res.zero := if_neg h
theorem tot (x y : Int) (ws ds : List Int) : total (res x y ws ds).rows ≤ 1048576 := by
  by_cases h : all x y ws ds
  · rw [res_yes h]; exact make.total_rowsOf _ _ (by have := val.mul_small h.1; omega)
  · rw [res_no h]; exact Nat.zero_le _
theorem len_ws (x y : Int) (ws ds : List Int) : (res x y ws ds).ws.length ≤ 1048576 := by
  by_cases h : all x y ws ds
  · rw [res_yes h]
    have h1 := h.2.2.2.1
    have h2 := val.mul_small h.1
    show ws.length ≤ _
    omega
  · rw [res_no h]; exact Nat.zero_le _

/-- the weights' clone, of any list -/
theorem clone (v : Value) (ws : List Int) (w : World) (h : Ints w v ws) (hn : ws.length ≤ 1048576) :
    Calls Try.prog 63 #[v] w fun e w' => ∃ q, e = .returned q ∧ OwnInts w' w.heap.size w'.heap.size q ws ∧ Below w.heap.size w w' := by
  obtain ⟨A, b, o, cap, rfl, _, _, hA, hc⟩ := h.form
  rcases Nat.eq_zero_or_pos ws.length with z | z
  · obtain rfl := List.length_eq_zero_iff.1 z
    cases A with
    | none =>
      refine (Try.slices_Clone_int_nil 0 cap w).mono ?_
      rintro e w1 ⟨rfl, rfl⟩
      exact ⟨_, rfl, OwnInts.nil _ _ _, Below.refl _ _⟩
    | some a =>
      refine (Try.slices_Clone_int_zero a cap w).mono ?_
      rintro e w1 ⟨q, rfl, hq, _, hb⟩
      exact ⟨q, rfl, app.ints_of_owns (xs := []) hq, hb⟩
  · obtain rfl := hA z
    refine (Try.slices_Clone_int b o ws.length cap ws w (Nat.le_refl _) (by omega) (fun j hj => by rw [hc j hj]; simp [List.getD, hj])).mono ?_
    rintro e w1 ⟨q, rfl, hq, _, hb⟩
    rw [List.take_length] at hq
    exact ⟨q, rfl, app.ints_of_owns hq, hb⟩

set_option maxHeartbeats 4000000 in
set_option maxHeartbeats 4000000 in
set_option maxHeartbeats 4000000 in
theorem impl_any (x y : Int) (wv : Value) (ws : List Int) (dv : Value) (ds : List Int) (w : World) (h : Ints w wv ws) (hd : Ints w dv ds) (hn : ws.length ≤ 1048576) :
    Calls Try.prog 16 #[.int .i64 x, .int .i64 y, wv, dv] w fun e w' => ∃ a r, e = .returned (.tuple #[.agg #[.int .i64 (res x y ws ds).x, .int .i64 (res x y ws ds).y, a, r], .bool (res x y ws ds).ok]) ∧ game.OG w' w.heap.size w'.heap.size a (res x y ws ds).ws r (res x y ws ds).rows ∧ Below w.heap.size w w' := by
  have HV := Lib.hid h
  have HD := Lib.hid hd
  have HN := Lib.hid hn
  obtain ⟨wa, wn, wc, rfl⟩ := h.shape
  obtain ⟨da, dn, dc, rfl⟩ := hd.shape
  clear h hd hn
  have B0 := Lib.hid (below_al (below_al (below_al (Below.refl w.heap.size w) (.cells #[.int .i64 y] 3)) (.cells #[.slice da dn dc] 22)) (.cells #[.int .i64 0, .int .i64 0, .slice none 0 0, .slice none 0 0] 25))
  have R0 : Hid (Blk (((w.alloc (.cells #[.int .i64 y] 3)).alloc (.cells #[.slice da dn dc] 22)).alloc (.cells #[.int .i64 0, .int .i64 0, .slice none 0 0, .slice none 0 0] 25)) (w.heap.size + 1 + 1) 25 #[.int .i64 0, .int .i64 0, .slice none 0 0, .slice none 0 0]) := Lib.hid (by
    have := Blk.new ((w.alloc (.cells #[.int .i64 y] 3)).alloc (.cells #[.slice da dn dc] 22)) 25 #[.int .i64 0, .int .i64 0, .slice none 0 0, .slice none 0 0]
    simpa using this)
  have q0 : Hid ((((w.alloc (.cells #[.int .i64 y] 3)).alloc (.cells #[.slice da dn dc] 22)).alloc (.cells #[.int .i64 0, .int .i64 0, .slice none 0 0, .slice none 0 0] 25)).cell? ⟨w.heap.size, 0, none⟩ = some (.int .i64 y)) := Lib.hid (cell_of_one (((Blk.new w 3 #[.int .i64 y]).alloc (.cells #[.slice da dn dc] 22)).alloc (.cells #[.int .i64 0, .int .i64 0, .slice none 0 0, .slice none 0 0] 25)))
  have q1 : Hid ((((w.alloc (.cells #[.int .i64 y] 3)).alloc (.cells #[.slice da dn dc] 22)).alloc (.cells #[.int .i64 0, .int .i64 0, .slice none 0 0, .slice none 0 0] 25)).cell? ⟨w.heap.size + 1, 0, none⟩ = some (.slice da dn dc)) := Lib.hid (by
    have := (Blk.new (w.alloc (.cells #[.int .i64 y] 3)) 22 #[.slice da dn dc]).alloc (.cells #[.int .i64 0, .int .i64 0, .slice none 0 0, .slice none 0 0] 25)
    simpa using cell_of_one this)
  by_cases hs : okSizes x y
  · have HSS := Lib.hid hs
    have hxy := val.mul_small hs
    have kw : IntKind.i64.wrap (x * y) = x * y := IntWalk.i64_in _ (by omega)
    have HKW := Lib.hid kw
    by_cases hw : within (x * y) 0 1 ds
    · have HC := Lib.hid (fun (W : World) (hb : Below w.heap.size w W) => withinB_yes hw ▸ play.impl_bits _ ds (x * y) W (HD.out.below hb))
      obtain ⟨X, rfl⟩ : ∃ X : Nat, x = X := ⟨x.toNat, by have := hs.1; omega⟩
      obtain ⟨Y, rfl⟩ : ∃ Y : Nat, y = Y := ⟨y.toNat, by have := hs.2; omega⟩
      have hX := hs.1.2
      have hY := hs.2.2
      have h9 : X * Y ≤ 9 := Nat.mul_le_mul (by omega : X ≤ 3) (by omega : Y ≤ 3)
      have HT := Lib.hid (make.total_rowsOf (N ds) (X * Y) h9)
      have hl : ds.length = X * Y := by have := hw.1; rw [← Int.natCast_mul] at this; omega
      have hrw : rows X Y ds = make.rowsOf (N ds) (X * Y) := by unfold rows; rw [← Int.natCast_mul, Int.toNat_natCast]
      have HWB := Lib.hid hw
      have HMK := Lib.hid (fun (W : World) (hb0 : Below w.heap.size w W) (g0 : W.cell? ⟨w.heap.size, 0, none⟩ = some (.int .i64 (Y : Int))) (g1 : W.cell? ⟨w.heap.size + 1, 0, none⟩ = some (.slice da dn dc)) => make_anyR (w.heap.size + 1) w.heap.size X Y (N ds) W (by omega) (by omega) (fun i j W' hi hj hb =>
        clo (w.heap.size + 1) w.heap.size X Y _ ds i j W' (below_cell hb _ _ g1) (below_cell hb _ _ g0) (HD.out.below (below_tr hb0 hb)) hl HWB.out.2 (by omega) (by omega) hi hj))
      have HCL := Lib.hid (fun (W : World) (hb : Below w.heap.size w W) => clone _ ws W (HV.out.below hb) HN.out)
      by_cases hg : okGame X Y ws (make.rowsOf (N ds) (X * Y))
      · have HE := Lib.hid (res_yes (x := X) (y := Y) (ws := ws) (ds := ds) ⟨hs, hw, by rw [hrw]; exact hg⟩)
        rw [hrw] at HE
        have HG := Lib.hid hg
        clear hs hw hl hg hrw hxy h9 hX hY
        go_enter Try.func16, Try.ntmps16
        go_wp2_with fail
        refine (val.isizes_yes _ _ _ HSS.out).mono ?_
        rintro e w' ⟨rfl, rfl⟩
        have e1 := q1.out
        have e0' := q0.out
        go_wp2_with fail
        refine (HC.out _ B0.out).mono ?_
        rintro e w' ⟨rfl, rfl⟩
        go_wp2_with fail
        clear e1 e0'

        refine (HMK.out _ B0.out q0.out q1.out).mono ?_
        rintro e w1 ⟨u, rfl, hu, hb⟩
        have B1 := Lib.hid (below_tr B0.out hb)
        have R1 := Lib.hid (R0.out.below hb)
        have U1 := Lib.hid (hu.mono (B' := w.heap.size + 1 + 1 + 1) (by simp) (Nat.le_refl _))
        have hz0 := R1.out.lt
        obtain ⟨ua, ul, uc, rfl⟩ := hu.rows.shape
        have e0 := below_cell hb _ _ q0.out
        clear hu hb HMK

        have ne0 : w.heap.size ≠ w.heap.size + 1 + 1 := by omega
        go_wp2_with fail
        go_region_held3 (fun w' => w'.cell? ⟨w.heap.size, 0, none⟩ = some (.int .i64 (Y : Int)) ∧ w'.cell? ⟨w.heap.size, 0, none⟩ = some (.int .i64 (Y : Int)) ∧ w'.cell? ⟨w.heap.size, 0, none⟩ = some (.int .i64 (Y : Int)) ∧ w'.cell? ⟨w.heap.size, 0, none⟩ = some (.int .i64 (Y : Int)) ∧ w'.cell? ⟨w.heap.size, 0, none⟩ = some (.int .i64 (Y : Int)) ∧ w'.cell? ⟨w.heap.size, 0, none⟩ = some (.int .i64 (Y : Int)) ∧ w'.cell? ⟨w.heap.size, 0, none⟩ = some (.int .i64 (Y : Int)))
          ((refine step.offs7 (R := w.heap.size + 1 + 1) e0 e0 e0 e0 e0 e0 e0 ne0 ne0 ne0 ne0 ne0 ne0 ne0 ?_; repeat (first | (with_reducible exact step.Off.refl _ _) | (with_reducible refine step.Off.drew ?_) | (with_reducible refine step.Off.setCell ?_ _ _ rfl) | (with_reducible refine step.Off.below ?_ hb) | (with_reducible refine step.Off.below ?_ hb3))))
          (first
            | (go_at_call 63; (with_reducible refine (HCL.out _ (below_dr B1.out)).mono ?_); rintro e w2 ⟨q, rfl, hq, hb⟩; obtain ⟨qa, ql, qc, rfl⟩ := hq.ints.shape; have U2 := Lib.hid (U1.out.keep (below_tr (below_dr (Below.refl _ _)) hb)))
            | (go_at_call 62; (with_reducible refine (valid_yes X Y _ ws _ _ _ ⟨hq.ints, U2.out.rows⟩ HN.out HT.out HG.out).mono ?_); rintro e w3 ⟨rfl, hb3⟩; have R3 := R1.out.below (below_tr (below_tr (below_dr (Below.refl _ _)) hb) hb3); obtain ⟨r0, r1, r2, r3, r4⟩ := four_cells R3; have rf : ∀ k, w3.frozen? ⟨w.heap.size + 1 + 1, k, none⟩ = false := fun k => Joins.unfrozen_of_block R3 k))
        have hbt := below_tr (below_dr (Below.refl _ _)) hb
        have B3 := Lib.hid (below_tr B1.out (below_tr hbt hb3))
        have U3 := Lib.hid (U2.out.keep hb3)
        have Q3 : Hid (OwnInts w3 w1.heap.size w2.heap.size (.slice qa ql qc) ws) := Lib.hid (OwnInts.keep hq hb3)
        have hz1 := hbt.size
        have hz2 := hb3.size
        clear hq hb hbt hb3 HCL e0 R3
        go_wp2_with fail
        refine bodyPost_ret (v := .tuple #[.agg #[.int .i64 (X : Int), .int .i64 (Y : Int), .slice qa ql qc, .slice ua ul uc], .bool true]) (by simp [results, Try.results16, go_sem, r0, r1, r2, r3]) rfl ?_
        rw [HE.out]
        refine ⟨_, _, rfl, ?_, ?_⟩
        · have OW : game.OG w3 (w.heap.size + 1 + 1 + 1) w3.heap.size (.slice qa ql qc) ws (.slice ua ul uc) (make.rowsOf (N ds) (X * Y)) := ⟨w1.heap.size, by omega, by omega, .inr ⟨U3.out, Q3.out.mono (Nat.le_refl _) hz2⟩⟩
          refine (OW.wrote (S := fun p => p.block < w.heap.size + 1 + 1 + 1) ?_ (fun p hp => .inl hp)).mono (by omega) (by simp [World.setCell])
          repeat (first | exact Wrote.refl _ _ | refine Wrote.setCell ?_ (by simp) _)
        · repeat (refine Below.setCell ?_ (by simp <;> omega) _)
          exact B3.out

      · have HE := Lib.hid (res_no (x := X) (y := Y) (ws := ws) (ds := ds) (fun h => hg (by rw [← hrw]; exact h.2.2)))
        have HG := Lib.hid hg
        clear hs hw hl hg hrw hxy h9 hX hY
        go_enter Try.func16, Try.ntmps16
        go_wp2_with fail
        refine (val.isizes_yes _ _ _ HSS.out).mono ?_
        rintro e w' ⟨rfl, rfl⟩
        have e1 := q1.out
        have e0' := q0.out
        go_wp2_with fail
        refine (HC.out _ B0.out).mono ?_
        rintro e w' ⟨rfl, rfl⟩
        go_wp2_with fail
        clear e1 e0'

        refine (HMK.out _ B0.out q0.out q1.out).mono ?_
        rintro e w1 ⟨u, rfl, hu, hb⟩
        have B1 := Lib.hid (below_tr B0.out hb)
        have R1 := Lib.hid (R0.out.below hb)
        have U1 := Lib.hid (hu.mono (B' := w.heap.size + 1 + 1 + 1) (by simp) (Nat.le_refl _))
        have hz0 := R1.out.lt
        obtain ⟨ua, ul, uc, rfl⟩ := hu.rows.shape
        have e0 := below_cell hb _ _ q0.out
        clear hu hb HMK

        have ne0 : w.heap.size ≠ w.heap.size + 1 + 1 := by omega
        go_wp2_with fail
        go_region_held3 (fun w' => w'.cell? ⟨w.heap.size, 0, none⟩ = some (.int .i64 (Y : Int)) ∧ w'.cell? ⟨w.heap.size, 0, none⟩ = some (.int .i64 (Y : Int)) ∧ w'.cell? ⟨w.heap.size, 0, none⟩ = some (.int .i64 (Y : Int)) ∧ w'.cell? ⟨w.heap.size, 0, none⟩ = some (.int .i64 (Y : Int)) ∧ w'.cell? ⟨w.heap.size, 0, none⟩ = some (.int .i64 (Y : Int)) ∧ w'.cell? ⟨w.heap.size, 0, none⟩ = some (.int .i64 (Y : Int)) ∧ w'.cell? ⟨w.heap.size, 0, none⟩ = some (.int .i64 (Y : Int)))
          ((refine step.offs7 (R := w.heap.size + 1 + 1) e0 e0 e0 e0 e0 e0 e0 ne0 ne0 ne0 ne0 ne0 ne0 ne0 ?_; repeat (first | (with_reducible exact step.Off.refl _ _) | (with_reducible refine step.Off.drew ?_) | (with_reducible refine step.Off.setCell ?_ _ _ rfl) | (with_reducible refine step.Off.below ?_ hb) | (with_reducible refine step.Off.below ?_ hb3))))
          (first
            | (go_at_call 63; (with_reducible refine (HCL.out _ (below_dr B1.out)).mono ?_); rintro e w2 ⟨q, rfl, hq, hb⟩; obtain ⟨qa, ql, qc, rfl⟩ := hq.ints.shape; have U2 := Lib.hid (U1.out.keep (below_tr (below_dr (Below.refl _ _)) hb)))
            | (go_at_call 62; (with_reducible refine (valid_no X Y _ ws _ _ _ ⟨hq.ints, U2.out.rows⟩ HN.out HT.out HG.out).mono ?_); rintro e w3 ⟨rfl, hb3⟩; have R3 := R1.out.below (below_tr (below_tr (below_dr (Below.refl _ _)) hb) hb3); obtain ⟨r0, r1, r2, r3, r4⟩ := four_cells R3; have rf : ∀ k, w3.frozen? ⟨w.heap.size + 1 + 1, k, none⟩ = false := fun k => Joins.unfrozen_of_block R3 k))
        have hbt := below_tr (below_dr (Below.refl _ _)) hb
        have B3 := Lib.hid (below_tr B1.out (below_tr hbt hb3))
        have U3 := Lib.hid (U2.out.keep hb3)
        have Q3 : Hid (OwnInts w3 w1.heap.size w2.heap.size (.slice qa ql qc) ws) := Lib.hid (OwnInts.keep hq hb3)
        have hz1 := hbt.size
        have hz2 := hb3.size
        clear hq hb hbt hb3 HCL e0 R3
        go_wp2_with fail
        refine bodyPost_ret (v := .tuple #[.agg #[.int .i64 0, .int .i64 0, .slice none 0 0, .slice none 0 0], .bool false]) (by simp [results, Try.results16, go_sem, r0, r1, r2, r3]) rfl ?_
        rw [HE.out]
        refine ⟨_, _, rfl, game.OG.nil _ _ _ (by have := B3.out.size; simp [World.setCell]; try omega), ?_⟩
        repeat (first | (with_reducible exact B3.out) | refine Below.setCell ?_ (by simp <;> omega) _)

    · have HC := Lib.hid (fun (W : World) (hb : Below w.heap.size w W) => withinB_no hw ▸ play.impl_bits _ ds (x * y) W (HD.out.below hb))
      have HE := Lib.hid (res_no (x := x) (y := y) (ws := ws) (ds := ds) (fun h => hw h.2.1))
      clear hs hw hxy
      go_enter Try.func16, Try.ntmps16
      go_wp2_with fail
      refine (val.isizes_yes _ _ _ HSS.out).mono ?_
      rintro e w' ⟨rfl, rfl⟩
      have e1 := q1.out
      have e0' := q0.out
      go_wp2_with fail
      refine (HC.out _ B0.out).mono ?_
      rintro e w' ⟨rfl, rfl⟩

      obtain ⟨r0, r1, r2, r3, r4⟩ := four_cells R0.out
      have rf : ∀ k, (((w.alloc (.cells #[.int .i64 y] 3)).alloc (.cells #[.slice da dn dc] 22)).alloc (.cells #[.int .i64 0, .int .i64 0, .slice none 0 0, .slice none 0 0] 25)).frozen? ⟨w.heap.size + 1 + 1, k, none⟩ = false := fun k => Joins.unfrozen_of_block R0.out k
      go_wp2_with fail
      refine bodyPost_ret (v := .tuple #[.agg #[.int .i64 0, .int .i64 0, .slice none 0 0, .slice none 0 0], .bool false]) (by simp [results, Try.results16, go_sem, r0, r1, r2, r3]) rfl ?_
      rw [HE.out]
      refine ⟨_, _, rfl, game.OG.nil _ _ _ (by have := B0.out.size; simp; try omega), ?_⟩
      repeat (first | (with_reducible exact B0.out) | refine Below.setCell ?_ (by simp <;> omega) _)

  · have HE := Lib.hid (res_no (x := x) (y := y) (ws := ws) (ds := ds) (fun h => hs h.1))
    have HSS := Lib.hid hs
    clear hs
    go_enter Try.func16, Try.ntmps16
    go_wp2_with fail
    refine (val.isizes_no _ _ _ HSS.out).mono ?_
    rintro e w' ⟨rfl, rfl⟩

    obtain ⟨r0, r1, r2, r3, r4⟩ := four_cells R0.out
    have rf : ∀ k, (((w.alloc (.cells #[.int .i64 y] 3)).alloc (.cells #[.slice da dn dc] 22)).alloc (.cells #[.int .i64 0, .int .i64 0, .slice none 0 0, .slice none 0 0] 25)).frozen? ⟨w.heap.size + 1 + 1, k, none⟩ = false := fun k => Joins.unfrozen_of_block R0.out k
    go_wp2_with fail
    refine bodyPost_ret (v := .tuple #[.agg #[.int .i64 0, .int .i64 0, .slice none 0 0, .slice none 0 0], .bool false]) (by simp [results, Try.results16, go_sem, r0, r1, r2, r3]) rfl ?_
    rw [HE.out]
    refine ⟨_, _, rfl, game.OG.nil _ _ _ (by have := B0.out.size; simp; try omega), ?_⟩
    repeat (first | (with_reducible exact B0.out) | refine Below.setCell ?_ (by simp <;> omega) _)


end Go.Proofs.Ytfkdhdiacelcjaa.gsign
