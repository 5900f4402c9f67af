/- SignGame of the model. -/
import Derived.Test.YtfkdhdiacelcjaaGsignb
import Derived.Test.YtfkdhdiacelcjaaGway
import Derived.Test.YtfkdhdiacelcjaaLast
import Derived.Test.YtfkdhdiacelcjaaOwnz
import Derived.Deep.RegionHeld3
namespace Go.Proofs.Ytfkdhdiacelcjaa.gsign
open Go.RowKit Go.Deep Go.Proofs.Ytfkdhdiacelcjaa.base
open Go.Proofs.Ytfkdhdiacelcjaa.ints (ret_int infoInt infoInts)
open Go.Proofs.Ytfkdhdiacelcjaa.rws (total)
open Go.Proofs.Ytfkdhdiacelcjaa.val (okSizes ret_b)
open Go.Proofs.Ytfkdhdiacelcjaa.gval (okGame gameB gameB_yes gameB_no)
open Go.Proofs.Ytfkdhdiacelcjaa.play (within withinB withinB_yes withinB_no)

theorem lows1v {n : Nat} {w w' : World} {a q : Addr} {u0 u : Value} (h0 : w.cell? a = some u0) (l0 : a.block < n) (h : step.Low n w w') (hq : w'.cell? q = some u) : w'.cell? a = some u0 ∧ w'.cell? q = some u := ⟨(h _ l0).trans h0, hq⟩
theorem quad_at (ds : List Int) (k : Nat) : make.quad (N ds) k = [1 - ds.getD k 0, ds.getD k 0, ds.getD k 0, 1 - ds.getD k 0] := by simp [make.quad, N]

set_option maxRecDepth 100000 in
set_option maxHeartbeats 8000000 in
theorem spec_any (x y : Int) (wv : Value) (ws : List Int) (dv : Value) (ds : List Int) (w : World) (h : Ints w wv ws) (hd : Ints w dv ds) (hn : ws.length ≤ 1048576) :
    Calls Try.prog 14 #[.int .i64 x, .int .i64 y, wv, dv] w fun e w' => ∃ a r, e = .returned (.tuple #[.agg #[.int .i64 (res x y ws ds).x, .int .i64 (res x y ws ds).y, a, r], .bool (res x y ws ds).ok]) ∧ game.GV w' a (res x y ws ds).ws r (res x y ws ds).rows ∧ Below w.heap.size w w' := by
  obtain ⟨s0, si, sz0, sz1, sz2⟩ := info_parts infoInts
  have HV := Lib.hid h
  have HD := Lib.hid hd
  have B0 := Lib.hid (below_al (Below.refl w.heap.size w) (.cells #[.int .i64 0, .int .i64 0, .slice none 0 0, .slice none 0 0] 25))
  have R0 : Hid (Blk (w.alloc (.cells #[.int .i64 0, .int .i64 0, .slice none 0 0, .slice none 0 0] 25)) w.heap.size 25 #[.int .i64 0, .int .i64 0, .slice none 0 0, .slice none 0 0]) := Lib.hid (Blk.new w 25 #[.int .i64 0, .int .i64 0, .slice none 0 0, .slice none 0 0])
  by_cases hs : okSizes x y
  · have HSS := Lib.hid hs
    have hxy := val.mul_small hs
    have kw : IntKind.i64.wrap (x * y) = x * y := IntWalk.i64_in _ (by omega)
    by_cases hw : within (x * y) 0 1 ds
    · have HB := Lib.hid (withinB_yes hw ▸ play.spec_bits dv ds (x * y) (w.alloc (.cells #[.int .i64 0, .int .i64 0, .slice none 0 0, .slice none 0 0] 25)) (hd.below B0.out))
      have HOW := Lib.hid (own.l1own_any wv ws (w.alloc (.cells #[.int .i64 0, .int .i64 0, .slice none 0 0, .slice none 0 0] 25)) (h.below B0.out) hn)
      have hdl : (ds.length : Int) = x * y := hw.1
      have hdp : 0 < ds.length := by omega
      have HN9 : Hid (ds.length ≤ 9) := Lib.hid (by omega)
      have HRW : Hid (rows x y ds = make.rowsOf (N ds) ds.length) := Lib.hid (by unfold rows; rw [← hdl, Int.toNat_natCast])
      obtain ⟨wa, wn, wc, rfl⟩ := h.shape
      obtain ⟨A, b, o, cap, rfl, _, _, hA, hc⟩ := hd.form
      obtain rfl := hA hdp
      have HC := Lib.hid (fun (k : Nat) (hk : k < ds.length) => show w.cell? ⟨b, o + k, none⟩ = some (.int .i64 (ds.getD k 0)) ∧ (0 ≤ ds.getD k 0 ∧ ds.getD k 0 ≤ 1) from by
        rw [show ds.getD k 0 = ds[k] from by simp [List.getD, hk]]; exact ⟨hc k hk, hw.2 k hk⟩)
      have HWI := Lib.hid hw
      clear h hd hs hw hxy hc hA hdl
      go_enter Try.func14, Try.ntmps14
      go_wp2_with fail
      refine (val.sizes_yes _ _ _ HSS.out).mono ?_
      rintro e w' ⟨rfl, rfl⟩
      go_wp2_with fail
      refine HB.out.mono ?_
      rintro e w' ⟨rfl, rfl⟩
      go_wp2_with fail
      refine HOW.out.mono ?_
      rintro e w1 ⟨rv, rfl, hown, hb1⟩
      have B1 := Lib.hid hb1
      have O1 := Lib.hid hown
      obtain ⟨ra, rn, rc, rfl⟩ := make.shape hown
      have WY : Hid (gway.Way (w.alloc (.cells #[.int .i64 0, .int .i64 0, .slice none 0 0, .slice none 0 0] 25)) ((w1.alloc (.cells #[] 22)).alloc (.cells #[.int .i64 x, .int .i64 y, .slice ra rn rc, .slice (some ⟨w1.heap.size, 0, none⟩) 0 0] 25)) (w1.heap.size + 1) x y (.slice ra rn rc) ws 0 (.slice (some ⟨w1.heap.size, 0, none⟩) 0 0) [] (N ds)) := Lib.hid (by
        refine gway.Way.start (below_al (below_al B1.out _) _) (by have := B1.out.size; omega) ?_ ?_ ?_
        · have := Blk.new (w1.alloc (.cells #[] 22)) 25 #[.int .i64 x, .int .i64 y, .slice ra rn rc, .slice (some ⟨w1.heap.size, 0, none⟩) 0 0]
          simpa using this
        · have := World.ownsRow_made (base := (w.alloc (.cells #[.int .i64 0, .int .i64 0, .slice none 0 0, .slice none 0 0] 25)).heap.size) (e := 22) (size := 1) w1 #[] 0 B1.out.size (Nat.zero_le _) rfl
          exact app.owns_below this (below_al (Below.refl _ _) _)
        · exact app.owns_below (app.owns_below O1.out (below_al (Below.refl _ _) _)) (below_al (Below.refl _ _) _))
      have hsz1 := B1.out.size
      clear hb1 hown HB HOW
      go_wp2_with fail
      clear O1
      go_loopw [11] (fun i wr => ∃ k : Nat, k ≤ ds.length ∧ i = .int .i64 k ∧ ∃ v vals, Hid (gway.Way (w.alloc (.cells #[.int .i64 0, .int .i64 0, .slice none 0 0, .slice none 0 0] 25)) wr (w1.heap.size + 1) x y (.slice ra rn rc) ws k v vals (N ds))) (fun i _ => ds.length - (intOf i).toNat)
      case atStart => exact ⟨0, Nat.zero_le _, rfl, _, _, WY⟩
      case round =>
        obtain ⟨k, hk, rfl, v, vals, hW⟩ := hrel
        clear WY
        obtain ⟨wi, rfl⟩ : ∃ wi : World, wi = wr := ⟨_, rfl⟩
        obtain ⟨bb, hbb⟩ : ∃ bb, w1.heap.size + 1 = bb := ⟨_, rfl⟩
        rw [hbb] at hW ⊢
        have hbz : (w.alloc (.cells #[.int .i64 0, .int .i64 0, .slice none 0 0, .slice none 0 0] 25)).heap.size ≤ bb := hW.out.bge
        obtain ⟨va0, vl0, vc0, rfl⟩ := make.shape hW.out.owns
        by_cases hlt : k < ds.length
        · have hkz : (k : Int) < (ds.length : Int) := by omega
          have hk9 : k < 9 := by have := HN9.out; omega
          obtain ⟨gc, gd0, gd1⟩ := HC.out k hlt
          have bi := Lib.hid (below_tr B0.out hW.out.below)
          have k0 := below_cell bi.out _ _ gc
          have hb2 : b < w.heap.size := World.block_lt_of_cell? _ _ gc
          obtain ⟨f0, f1, f2, f3, f4⟩ := four_cells hW.out.blk
          have HQ := Lib.hid (quad_at ds k)
          generalize ds.getD k 0 = n at *
          have kn : IntKind.i64.wrap (1 - n) = 1 - n := IntWalk.i64_in _ (by omega)
          have f3a := fun (o1 o2 : Obj) => below_cell (below_al (below_al (Below.refl _ _) o1) o2) _ _ f3
          have f3a1 := fun (o1 : Obj) => below_cell (below_al (Below.refl _ _) o1) _ _ f3
          have ff := Lib.hid (fun k => Joins.unfrozen_of_block hW.out.blk k)
          have hsz := hW.out.below.size
          have hlw : w.heap.size < (w.alloc (.cells #[.int .i64 0, .int .i64 0, .slice none 0 0, .slice none 0 0] 25)).heap.size := by simp
          have HG := Lib.hid (hW.out.keep (below_dr (below_al (below_al (Below.refl _ _) (.cells #[.int .i64 (1 - n), .int .i64 n, .int .i64 n, .int .i64 (1 - n)] 3)) (.cells #[.slice (some ⟨wi.heap.size, 0, none⟩) 4 4] 22))))
          have hrow : (wi.alloc (.cells #[.int .i64 (1 - n), .int .i64 n, .int .i64 n, .int .i64 (1 - n)] 3)).rowIs wi.heap.size 3 4 (fun j => .int .i64 ((make.quad (N ds) k).getD j 0)) := by
            refine ⟨#[.int .i64 (1 - n), .int .i64 n, .int .i64 n, .int .i64 (1 - n)], heap_alloc_new wi _, rfl, fun i hi => ?_⟩
            rw [HQ.out]
            match i, hi with
            | 0, _ => rfl
            | 1, _ => rfl
            | 2, _ => rfl
            | 3, _ => rfl
          have HRI : Hid ((((wi.alloc (.cells #[.int .i64 (1 - n), .int .i64 n, .int .i64 n, .int .i64 (1 - n)] 3)).alloc (.cells #[.slice (some ⟨wi.heap.size, 0, none⟩) 4 4] 22)).drew).rowIs wi.heap.size 3 4 (fun j => .int .i64 ((make.quad (N ds) k).getD j 0))) := Lib.hid (World.rowIs.of_block (hrow.alloc _) rfl)
          have HFR : Hid (∀ (r g' : Nat), vals[r]? = some (Value.slice (some ⟨g', 0, none⟩) 4 4) → g' ≠ wi.heap.size) := Lib.hid (fun r g' hu => by
            obtain ⟨g, e, _, hr⟩ := hW.out.row r _ hu
            injection e with e; injection e with e; injection e with e
            have := hr.lt; omega)
          have L2 := Lib.hid (step.Low.below bi.out)
          have hsw : w.heap.size ≤ wi.heap.size := bi.out.size
          clear hrow hW gd0 gd1
          go_wp2_with fail
          refine last.start (S := (fun w' => w'.cell? ⟨b, o + k, none⟩ = some (.int .i64 n) ∧ w'.cell? ⟨bb, 3, none⟩ = some (.slice va0 vl0 vc0))) (L := 24) (by kernel_rfl) ?_
          have hHeld : (fun w' => w'.cell? ⟨b, o + k, none⟩ = some (.int .i64 n) ∧ w'.cell? ⟨bb, 3, none⟩ = some (.slice va0 vl0 vc0)) wi.drew := by
            refine lows1v gc hb2 ?_ f3
            exact L2.out.drew
          refine last.take (i := 0) (oi := { dst := some 37, op := Op.fieldAddr 25 (Operand.tmp 10) 3, type := 0, pos := "l4_games.go:179", after := #[], guard := none }) (v := ?v0) rfl (by kernel_rfl) (by kernel_rfl) (by kernel_rfl) (by kernel_rfl) (by decide) (fun _ _ _ h => h) (Or.inl ⟨by rfl, ?y0⟩) hHeld ?r0
          case y0 => (intro w hSw; (try dsimp only at hSw); go_simp; try with_reducible rfl)
          try simp only [Act.put, List.setIfInBounds_toArray, List.set_cons_zero, List.set_cons_succ]
          refine last.take (i := 1) (oi := { dst := some 38, op := Op.load 23 (Operand.tmp 37), type := 23, pos := "l4_games.go:179", after := #[{ on := 0, ground := Ground.data }], guard := none }) (v := ?v1) rfl (by kernel_rfl) (by kernel_rfl) (by kernel_rfl) (by kernel_rfl) (by decide) (fun _ _ _ h => h) (Or.inl ⟨by rfl, ?y1⟩) hHeld ?r1
          case y1 => (intro w hSw; (try dsimp only at hSw); go_simp; try with_reducible rfl)
          try simp only [Act.put, List.setIfInBounds_toArray, List.set_cons_zero, List.set_cons_succ]
          refine last.take (i := 2) (oi := { dst := some 39, op := Op.move (Operand.tmp 3), type := 22, pos := "l4_games.go:179", after := #[], guard := none }) (v := ?v2) rfl (by kernel_rfl) (by kernel_rfl) (by kernel_rfl) (by kernel_rfl) (by decide) (fun _ _ _ h => h) (Or.inl ⟨by rfl, ?y2⟩) hHeld ?r2
          case y2 => (intro w hSw; (try dsimp only at hSw); go_simp; try with_reducible rfl)
          try simp only [Act.put, List.setIfInBounds_toArray, List.set_cons_zero, List.set_cons_succ]
          refine last.take (i := 3) (oi := { dst := some 40, op := Op.move (Operand.tmp 11), type := 3, pos := "l4_games.go:179", after := #[], guard := none }) (v := ?v3) rfl (by kernel_rfl) (by kernel_rfl) (by kernel_rfl) (by kernel_rfl) (by decide) (fun _ _ _ h => h) (Or.inl ⟨by rfl, ?y3⟩) hHeld ?r3
          case y3 => (intro w hSw; (try dsimp only at hSw); go_simp; try with_reducible rfl)
          try simp only [Act.put, List.setIfInBounds_toArray, List.set_cons_zero, List.set_cons_succ]
          refine last.take (i := 4) (oi := { dst := some 41, op := Op.indexAddr 22 (Operand.tmp 39) (Operand.tmp 40), type := 0, pos := "l4_games.go:179", after := #[{ on := 2, ground := Ground.data }, { on := 3, ground := Ground.data }], guard := none }) (v := ?v4) rfl (by kernel_rfl) (by kernel_rfl) (by kernel_rfl) (by kernel_rfl) (by decide) (fun _ _ _ h => h) (Or.inl ⟨by rfl, ?y4⟩) hHeld ?r4
          case y4 => (intro w hSw; (try dsimp only at hSw); go_simp; try with_reducible rfl)
          try simp only [Act.put, List.setIfInBounds_toArray, List.set_cons_zero, List.set_cons_succ]
          refine last.take (i := 5) (oi := { dst := some 42, op := Op.load 3 (Operand.tmp 41), type := 3, pos := "l4_games.go:179", after := #[{ on := 4, ground := Ground.data }], guard := none }) (v := ?v5) rfl (by kernel_rfl) (by kernel_rfl) (by kernel_rfl) (by kernel_rfl) (by decide) (fun _ _ _ h => h) (Or.inl ⟨by rfl, ?y5⟩) hHeld ?r5
          case y5 => (intro w hSw; (try dsimp only at hSw); go_simp; try with_reducible rfl)
          try simp only [Act.put, List.setIfInBounds_toArray, List.set_cons_zero, List.set_cons_succ]
          refine last.take (i := 6) (oi := { dst := some 43, op := Op.binOp BinOp.sub 3 (Operand.const (Value.int IntKind.i64 1)) (Operand.tmp 42) 3, type := 3, pos := "l4_games.go:179", after := #[{ on := 5, ground := Ground.data }], guard := none }) (v := ?v6) rfl (by kernel_rfl) (by kernel_rfl) (by kernel_rfl) (by kernel_rfl) (by decide) (fun _ _ _ h => h) (Or.inl ⟨by rfl, ?y6⟩) hHeld ?r6
          case y6 => (intro w hSw; (try dsimp only at hSw); go_simp; try with_reducible rfl)
          try simp only [Act.put, List.setIfInBounds_toArray, List.set_cons_zero, List.set_cons_succ]
          refine last.take (i := 7) (oi := { dst := some 44, op := Op.move (Operand.tmp 3), type := 22, pos := "l4_games.go:179", after := #[], guard := none }) (v := ?v7) rfl (by kernel_rfl) (by kernel_rfl) (by kernel_rfl) (by kernel_rfl) (by decide) (fun _ _ _ h => h) (Or.inl ⟨by rfl, ?y7⟩) hHeld ?r7
          case y7 => (intro w hSw; (try dsimp only at hSw); go_simp; try with_reducible rfl)
          try simp only [Act.put, List.setIfInBounds_toArray, List.set_cons_zero, List.set_cons_succ]
          refine last.take (i := 8) (oi := { dst := some 45, op := Op.move (Operand.tmp 11), type := 3, pos := "l4_games.go:179", after := #[], guard := none }) (v := ?v8) rfl (by kernel_rfl) (by kernel_rfl) (by kernel_rfl) (by kernel_rfl) (by decide) (fun _ _ _ h => h) (Or.inl ⟨by rfl, ?y8⟩) hHeld ?r8
          case y8 => (intro w hSw; (try dsimp only at hSw); go_simp; try with_reducible rfl)
          try simp only [Act.put, List.setIfInBounds_toArray, List.set_cons_zero, List.set_cons_succ]
          refine last.take (i := 9) (oi := { dst := some 46, op := Op.indexAddr 22 (Operand.tmp 44) (Operand.tmp 45), type := 0, pos := "l4_games.go:179", after := #[{ on := 7, ground := Ground.data }, { on := 8, ground := Ground.data }], guard := none }) (v := ?v9) rfl (by kernel_rfl) (by kernel_rfl) (by kernel_rfl) (by kernel_rfl) (by decide) (fun _ _ _ h => h) (Or.inl ⟨by rfl, ?y9⟩) hHeld ?r9
          case y9 => (intro w hSw; (try dsimp only at hSw); go_simp; try with_reducible rfl)
          try simp only [Act.put, List.setIfInBounds_toArray, List.set_cons_zero, List.set_cons_succ]
          refine last.take (i := 10) (oi := { dst := some 47, op := Op.load 3 (Operand.tmp 46), type := 3, pos := "l4_games.go:179", after := #[{ on := 9, ground := Ground.data }], guard := none }) (v := ?v10) rfl (by kernel_rfl) (by kernel_rfl) (by kernel_rfl) (by kernel_rfl) (by decide) (fun _ _ _ h => h) (Or.inl ⟨by rfl, ?y10⟩) hHeld ?r10
          case y10 => (intro w hSw; (try dsimp only at hSw); go_simp; try with_reducible rfl)
          try simp only [Act.put, List.setIfInBounds_toArray, List.set_cons_zero, List.set_cons_succ]
          refine last.take (i := 11) (oi := { dst := some 48, op := Op.move (Operand.tmp 3), type := 22, pos := "l4_games.go:179", after := #[], guard := none }) (v := ?v11) rfl (by kernel_rfl) (by kernel_rfl) (by kernel_rfl) (by kernel_rfl) (by decide) (fun _ _ _ h => h) (Or.inl ⟨by rfl, ?y11⟩) hHeld ?r11
          case y11 => (intro w hSw; (try dsimp only at hSw); go_simp; try with_reducible rfl)
          try simp only [Act.put, List.setIfInBounds_toArray, List.set_cons_zero, List.set_cons_succ]
          refine last.take (i := 12) (oi := { dst := some 49, op := Op.move (Operand.tmp 11), type := 3, pos := "l4_games.go:179", after := #[], guard := none }) (v := ?v12) rfl (by kernel_rfl) (by kernel_rfl) (by kernel_rfl) (by kernel_rfl) (by decide) (fun _ _ _ h => h) (Or.inl ⟨by rfl, ?y12⟩) hHeld ?r12
          case y12 => (intro w hSw; (try dsimp only at hSw); go_simp; try with_reducible rfl)
          try simp only [Act.put, List.setIfInBounds_toArray, List.set_cons_zero, List.set_cons_succ]
          refine last.take (i := 13) (oi := { dst := some 50, op := Op.indexAddr 22 (Operand.tmp 48) (Operand.tmp 49), type := 0, pos := "l4_games.go:179", after := #[{ on := 11, ground := Ground.data }, { on := 12, ground := Ground.data }], guard := none }) (v := ?v13) rfl (by kernel_rfl) (by kernel_rfl) (by kernel_rfl) (by kernel_rfl) (by decide) (fun _ _ _ h => h) (Or.inl ⟨by rfl, ?y13⟩) hHeld ?r13
          case y13 => (intro w hSw; (try dsimp only at hSw); go_simp; try with_reducible rfl)
          try simp only [Act.put, List.setIfInBounds_toArray, List.set_cons_zero, List.set_cons_succ]
          refine last.take (i := 14) (oi := { dst := some 51, op := Op.load 3 (Operand.tmp 50), type := 3, pos := "l4_games.go:179", after := #[{ on := 13, ground := Ground.data }], guard := none }) (v := ?v14) rfl (by kernel_rfl) (by kernel_rfl) (by kernel_rfl) (by kernel_rfl) (by decide) (fun _ _ _ h => h) (Or.inl ⟨by rfl, ?y14⟩) hHeld ?r14
          case y14 => (intro w hSw; (try dsimp only at hSw); go_simp; try with_reducible rfl)
          try simp only [Act.put, List.setIfInBounds_toArray, List.set_cons_zero, List.set_cons_succ]
          refine last.take (i := 15) (oi := { dst := some 52, op := Op.move (Operand.tmp 3), type := 22, pos := "l4_games.go:179", after := #[], guard := none }) (v := ?v15) rfl (by kernel_rfl) (by kernel_rfl) (by kernel_rfl) (by kernel_rfl) (by decide) (fun _ _ _ h => h) (Or.inl ⟨by rfl, ?y15⟩) hHeld ?r15
          case y15 => (intro w hSw; (try dsimp only at hSw); go_simp; try with_reducible rfl)
          try simp only [Act.put, List.setIfInBounds_toArray, List.set_cons_zero, List.set_cons_succ]
          refine last.take (i := 16) (oi := { dst := some 53, op := Op.move (Operand.tmp 11), type := 3, pos := "l4_games.go:179", after := #[], guard := none }) (v := ?v16) rfl (by kernel_rfl) (by kernel_rfl) (by kernel_rfl) (by kernel_rfl) (by decide) (fun _ _ _ h => h) (Or.inl ⟨by rfl, ?y16⟩) hHeld ?r16
          case y16 => (intro w hSw; (try dsimp only at hSw); go_simp; try with_reducible rfl)
          try simp only [Act.put, List.setIfInBounds_toArray, List.set_cons_zero, List.set_cons_succ]
          refine last.take (i := 17) (oi := { dst := some 54, op := Op.indexAddr 22 (Operand.tmp 52) (Operand.tmp 53), type := 0, pos := "l4_games.go:179", after := #[{ on := 15, ground := Ground.data }, { on := 16, ground := Ground.data }], guard := none }) (v := ?v17) rfl (by kernel_rfl) (by kernel_rfl) (by kernel_rfl) (by kernel_rfl) (by decide) (fun _ _ _ h => h) (Or.inl ⟨by rfl, ?y17⟩) hHeld ?r17
          case y17 => (intro w hSw; (try dsimp only at hSw); go_simp; try with_reducible rfl)
          try simp only [Act.put, List.setIfInBounds_toArray, List.set_cons_zero, List.set_cons_succ]
          refine last.take (i := 18) (oi := { dst := some 55, op := Op.load 3 (Operand.tmp 54), type := 3, pos := "l4_games.go:179", after := #[{ on := 17, ground := Ground.data }], guard := none }) (v := ?v18) rfl (by kernel_rfl) (by kernel_rfl) (by kernel_rfl) (by kernel_rfl) (by decide) (fun _ _ _ h => h) (Or.inl ⟨by rfl, ?y18⟩) hHeld ?r18
          case y18 => (intro w hSw; (try dsimp only at hSw); go_simp; try with_reducible rfl)
          try simp only [Act.put, List.setIfInBounds_toArray, List.set_cons_zero, List.set_cons_succ]
          refine last.take (i := 19) (oi := { dst := some 56, op := Op.binOp BinOp.sub 3 (Operand.const (Value.int IntKind.i64 1)) (Operand.tmp 55) 3, type := 3, pos := "l4_games.go:179", after := #[{ on := 18, ground := Ground.data }], guard := none }) (v := ?v19) rfl (by kernel_rfl) (by kernel_rfl) (by kernel_rfl) (by kernel_rfl) (by decide) (fun _ _ _ h => h) (Or.inl ⟨by rfl, ?y19⟩) hHeld ?r19
          case y19 => (intro w hSw; (try dsimp only at hSw); go_simp; try with_reducible rfl)
          try simp only [Act.put, List.setIfInBounds_toArray, List.set_cons_zero, List.set_cons_succ]
          refine last.one (i := 20) (o := { dst := some 57, op := Op.buildSlice 22 4 #[(0, Operand.tmp 43), (1, Operand.tmp 47), (2, Operand.tmp 51), (3, Operand.tmp 56)], type := 22, pos := "l4_games.go:179", after := #[{ on := 6, ground := Ground.data }, { on := 10, ground := Ground.data }, { on := 14, ground := Ground.data }, { on := 19, ground := Ground.data }], guard := none }) (by kernel_rfl) rfl (fun K hK => ?_)
          go_simp
          refine hK.out _ _ ?s20 (fun hHeld => ?_)
          case s20 => (try dsimp only); (refine lows1v gc hb2 ?_ (f3a1 _); (repeat (first | exact L2.out | exact L3.out | refine step.Low.drew ?_ | refine step.Low.alloc ?_ (by first | omega | (simp; omega)) _)))
          clear hK K
          try simp only [Act.put, List.setIfInBounds_toArray, List.set_cons_zero, List.set_cons_succ]
          refine last.one (i := 21) (o := { dst := some 58, op := Op.buildSlice 23 1 #[(0, Operand.tmp 57)], type := 23, pos := "l4_games.go:179", after := #[{ on := 20, ground := Ground.data }], guard := none }) (by kernel_rfl) rfl (fun K hK => ?_)
          go_simp
          refine hK.out _ _ ?s21 (fun hHeld => ?_)
          case s21 => (try dsimp only); (refine lows1v gc hb2 ?_ (f3a _ _); (repeat (first | exact L2.out | exact L3.out | refine step.Low.drew ?_ | refine step.Low.alloc ?_ (by first | omega | (simp; omega)) _)))
          clear hK K
          try simp only [Act.put, List.setIfInBounds_toArray, List.set_cons_zero, List.set_cons_succ]
          refine last.one (i := 22) (o := { dst := some 59, op := Op.call { callee := Callee.builtin Builtin.append, args := #[Operand.tmp 38, Operand.tmp 58], argTypes := #[23, 23] }, type := 23, pos := "l4_games.go:179", after := #[{ on := 1, ground := Ground.data }, { on := 21, ground := Ground.data }], guard := none }) (by kernel_rfl) rfl (fun K hK => ?_)
          refine step.own rfl (.tmp 38) (.tmp 58) 23 rfl 22 s0 (.slice none 0 0) 1 24 Try.underlying23 si sz0 sz1 sz2 rfl (by decide) (w.alloc (.cells #[.int .i64 0, .int .i64 0, .slice none 0 0, .slice none 0 0] 25)).heap.size _ k vals HG.out.owns (by simp [Act.eval]) ⟨wi.heap.size + 1, 0, none⟩ 1 1 [.slice (some ⟨wi.heap.size, 0, none⟩) 4 4] (by simp [Act.eval]) rfl (by intro j u hj; have := app.one_at (wi.alloc (.cells #[.int .i64 (1 - n), .int .i64 n, .int .i64 n, .int .i64 (1 - n)] 3)) (.slice (some ⟨wi.heap.size, 0, none⟩) 4 4) 22; simpa using this j u hj) (by intro u hu; simp at hu; subst hu; rfl) (by unfold maxLen; omega) (by omega) (by simp; omega) ?_
          intro v' w3 hown' hgrow
          obtain ⟨q1, q2⟩ := HG.out.field hgrow
          obtain ⟨va, vl, vcc, hvv⟩ := make.shape hown'
          subst hvv
          have L3 := Lib.hid (step.Low.grown (w := w) (n := w.heap.size) (step.Low.drew (step.Low.alloc (step.Low.alloc L2.out (by omega) _) (by first | omega | (simp; omega)) _)) hgrow (by first | omega | (simp; omega)) (fun q hq => by have := (HG.out.owns.lt q hq).1; first | omega | (simp at this; omega)))
          refine hK.out _ _ ?s22 (fun hHeld => ?_)
          case s22 => (try dsimp only); (refine lows1v gc hb2 ?_ q1; (repeat (first | exact L2.out | exact L3.out | refine step.Low.drew ?_ | refine step.Low.alloc ?_ (by first | omega | (simp; omega)) _)))
          clear hK K
          try simp only [Act.put, List.setIfInBounds_toArray, List.set_cons_zero, List.set_cons_succ]
          refine last.take (i := 23) (oi := { dst := some 60, op := Op.fieldAddr 25 (Operand.tmp 10) 3, type := 0, pos := "l4_games.go:179", after := #[{ on := 0, ground := Ground.phase }, { on := 1, ground := Ground.phase }, { on := 2, ground := Ground.phase }, { on := 3, ground := Ground.phase }, { on := 4, ground := Ground.phase }, { on := 5, ground := Ground.phase }, { on := 6, ground := Ground.phase }, { on := 7, ground := Ground.phase }, { on := 8, ground := Ground.phase }, { on := 9, ground := Ground.phase }, { on := 10, ground := Ground.phase }, { on := 11, ground := Ground.phase }, { on := 12, ground := Ground.phase }, { on := 13, ground := Ground.phase }, { on := 14, ground := Ground.phase }, { on := 15, ground := Ground.phase }, { on := 16, ground := Ground.phase }, { on := 17, ground := Ground.phase }, { on := 18, ground := Ground.phase }, { on := 19, ground := Ground.phase }, { on := 20, ground := Ground.phase }, { on := 21, ground := Ground.phase }, { on := 22, ground := Ground.phase }], guard := none }) (v := ?v23) rfl (by kernel_rfl) (by kernel_rfl) (by kernel_rfl) (by kernel_rfl) (by decide) (fun _ _ _ h => h) (Or.inl ⟨by rfl, ?y23⟩) hHeld ?r23
          case y23 => (intro w hSw; (try dsimp only at hSw); go_simp; try with_reducible rfl)
          try simp only [Act.put, List.setIfInBounds_toArray, List.set_cons_zero, List.set_cons_succ]
          refine last.final (o := { dst := none, op := Op.store 23 (Operand.tmp 60) (Operand.tmp 59), type := 0, pos := "l4_games.go:179", after := #[{ on := 23, ground := Ground.data }, { on := 22, ground := Ground.data }, { on := 22, ground := Ground.chain }, { on := 0, ground := Ground.phase }, { on := 1, ground := Ground.phase }, { on := 2, ground := Ground.phase }, { on := 3, ground := Ground.phase }, { on := 4, ground := Ground.phase }, { on := 5, ground := Ground.phase }, { on := 6, ground := Ground.phase }, { on := 7, ground := Ground.phase }, { on := 8, ground := Ground.phase }, { on := 9, ground := Ground.phase }, { on := 10, ground := Ground.phase }, { on := 11, ground := Ground.phase }, { on := 12, ground := Ground.phase }, { on := 13, ground := Ground.phase }, { on := 14, ground := Ground.phase }, { on := 15, ground := Ground.phase }, { on := 16, ground := Ground.phase }, { on := 17, ground := Ground.phase }, { on := 18, ground := Ground.phase }, { on := 19, ground := Ground.phase }, { on := 20, ground := Ground.phase }, { on := 21, ground := Ground.phase }, { on := 22, ground := Ground.phase }], guard := none }) (by kernel_rfl) rfl (fun K hK => ?_)
          go_simp
          refine hK.out _ _ ?_
          clear hK K
          try simp only [Act.put, List.setIfInBounds_toArray, List.set_cons_zero, List.set_cons_succ]
          refine last.done (by kernel_rfl) ?_ _
          have W4 := Lib.hid (HG.out.grow HRI.out (by first | omega | (simp; omega)) HFR.out hown' hgrow)
          clear hown' hgrow HG HRI HFR f0 f1 f2 f3 f4 f3a f3a1 ff q1 q2 L3 k0 gc
          go_wp2_with fail
          go_roundw
          case rel => exact ⟨k + 1, by omega, by go_num, _, _, W4⟩
          case measure => simp [intOf]; omega
        · have hkz : ¬ (k : Int) < (ds.length : Int) := by omega
          obtain rfl : k = ds.length := by omega
          obtain ⟨f0, f1, f2, f3, f4⟩ := four_cells hW.out.blk
          have R1 := Lib.hid (R0.out.below hW.out.below)
          have HDN := Lib.hid hW.out.done
          have HWT := Lib.hid (app.ints_of_owns hW.out.wts)
          have BW := Lib.hid (below_tr B0.out hW.out.below)
          have HGV : Hid (game.GV wi (.slice ra rn rc) ws (.slice va0 vl0 vc0) (make.rowsOf (N ds) ds.length)) := Lib.hid ⟨HWT.out.ints, HDN.out.rows⟩
          have HTT := Lib.hid (make.total_rowsOf (N ds) ds.length HN9.out)
          have HGM := Lib.hid (gval.spec_any x y (.slice ra rn rc) ws (.slice va0 vl0 vc0) (make.rowsOf (N ds) ds.length) wi HGV.out hn HTT.out)
          clear hW
          by_cases hg : okGame x y ws (make.rowsOf (N ds) ds.length)
          · have HE := Lib.hid (res_yes (x := x) (y := y) (ws := ws) (ds := ds) ⟨HSS.out, HWI.out, by rw [HRW.out]; exact hg⟩)
            rw [HRW.out] at HE
            have HGE := Lib.hid (gameB_yes hg)
            clear hg
            go_wp2_with fail
            refine HGM.out.mono ?_
            rintro e w2 ⟨rfl, hb⟩
            rw [HGE.out]
            obtain ⟨r0, r1, r2, r3, r4⟩ := four_cells (R1.out.below hb)
            have rf : ∀ k, w2.frozen? ⟨w.heap.size, k, none⟩ = false := fun k => Joins.unfrozen_of_block (R1.out.below hb) k
            have e0 := below_cell hb _ _ f0
            have e1 := below_cell hb _ _ f1
            have e2 := below_cell hb _ _ f2
            have e3 := below_cell hb _ _ f3
            have hne : bb ≠ w.heap.size := by simp at hbz; omega
            have B2 := Lib.hid (below_tr BW.out hb)
            have HG2 := Lib.hid (HGV.out.below hb)
            have HD2 := Lib.hid (HDN.out.keep hb)
            have HW2 := Lib.hid (HWT.out.keep hb)
            clear hb HGM f0 f1 f2 f3 f4
            go_wp2_with fail
            refine bodyPost_ret (v := .tuple #[.agg #[.int .i64 x, .int .i64 y, .slice ra rn rc, .slice va0 vl0 vc0], .bool true]) (by simp [results, Try.results14, go_sem, r0, r1, r2, r3]) rfl ?_
            rw [HE.out]
            refine ⟨_, _, rfl, ⟨?_, ?_⟩, ?_⟩
            · refine (HW2.out.wrote (S := fun p => p.block < w.heap.size + 1) ?_ (fun p hp => .inl (by simpa using hp))).ints
              repeat (first | exact Wrote.refl _ _ | refine Wrote.setCell ?_ (by simp) _)
            · refine (HD2.out.wrote (S := fun p => p.block < w.heap.size + 1) ?_ (fun p hp => .inl (by simpa using hp))).rows
              repeat (first | exact Wrote.refl _ _ | refine Wrote.setCell ?_ (by simp) _)
            · repeat (first | (with_reducible exact B2.out) | refine Below.setCell ?_ (by simp <;> omega) _)
          · have HE := Lib.hid (res_no (x := x) (y := y) (ws := ws) (ds := ds) (fun h => hg (by rw [← HRW.out]; exact h.2.2)))
            have HGE := Lib.hid (gameB_no hg)
            clear hg
            go_wp2_with fail
            refine HGM.out.mono ?_
            rintro e w2 ⟨rfl, hb⟩
            rw [HGE.out]
            obtain ⟨r0, r1, r2, r3, r4⟩ := four_cells (R1.out.below hb)
            have rf : ∀ k, w2.frozen? ⟨w.heap.size, k, none⟩ = false := fun k => Joins.unfrozen_of_block (R1.out.below hb) k
            have B2 := Lib.hid (below_tr BW.out hb)
            clear hb HGM f0 f1 f2 f3 f4
            go_wp2_with fail
            refine bodyPost_ret (v := .tuple #[.agg #[.int .i64 0, .int .i64 0, .slice none 0 0, .slice none 0 0], .bool false]) (by simp [results, Try.results14, go_sem, r0, r1, r2, r3]) rfl ?_
            rw [HE.out]
            refine ⟨_, _, rfl, ⟨Ints.nil _, IRows.nil _⟩, ?_⟩
            repeat (first | (with_reducible exact B2.out) | refine Below.setCell ?_ (by simp <;> omega) _)
    · have HB := Lib.hid (withinB_no hw ▸ play.spec_bits dv ds (x * y) (w.alloc (.cells #[.int .i64 0, .int .i64 0, .slice none 0 0, .slice none 0 0] 25)) (hd.below B0.out))
      have HE := Lib.hid (res_no (x := x) (y := y) (ws := ws) (ds := ds) (fun h => hw h.2.1))
      obtain ⟨wa, wn, wc, rfl⟩ := h.shape
      obtain ⟨da, dn, dc, rfl⟩ := hd.shape
      obtain ⟨r0, r1, r2, r3, r4⟩ := four_cells R0.out
      have rf : ∀ k, (w.alloc (.cells #[.int .i64 0, .int .i64 0, .slice none 0 0, .slice none 0 0] 25)).frozen? ⟨w.heap.size, k, none⟩ = false := fun k => Joins.unfrozen_of_block R0.out k
      clear h hd hs hw hxy
      go_enter Try.func14, Try.ntmps14
      go_wp2_with fail
      refine (val.sizes_yes _ _ _ HSS.out).mono ?_
      rintro e w' ⟨rfl, rfl⟩
      go_wp2_with fail
      refine HB.out.mono ?_
      rintro e w' ⟨rfl, rfl⟩
      go_wp2_with fail
      refine bodyPost_ret (v := .tuple #[.agg #[.int .i64 0, .int .i64 0, .slice none 0 0, .slice none 0 0], .bool false]) (by simp [results, Try.results14, go_sem, r0, r1, r2, r3]) rfl ?_
      rw [HE.out]
      refine ⟨_, _, rfl, ⟨Ints.nil _, IRows.nil _⟩, ?_⟩
      repeat (first | (with_reducible exact B0.out) | refine Below.setCell ?_ (by simp <;> omega) _)
  · have HSS := Lib.hid hs
    have HE := Lib.hid (res_no (x := x) (y := y) (ws := ws) (ds := ds) (fun h => hs h.1))
    obtain ⟨wa, wn, wc, rfl⟩ := h.shape
    obtain ⟨da, dn, dc, rfl⟩ := hd.shape
    obtain ⟨r0, r1, r2, r3, r4⟩ := four_cells R0.out
    have rf : ∀ k, (w.alloc (.cells #[.int .i64 0, .int .i64 0, .slice none 0 0, .slice none 0 0] 25)).frozen? ⟨w.heap.size, k, none⟩ = false := fun k => Joins.unfrozen_of_block R0.out k
    clear h hd hs
    go_enter Try.func14, Try.ntmps14
    go_wp2_with fail
    refine (val.sizes_no _ _ _ HSS.out).mono ?_
    rintro e w' ⟨rfl, rfl⟩
    go_wp2_with fail
    refine bodyPost_ret (v := .tuple #[.agg #[.int .i64 0, .int .i64 0, .slice none 0 0, .slice none 0 0], .bool false]) (by simp [results, Try.results14, go_sem, r0, r1, r2, r3]) rfl ?_
    rw [HE.out]
    refine ⟨_, _, rfl, ⟨Ints.nil _, IRows.nil _⟩, ?_⟩
    repeat (first | (with_reducible exact B0.out) | refine Below.setCell ?_ (by simp <;> omega) _)

end Go.Proofs.Ytfkdhdiacelcjaa.gsign
