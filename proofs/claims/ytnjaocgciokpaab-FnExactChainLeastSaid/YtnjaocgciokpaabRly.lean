/- Relays of the program: relayOf; their outcomes for one, two and four bits; rightNumber. -/
import Derived.Test.YtnjaocgciokpaabOcs
import Derived.Test.YtnjaocgciokpaabPlg
import Derived.Test.YtnjaocgciokpaabLast
namespace Go.Proofs.Ytnjaocgciokpaab.rly
open Go.RowKit Go.Deep Go.Proofs.Ytnjaocgciokpaab.base
open Go.Proofs.Ytnjaocgciokpaab.ints (ret_int infoInt)
open Go.Proofs.Ytnjaocgciokpaab.val (okBox)
open Go.Proofs.Ytnjaocgciokpaab.row (nn at_)
open Go.Proofs.Ytnjaocgciokpaab.oco
open Go.Proofs.Ytnjaocgciokpaab.ocs (two_cells' three_cells' four_cells' R)


set_option maxHeartbeats 2000000 in
theorem leaf (k : Nat) (wh : Int) (va : Option Addr) (vn vc : Nat) (aa : Option Addr) (an ac : Nat) (w : World) :
    Calls Try.prog 127 #[.agg #[.int .i64 (k : Int), .slice none 0 0], .agg #[.int .i64 2, .int .i64 2, .int .i64 wh, .slice va vn vc], .slice aa an ac] w fun e w' => ∃ u, e = .returned u ∧ Got w w' u [(k, 0, 1)] := by
  have BL : Hid (Blk (((w.alloc (.cells #[.int .i64 (k : Int), .slice none 0 0] 145)).alloc (.cells #[.int .i64 2, .int .i64 2, .int .i64 wh, .slice va vn vc] 28)).alloc (.cells #[.int .i64 (k : Int), .int .i64 0, .int .i64 1] 178)) (w.heap.size + 1 + 1) 178 #[.int .i64 (k : Int), .int .i64 0, .int .i64 1]) := Lib.hid (by
    have := Blk.new ((w.alloc (.cells #[.int .i64 (k : Int), .slice none 0 0] 145)).alloc (.cells #[.int .i64 2, .int .i64 2, .int .i64 wh, .slice va vn vc] 28)) 178 #[.int .i64 (k : Int), .int .i64 0, .int .i64 1]
    simpa using this)
  have B0 := Lib.hid (below_al (below_al (below_al (Below.refl w.heap.size w) (.cells #[.int .i64 (k : Int), .slice none 0 0] 145)) (.cells #[.int .i64 2, .int .i64 2, .int .i64 wh, .slice va vn vc] 28)) (.cells #[.int .i64 (k : Int), .int .i64 0, .int .i64 1] 178))
  obtain ⟨w1, hw1⟩ : ∃ w1, (w.alloc (.cells #[.int .i64 (k : Int), .slice none 0 0] 145)).alloc (.cells #[.int .i64 2, .int .i64 2, .int .i64 wh, .slice va vn vc] 28) = w1 := ⟨_, rfl⟩
  have hs : w1.heap.size = w.heap.size + 1 + 1 := by rw [← hw1]; simp
  have HS := Lib.hid hs
  obtain ⟨k0, k1⟩ := two_cells' (show Blk w1 w.heap.size 145 #[.int .i64 (k : Int), .slice none 0 0] from hw1 ▸ (Blk.new w _ _).alloc _)
  rw [hw1] at BL B0
  clear hs
  go_enter Try.func127, Try.ntmps127
  go_wp2_with fail
  go_ret
  rw [HS.out]
  exact ⟨_, rfl, w.heap.size + 1 + 1, _, ⟨1, rfl, BL.out, rfl⟩, by omega, B0.out⟩


set_option maxHeartbeats 2000000 in
theorem of1 (k : Int) (w : World) :
    Calls Try.prog 126 #[.int .i64 k, .int .i64 1] w fun e w' => e = .returned (.agg #[.int .i64 k, .slice none 0 0]) ∧ Below w.heap.size w w' := by
  have R0 := Blk.new w 145 #[.int .i64 0, .slice none 0 0]
  have B0 := Lib.hid (below_al (Below.refl w.heap.size w) (.cells #[.int .i64 0, .slice none 0 0] 145))
  obtain ⟨w1, hw1⟩ : ∃ w1, w.alloc (.cells #[.int .i64 0, .slice none 0 0] 145) = w1 := ⟨_, rfl⟩
  rw [hw1] at R0 B0
  obtain ⟨c0, c1⟩ := two_cells' R0
  have rf : ∀ j, w1.frozen? ⟨w.heap.size, j, none⟩ = false := fun j => Joins.unfrozen_of_block R0 j
  have R1 : Blk ((w1.setCell ⟨w.heap.size, 0, none⟩ (.int .i64 k)).setCell ⟨w.heap.size, 1, none⟩ (.slice none 0 0)) w.heap.size 145 #[.int .i64 k, .slice none 0 0] := by
    have h1 := Joins.block_setCell (i := 0) R0 (.int .i64 k)
    have h2 := Joins.block_setCell (i := 1) h1 (.slice none 0 0)
    simpa [Blk] using h2
  obtain ⟨d0, d1⟩ := two_cells' R1
  clear R0 R1
  go_enter Try.func126, Try.ntmps126
  go_wp2_with fail
  refine bodyPost_ret (v := .agg #[.int .i64 k, .slice none 0 0]) (by simp [results, Try.results126, go_sem, d0, d1]) rfl ⟨rfl, ?_⟩
  exact Below.setCell (Below.setCell B0.out (Nat.le_refl _) _) (Nat.le_refl _) _
/-- the relay u of two bits -/
def Two (w w' : World) (u : Value) (k0 k1 : Int) : Prop := ∃ b, u = .agg #[.int .i64 0, .slice (some ⟨b, 0, none⟩) 2 2] ∧ Blk w' b 145 #[.int .i64 k0, .slice none 0 0, .int .i64 k1, .slice none 0 0] ∧ w.heap.size ≤ b ∧ Below w.heap.size w w'
theorem blk_set0 {w : World} {b gg k : Nat} {t : TypeId} {vs : Array Value} {v : Value} (h : Blk w b t vs) (hb : b ≠ gg) : Blk (w.setCell ⟨gg, k, none⟩ v) b t vs :=
  (Below.heap_setCell w _ _ _ (fun e => hb e)).trans h
set_option maxRecDepth 100000 in
set_option maxHeartbeats 4000000 in
theorem of2 (k : Nat) (k0 k1 : Int) (w : World) (h0 : bits .and .i64 (k : Int) 1 = k0) (h1 : (k : Int) / 2 = k1) :
    Calls Try.prog 126 #[.int .i64 (k : Int), .int .i64 2] w fun e w' => ∃ u, e = .returned u ∧ Two w w' u k0 k1 := by
  have R0 := Blk.new w 145 #[.int .i64 0, .slice none 0 0]
  have B0 := Lib.hid (below_al (Below.refl w.heap.size w) (.cells #[.int .i64 0, .slice none 0 0] 145))
  have hlw : w.heap.size < (w.alloc (.cells #[.int .i64 0, .slice none 0 0] 145)).heap.size := by simp
  obtain ⟨w1, hw1⟩ : ∃ w1, w.alloc (.cells #[.int .i64 0, .slice none 0 0] 145) = w1 := ⟨_, rfl⟩
  rw [hw1] at R0 B0 hlw
  have RB := Lib.hid R0
  clear R0
  go_enter Try.func126, Try.ntmps126
  go_wp2_with fail
  clear hw1
  have v1 : IntKind.i64.wrap 2 = 2 := by decide
  have v2 : IntKind.i64.wrap (2 - 1) = 1 := by decide
  have v3 : IntKind.i64.wrap 1 = 1 := by decide
  refine last.start (S := fun _ => True) (L := 14) (by kernel_rfl) ?_
  have hHeld : (fun _ : World => True) w1.drew := trivial
  refine last.take (i := 0) (oi := { dst := some 12, op := Op.move (Operand.tmp 0), type := 3, pos := "l9_codes.go:209", after := #[], guard := none }) (v := ?v0) rfl (by kernel_rfl) (by kernel_rfl) (by kernel_rfl) (by kernel_rfl) (by decide) (fun _ _ _ h => h) (Or.inl ⟨by rfl, ?y0⟩) hHeld ?r0
  case y0 => (intro w hSw; (try dsimp only at hSw); go_simp; try with_reducible rfl)
  try simp only [Act.put, List.setIfInBounds_toArray, List.set_cons_zero, List.set_cons_succ]
  refine last.take (i := 1) (oi := { dst := some 13, op := Op.move (Operand.tmp 5), type := 3, pos := "l9_codes.go:209", after := #[], guard := none }) (v := ?v1) rfl (by kernel_rfl) (by kernel_rfl) (by kernel_rfl) (by kernel_rfl) (by decide) (fun _ _ _ h => h) (Or.inl ⟨by rfl, ?y1⟩) hHeld ?r1
  case y1 => (intro w hSw; (try dsimp only at hSw); go_simp; try with_reducible rfl)
  try simp only [Act.put, List.setIfInBounds_toArray, List.set_cons_zero, List.set_cons_succ]
  refine last.take (i := 2) (oi := { dst := some 14, op := Op.binOp BinOp.shl 3 (Operand.const (Value.int IntKind.i64 1)) (Operand.tmp 13) 3, type := 3, pos := "l9_codes.go:209", after := #[{ on := 1, ground := Ground.data }], guard := none }) (v := ?v2) rfl (by kernel_rfl) (by kernel_rfl) (by kernel_rfl) (by kernel_rfl) (by decide) (fun _ _ _ h => h) (Or.inl ⟨by rfl, ?y2⟩) hHeld ?r2
  case y2 => (intro w hSw; (try dsimp only at hSw); go_simp; try with_reducible rfl)
  try simp only [Act.put, List.setIfInBounds_toArray, List.set_cons_zero, List.set_cons_succ]
  refine last.take (i := 3) (oi := { dst := some 15, op := Op.binOp BinOp.sub 3 (Operand.tmp 14) (Operand.const (Value.int IntKind.i64 1)) 3, type := 3, pos := "l9_codes.go:209", after := #[{ on := 2, ground := Ground.data }], guard := none }) (v := ?v3) rfl (by kernel_rfl) (by kernel_rfl) (by kernel_rfl) (by kernel_rfl) (by decide) (fun _ _ _ h => h) (Or.inl ⟨by rfl, ?y3⟩) hHeld ?r3
  case y3 => (intro w hSw; (try dsimp only at hSw); go_simp; try with_reducible rfl)
  try simp only [Act.put, List.setIfInBounds_toArray, List.set_cons_zero, List.set_cons_succ]
  refine last.take (i := 4) (oi := { dst := some 16, op := Op.binOp BinOp.and 3 (Operand.tmp 12) (Operand.tmp 15) 3, type := 3, pos := "l9_codes.go:209", after := #[{ on := 0, ground := Ground.data }, { on := 3, ground := Ground.data }], guard := none }) (v := ?v4) rfl (by kernel_rfl) (by kernel_rfl) (by kernel_rfl) (by kernel_rfl) (by decide) (fun _ _ _ h => h) (Or.inl ⟨by rfl, ?y4⟩) hHeld ?r4
  case y4 => (intro w hSw; (try dsimp only at hSw); go_simp; try with_reducible rfl)
  try simp only [Act.put, List.setIfInBounds_toArray, List.set_cons_zero, List.set_cons_succ]
  refine last.take (i := 5) (oi := { dst := some 17, op := Op.move (Operand.tmp 5), type := 3, pos := "l9_codes.go:209", after := #[], guard := none }) (v := ?v5) rfl (by kernel_rfl) (by kernel_rfl) (by kernel_rfl) (by kernel_rfl) (by decide) (fun _ _ _ h => h) (Or.inl ⟨by rfl, ?y5⟩) hHeld ?r5
  case y5 => (intro w hSw; (try dsimp only at hSw); go_simp; try with_reducible rfl)
  try simp only [Act.put, List.setIfInBounds_toArray, List.set_cons_zero, List.set_cons_succ]
  refine last.take (i := 7) (oi := { dst := some 19, op := Op.move (Operand.tmp 0), type := 3, pos := "l9_codes.go:209", after := #[], guard := none }) (v := ?v7) rfl (by kernel_rfl) (by kernel_rfl) (by kernel_rfl) (by kernel_rfl) (by decide) (fun _ _ _ h => h) (Or.inl ⟨by rfl, ?y7⟩) hHeld ?r7
  case y7 => (intro w hSw; (try dsimp only at hSw); go_simp; try with_reducible rfl)
  try simp only [Act.put, List.setIfInBounds_toArray, List.set_cons_zero, List.set_cons_succ]
  refine last.take (i := 8) (oi := { dst := some 20, op := Op.move (Operand.tmp 5), type := 3, pos := "l9_codes.go:209", after := #[], guard := none }) (v := ?v8) rfl (by kernel_rfl) (by kernel_rfl) (by kernel_rfl) (by kernel_rfl) (by decide) (fun _ _ _ h => h) (Or.inl ⟨by rfl, ?y8⟩) hHeld ?r8
  case y8 => (intro w hSw; (try dsimp only at hSw); go_simp; try with_reducible rfl)
  try simp only [Act.put, List.setIfInBounds_toArray, List.set_cons_zero, List.set_cons_succ]
  refine last.take (i := 9) (oi := { dst := some 21, op := Op.binOp BinOp.shr 3 (Operand.tmp 19) (Operand.tmp 20) 3, type := 3, pos := "l9_codes.go:209", after := #[{ on := 7, ground := Ground.data }, { on := 8, ground := Ground.data }], guard := none }) (v := ?v9) rfl (by kernel_rfl) (by kernel_rfl) (by kernel_rfl) (by kernel_rfl) (by decide) (fun _ _ _ h => h) (Or.inl ⟨by rfl, ?y9⟩) hHeld ?r9
  case y9 => (intro w hSw; (try dsimp only at hSw); go_simp; try with_reducible rfl)
  try simp only [Act.put, List.setIfInBounds_toArray, List.set_cons_zero, List.set_cons_succ]
  refine last.take (i := 10) (oi := { dst := some 22, op := Op.move (Operand.tmp 5), type := 3, pos := "l9_codes.go:209", after := #[], guard := none }) (v := ?v10) rfl (by kernel_rfl) (by kernel_rfl) (by kernel_rfl) (by kernel_rfl) (by decide) (fun _ _ _ h => h) (Or.inl ⟨by rfl, ?y10⟩) hHeld ?r10
  case y10 => (intro w hSw; (try dsimp only at hSw); go_simp; try with_reducible rfl)
  try simp only [Act.put, List.setIfInBounds_toArray, List.set_cons_zero, List.set_cons_succ]
  refine last.one (i := 6) (o := { dst := some 18, op := Op.call { callee := Callee.value (Operand.func 126), args := #[Operand.tmp 16, Operand.tmp 17], argTypes := #[3, 3] }, type := 145, pos := "l9_codes.go:209", after := #[{ on := 4, ground := Ground.data }, { on := 5, ground := Ground.data }], guard := none }) (by kernel_rfl) rfl (fun K hK => ?_)
  go_simp
  (go_at_call 126; (with_reducible refine (of1 _ _).mono ?_); rintro e w2 ⟨rfl, hb2⟩)
  refine hK.out _ _ ?s6 (fun hHeld => ?_)
  case s6 => (try dsimp only); try trivial
  clear hK K
  try simp only [Act.put, List.setIfInBounds_toArray, List.set_cons_zero, List.set_cons_succ]
  refine last.one (i := 11) (o := { dst := some 23, op := Op.call { callee := Callee.value (Operand.func 126), args := #[Operand.tmp 21, Operand.tmp 22], argTypes := #[3, 3] }, type := 145, pos := "l9_codes.go:209", after := #[{ on := 9, ground := Ground.data }, { on := 10, ground := Ground.data }, { on := 6, ground := Ground.chain }], guard := none }) (by kernel_rfl) rfl (fun K hK => ?_)
  go_simp
  (go_at_call 126; (with_reducible refine (of1 _ _).mono ?_); rintro e w3 ⟨rfl, hb3⟩)
  refine hK.out _ _ ?s11 (fun hHeld => ?_)
  case s11 => (try dsimp only); try trivial
  clear hK K
  try simp only [Act.put, List.setIfInBounds_toArray, List.set_cons_zero, List.set_cons_succ]
  have B3 := Lib.hid (below_tr (below_tr (below_dr B0.out) hb2) hb3)
  have RB3 := Lib.hid ((RB.out.below (below_tr (below_dr (Below.refl _ _)) hb2)).below hb3)
  have RC := RB3.out
  have rf : ∀ j, w3.frozen? ⟨w.heap.size, j, none⟩ = false := fun j => Joins.unfrozen_of_block RC j
  obtain ⟨rc0, rc1⟩ := two_cells' RC
  have hl3 : w.heap.size < w3.heap.size := RB3.out.lt
  have R1 : Blk ((w3.setCell ⟨w.heap.size, 0, none⟩ (.int .i64 0)).setCell ⟨w.heap.size, 1, none⟩ (.slice (some ⟨w3.heap.size, 0, none⟩) 2 2)) w.heap.size 145 #[.int .i64 0, .slice (some ⟨w3.heap.size, 0, none⟩) 2 2] := by
    have h1 := Joins.block_setCell (i := 0) RC (.int .i64 0)
    have h2 := Joins.block_setCell (i := 1) h1 (.slice (some ⟨w3.heap.size, 0, none⟩) 2 2)
    simpa [Blk] using h2
  obtain ⟨d0, d1⟩ := two_cells' (R1.alloc (.cells #[.int .i64 k0, .slice none 0 0, .int .i64 k1, .slice none 0 0] 145))
  have SB : Hid (Blk (((w3.setCell ⟨w.heap.size, 0, none⟩ (.int .i64 0)).setCell ⟨w.heap.size, 1, none⟩ (.slice (some ⟨w3.heap.size, 0, none⟩) 2 2)).alloc (.cells #[.int .i64 k0, .slice none 0 0, .int .i64 k1, .slice none 0 0] 145)) w3.heap.size 145 #[.int .i64 k0, .slice none 0 0, .int .i64 k1, .slice none 0 0]) := Lib.hid (by
    have := Blk.new ((w3.setCell ⟨w.heap.size, 0, none⟩ (.int .i64 0)).setCell ⟨w.heap.size, 1, none⟩ (.slice (some ⟨w3.heap.size, 0, none⟩) 2 2)) 145 #[.int .i64 k0, .slice none 0 0, .int .i64 k1, .slice none 0 0]
    simpa using this)
  clear RC R1 hb2 hb3
  refine last.one (i := 12) (o := { dst := some 24, op := Op.buildSlice 143 2 #[(0, Operand.tmp 18), (1, Operand.tmp 23)], type := 143, pos := "l9_codes.go:209", after := #[{ on := 6, ground := Ground.data }, { on := 11, ground := Ground.data }], guard := none }) (by kernel_rfl) rfl (fun K hK => ?_)
  go_simp
  refine hK.out _ _ ?s12 (fun hHeld => ?_)
  case s12 => (try dsimp only); try trivial
  clear hK K
  try simp only [Act.put, List.setIfInBounds_toArray, List.set_cons_zero, List.set_cons_succ]
  refine last.take (i := 13) (oi := { dst := some 25, op := Op.build 145 #[(1, Operand.tmp 24)], type := 145, pos := "l9_codes.go:209", after := #[{ on := 12, ground := Ground.data }], guard := none }) (v := ?v13) rfl (by kernel_rfl) (by kernel_rfl) (by kernel_rfl) (by kernel_rfl) (by decide) (fun _ _ _ h => h) (Or.inl ⟨by rfl, ?y13⟩) hHeld ?r13
  case y13 => (intro w hSw; (try dsimp only at hSw); go_simp; try with_reducible rfl)
  try simp only [Act.put, List.setIfInBounds_toArray, List.set_cons_zero, List.set_cons_succ]
  refine last.final (o := { dst := none, op := Op.store 145 (Operand.tmp 4) (Operand.tmp 25), type := 0, pos := "l9_codes.go:209", after := #[{ on := 13, ground := Ground.data }, { on := 11, ground := Ground.chain }, { on := 0, ground := Ground.phase }, { on := 1, ground := Ground.phase }, { on := 2, ground := Ground.phase }, { on := 3, ground := Ground.phase }, { on := 4, ground := Ground.phase }, { on := 5, ground := Ground.phase }, { on := 6, ground := Ground.phase }, { on := 7, ground := Ground.phase }, { on := 8, ground := Ground.phase }, { on := 9, ground := Ground.phase }, { on := 10, ground := Ground.phase }, { on := 11, ground := Ground.phase }, { on := 12, ground := Ground.phase }, { on := 13, ground := Ground.phase }], guard := none }) (by kernel_rfl) rfl (fun K hK => ?_)
  go_simp
  refine hK.out _ _ ?_
  clear hK K
  try simp only [Act.put, List.setIfInBounds_toArray, List.set_cons_zero, List.set_cons_succ]
  refine last.done (by kernel_rfl) ?_ _
  go_wp2_with fail
  refine bodyPost_ret (v := .agg #[.int .i64 0, .slice (some ⟨w3.heap.size, 0, none⟩) 2 2]) (by simp [results, Try.results126, go_sem, d0, d1]) rfl ⟨_, rfl, ⟨w3.heap.size, rfl, SB.out, by have := B3.out.size; omega, ?_⟩⟩
  exact below_al (Below.setCell (Below.setCell B3.out (Nat.le_refl _) _) (Nat.le_refl _) _) _
/-- the relay u of four bits -/
def Four (w w' : World) (u : Value) (a0 a1 b0 b1 : Int) : Prop := ∃ b p0 p1, u = .agg #[.int .i64 0, .slice (some ⟨b, 0, none⟩) 2 2] ∧ Blk w' b 145 #[.int .i64 0, .slice (some ⟨p0, 0, none⟩) 2 2, .int .i64 0, .slice (some ⟨p1, 0, none⟩) 2 2] ∧
  Blk w' p0 145 #[.int .i64 a0, .slice none 0 0, .int .i64 a1, .slice none 0 0] ∧ Blk w' p1 145 #[.int .i64 b0, .slice none 0 0, .int .i64 b1, .slice none 0 0] ∧ w.heap.size ≤ b ∧ Below w.heap.size w w'
set_option maxRecDepth 100000 in
set_option maxHeartbeats 4000000 in
theorem of4 (k : Nat) (k0 k1 : Nat) (a0 a1 b0 b1 : Int) (w : World) (h0 : bits .and .i64 (k : Int) 3 = (k0 : Int)) (h1 : (k : Int) / 4 = (k1 : Int)) (g0 : bits .and .i64 (k0 : Int) 1 = a0) (g1 : (k0 : Int) / 2 = a1) (g2 : bits .and .i64 (k1 : Int) 1 = b0) (g3 : (k1 : Int) / 2 = b1) :
    Calls Try.prog 126 #[.int .i64 (k : Int), .int .i64 4] w fun e w' => ∃ u, e = .returned u ∧ Four w w' u a0 a1 b0 b1 := by
  have G0 := Lib.hid g0
  have G1 := Lib.hid g1
  have G2 := Lib.hid g2
  have G3 := Lib.hid g3
  clear g0 g1 g2 g3
  have R0 := Blk.new w 145 #[.int .i64 0, .slice none 0 0]
  have B0 := Lib.hid (below_al (Below.refl w.heap.size w) (.cells #[.int .i64 0, .slice none 0 0] 145))
  have hlw : w.heap.size < (w.alloc (.cells #[.int .i64 0, .slice none 0 0] 145)).heap.size := by simp
  obtain ⟨w1, hw1⟩ : ∃ w1, w.alloc (.cells #[.int .i64 0, .slice none 0 0] 145) = w1 := ⟨_, rfl⟩
  rw [hw1] at R0 B0 hlw
  have RB := Lib.hid R0
  clear R0
  go_enter Try.func126, Try.ntmps126
  go_wp2_with fail
  clear hw1
  have v1 : IntKind.i64.wrap 4 = 4 := by decide
  have v2 : IntKind.i64.wrap (4 - 1) = 3 := by decide
  have v3 : IntKind.i64.wrap 3 = 3 := by decide
  refine last.start (S := fun _ => True) (L := 14) (by kernel_rfl) ?_
  have hHeld : (fun _ : World => True) w1.drew := trivial
  refine last.take (i := 0) (oi := { dst := some 12, op := Op.move (Operand.tmp 0), type := 3, pos := "l9_codes.go:209", after := #[], guard := none }) (v := ?v0) rfl (by kernel_rfl) (by kernel_rfl) (by kernel_rfl) (by kernel_rfl) (by decide) (fun _ _ _ h => h) (Or.inl ⟨by rfl, ?y0⟩) hHeld ?r0
  case y0 => (intro w hSw; (try dsimp only at hSw); go_simp; try with_reducible rfl)
  try simp only [Act.put, List.setIfInBounds_toArray, List.set_cons_zero, List.set_cons_succ]
  refine last.take (i := 1) (oi := { dst := some 13, op := Op.move (Operand.tmp 5), type := 3, pos := "l9_codes.go:209", after := #[], guard := none }) (v := ?v1) rfl (by kernel_rfl) (by kernel_rfl) (by kernel_rfl) (by kernel_rfl) (by decide) (fun _ _ _ h => h) (Or.inl ⟨by rfl, ?y1⟩) hHeld ?r1
  case y1 => (intro w hSw; (try dsimp only at hSw); go_simp; try with_reducible rfl)
  try simp only [Act.put, List.setIfInBounds_toArray, List.set_cons_zero, List.set_cons_succ]
  refine last.take (i := 2) (oi := { dst := some 14, op := Op.binOp BinOp.shl 3 (Operand.const (Value.int IntKind.i64 1)) (Operand.tmp 13) 3, type := 3, pos := "l9_codes.go:209", after := #[{ on := 1, ground := Ground.data }], guard := none }) (v := ?v2) rfl (by kernel_rfl) (by kernel_rfl) (by kernel_rfl) (by kernel_rfl) (by decide) (fun _ _ _ h => h) (Or.inl ⟨by rfl, ?y2⟩) hHeld ?r2
  case y2 => (intro w hSw; (try dsimp only at hSw); go_simp; try with_reducible rfl)
  try simp only [Act.put, List.setIfInBounds_toArray, List.set_cons_zero, List.set_cons_succ]
  refine last.take (i := 3) (oi := { dst := some 15, op := Op.binOp BinOp.sub 3 (Operand.tmp 14) (Operand.const (Value.int IntKind.i64 1)) 3, type := 3, pos := "l9_codes.go:209", after := #[{ on := 2, ground := Ground.data }], guard := none }) (v := ?v3) rfl (by kernel_rfl) (by kernel_rfl) (by kernel_rfl) (by kernel_rfl) (by decide) (fun _ _ _ h => h) (Or.inl ⟨by rfl, ?y3⟩) hHeld ?r3
  case y3 => (intro w hSw; (try dsimp only at hSw); go_simp; try with_reducible rfl)
  try simp only [Act.put, List.setIfInBounds_toArray, List.set_cons_zero, List.set_cons_succ]
  refine last.take (i := 4) (oi := { dst := some 16, op := Op.binOp BinOp.and 3 (Operand.tmp 12) (Operand.tmp 15) 3, type := 3, pos := "l9_codes.go:209", after := #[{ on := 0, ground := Ground.data }, { on := 3, ground := Ground.data }], guard := none }) (v := ?v4) rfl (by kernel_rfl) (by kernel_rfl) (by kernel_rfl) (by kernel_rfl) (by decide) (fun _ _ _ h => h) (Or.inl ⟨by rfl, ?y4⟩) hHeld ?r4
  case y4 => (intro w hSw; (try dsimp only at hSw); go_simp; try with_reducible rfl)
  try simp only [Act.put, List.setIfInBounds_toArray, List.set_cons_zero, List.set_cons_succ]
  refine last.take (i := 5) (oi := { dst := some 17, op := Op.move (Operand.tmp 5), type := 3, pos := "l9_codes.go:209", after := #[], guard := none }) (v := ?v5) rfl (by kernel_rfl) (by kernel_rfl) (by kernel_rfl) (by kernel_rfl) (by decide) (fun _ _ _ h => h) (Or.inl ⟨by rfl, ?y5⟩) hHeld ?r5
  case y5 => (intro w hSw; (try dsimp only at hSw); go_simp; try with_reducible rfl)
  try simp only [Act.put, List.setIfInBounds_toArray, List.set_cons_zero, List.set_cons_succ]
  refine last.take (i := 7) (oi := { dst := some 19, op := Op.move (Operand.tmp 0), type := 3, pos := "l9_codes.go:209", after := #[], guard := none }) (v := ?v7) rfl (by kernel_rfl) (by kernel_rfl) (by kernel_rfl) (by kernel_rfl) (by decide) (fun _ _ _ h => h) (Or.inl ⟨by rfl, ?y7⟩) hHeld ?r7
  case y7 => (intro w hSw; (try dsimp only at hSw); go_simp; try with_reducible rfl)
  try simp only [Act.put, List.setIfInBounds_toArray, List.set_cons_zero, List.set_cons_succ]
  refine last.take (i := 8) (oi := { dst := some 20, op := Op.move (Operand.tmp 5), type := 3, pos := "l9_codes.go:209", after := #[], guard := none }) (v := ?v8) rfl (by kernel_rfl) (by kernel_rfl) (by kernel_rfl) (by kernel_rfl) (by decide) (fun _ _ _ h => h) (Or.inl ⟨by rfl, ?y8⟩) hHeld ?r8
  case y8 => (intro w hSw; (try dsimp only at hSw); go_simp; try with_reducible rfl)
  try simp only [Act.put, List.setIfInBounds_toArray, List.set_cons_zero, List.set_cons_succ]
  refine last.take (i := 9) (oi := { dst := some 21, op := Op.binOp BinOp.shr 3 (Operand.tmp 19) (Operand.tmp 20) 3, type := 3, pos := "l9_codes.go:209", after := #[{ on := 7, ground := Ground.data }, { on := 8, ground := Ground.data }], guard := none }) (v := ?v9) rfl (by kernel_rfl) (by kernel_rfl) (by kernel_rfl) (by kernel_rfl) (by decide) (fun _ _ _ h => h) (Or.inl ⟨by rfl, ?y9⟩) hHeld ?r9
  case y9 => (intro w hSw; (try dsimp only at hSw); go_simp; try with_reducible rfl)
  try simp only [Act.put, List.setIfInBounds_toArray, List.set_cons_zero, List.set_cons_succ]
  refine last.take (i := 10) (oi := { dst := some 22, op := Op.move (Operand.tmp 5), type := 3, pos := "l9_codes.go:209", after := #[], guard := none }) (v := ?v10) rfl (by kernel_rfl) (by kernel_rfl) (by kernel_rfl) (by kernel_rfl) (by decide) (fun _ _ _ h => h) (Or.inl ⟨by rfl, ?y10⟩) hHeld ?r10
  case y10 => (intro w hSw; (try dsimp only at hSw); go_simp; try with_reducible rfl)
  try simp only [Act.put, List.setIfInBounds_toArray, List.set_cons_zero, List.set_cons_succ]
  refine last.one (i := 6) (o := { dst := some 18, op := Op.call { callee := Callee.value (Operand.func 126), args := #[Operand.tmp 16, Operand.tmp 17], argTypes := #[3, 3] }, type := 145, pos := "l9_codes.go:209", after := #[{ on := 4, ground := Ground.data }, { on := 5, ground := Ground.data }], guard := none }) (by kernel_rfl) rfl (fun K hK => ?_)
  go_simp
  (go_at_call 126; (with_reducible refine (of2 k0 a0 a1 _ G0.out G1.out).mono ?_); rintro e w2 ⟨u2, rfl, ⟨p0, rfl, hp0, hg0, hb2⟩⟩)
  refine hK.out _ _ ?s6 (fun hHeld => ?_)
  case s6 => (try dsimp only); try trivial
  clear hK K
  try simp only [Act.put, List.setIfInBounds_toArray, List.set_cons_zero, List.set_cons_succ]
  refine last.one (i := 11) (o := { dst := some 23, op := Op.call { callee := Callee.value (Operand.func 126), args := #[Operand.tmp 21, Operand.tmp 22], argTypes := #[3, 3] }, type := 145, pos := "l9_codes.go:209", after := #[{ on := 9, ground := Ground.data }, { on := 10, ground := Ground.data }, { on := 6, ground := Ground.chain }], guard := none }) (by kernel_rfl) rfl (fun K hK => ?_)
  go_simp
  (go_at_call 126; (with_reducible refine (of2 k1 b0 b1 _ G2.out G3.out).mono ?_); rintro e w3 ⟨u3, rfl, ⟨p1, rfl, hp1, hg1, hb3⟩⟩)
  refine hK.out _ _ ?s11 (fun hHeld => ?_)
  case s11 => (try dsimp only); try trivial
  clear hK K
  try simp only [Act.put, List.setIfInBounds_toArray, List.set_cons_zero, List.set_cons_succ]
  have B3 := Lib.hid (below_tr (below_tr (below_dr B0.out) hb2) hb3)
  have RB3 := Lib.hid ((RB.out.below (below_tr (below_dr (Below.refl _ _)) hb2)).below hb3)
  have HPP0 := Lib.hid (hp0.below hb3)
  have HPP1 := Lib.hid hp1
  have RC := RB3.out
  have rf : ∀ j, w3.frozen? ⟨w.heap.size, j, none⟩ = false := fun j => Joins.unfrozen_of_block RC j
  obtain ⟨rc0, rc1⟩ := two_cells' RC
  have hl3 : w.heap.size < w3.heap.size := RB3.out.lt
  have R1 : Blk ((w3.setCell ⟨w.heap.size, 0, none⟩ (.int .i64 0)).setCell ⟨w.heap.size, 1, none⟩ (.slice (some ⟨w3.heap.size, 0, none⟩) 2 2)) w.heap.size 145 #[.int .i64 0, .slice (some ⟨w3.heap.size, 0, none⟩) 2 2] := by
    have h1 := Joins.block_setCell (i := 0) RC (.int .i64 0)
    have h2 := Joins.block_setCell (i := 1) h1 (.slice (some ⟨w3.heap.size, 0, none⟩) 2 2)
    simpa [Blk] using h2
  obtain ⟨d0, d1⟩ := two_cells' (R1.alloc (.cells #[.int .i64 0, .slice (some ⟨p0, 0, none⟩) 2 2, .int .i64 0, .slice (some ⟨p1, 0, none⟩) 2 2] 145))
  have SB : Hid (Blk (((w3.setCell ⟨w.heap.size, 0, none⟩ (.int .i64 0)).setCell ⟨w.heap.size, 1, none⟩ (.slice (some ⟨w3.heap.size, 0, none⟩) 2 2)).alloc (.cells #[.int .i64 0, .slice (some ⟨p0, 0, none⟩) 2 2, .int .i64 0, .slice (some ⟨p1, 0, none⟩) 2 2] 145)) w3.heap.size 145 #[.int .i64 0, .slice (some ⟨p0, 0, none⟩) 2 2, .int .i64 0, .slice (some ⟨p1, 0, none⟩) 2 2]) := Lib.hid (by
    have := Blk.new ((w3.setCell ⟨w.heap.size, 0, none⟩ (.int .i64 0)).setCell ⟨w.heap.size, 1, none⟩ (.slice (some ⟨w3.heap.size, 0, none⟩) 2 2)) 145 #[.int .i64 0, .slice (some ⟨p0, 0, none⟩) 2 2, .int .i64 0, .slice (some ⟨p1, 0, none⟩) 2 2]
    simpa using this)
  have hq0 : w.heap.size < p0 := Nat.lt_of_lt_of_le hlw hg0
  have hq1 : w.heap.size < p1 := Nat.lt_of_lt_of_le hlw (Nat.le_trans hb2.size hg1)
  have PB0 : Hid (Blk (((w3.setCell ⟨w.heap.size, 0, none⟩ (.int .i64 0)).setCell ⟨w.heap.size, 1, none⟩ (.slice (some ⟨w3.heap.size, 0, none⟩) 2 2)).alloc (.cells #[.int .i64 0, .slice (some ⟨p0, 0, none⟩) 2 2, .int .i64 0, .slice (some ⟨p1, 0, none⟩) 2 2] 145)) p0 145 #[.int .i64 a0, .slice none 0 0, .int .i64 a1, .slice none 0 0]) := Lib.hid ((blk_set0 (blk_set0 HPP0.out (by omega)) (by omega)).alloc _)
  have PB1 : Hid (Blk (((w3.setCell ⟨w.heap.size, 0, none⟩ (.int .i64 0)).setCell ⟨w.heap.size, 1, none⟩ (.slice (some ⟨w3.heap.size, 0, none⟩) 2 2)).alloc (.cells #[.int .i64 0, .slice (some ⟨p0, 0, none⟩) 2 2, .int .i64 0, .slice (some ⟨p1, 0, none⟩) 2 2] 145)) p1 145 #[.int .i64 b0, .slice none 0 0, .int .i64 b1, .slice none 0 0]) := Lib.hid ((blk_set0 (blk_set0 HPP1.out (by omega)) (by omega)).alloc _)
  clear hp0 hp1 hg0 hg1 hq0 hq1
  clear RC R1 hb2 hb3
  refine last.one (i := 12) (o := { dst := some 24, op := Op.buildSlice 143 2 #[(0, Operand.tmp 18), (1, Operand.tmp 23)], type := 143, pos := "l9_codes.go:209", after := #[{ on := 6, ground := Ground.data }, { on := 11, ground := Ground.data }], guard := none }) (by kernel_rfl) rfl (fun K hK => ?_)
  go_simp
  refine hK.out _ _ ?s12 (fun hHeld => ?_)
  case s12 => (try dsimp only); try trivial
  clear hK K
  try simp only [Act.put, List.setIfInBounds_toArray, List.set_cons_zero, List.set_cons_succ]
  refine last.take (i := 13) (oi := { dst := some 25, op := Op.build 145 #[(1, Operand.tmp 24)], type := 145, pos := "l9_codes.go:209", after := #[{ on := 12, ground := Ground.data }], guard := none }) (v := ?v13) rfl (by kernel_rfl) (by kernel_rfl) (by kernel_rfl) (by kernel_rfl) (by decide) (fun _ _ _ h => h) (Or.inl ⟨by rfl, ?y13⟩) hHeld ?r13
  case y13 => (intro w hSw; (try dsimp only at hSw); go_simp; try with_reducible rfl)
  try simp only [Act.put, List.setIfInBounds_toArray, List.set_cons_zero, List.set_cons_succ]
  refine last.final (o := { dst := none, op := Op.store 145 (Operand.tmp 4) (Operand.tmp 25), type := 0, pos := "l9_codes.go:209", after := #[{ on := 13, ground := Ground.data }, { on := 11, ground := Ground.chain }, { on := 0, ground := Ground.phase }, { on := 1, ground := Ground.phase }, { on := 2, ground := Ground.phase }, { on := 3, ground := Ground.phase }, { on := 4, ground := Ground.phase }, { on := 5, ground := Ground.phase }, { on := 6, ground := Ground.phase }, { on := 7, ground := Ground.phase }, { on := 8, ground := Ground.phase }, { on := 9, ground := Ground.phase }, { on := 10, ground := Ground.phase }, { on := 11, ground := Ground.phase }, { on := 12, ground := Ground.phase }, { on := 13, ground := Ground.phase }], guard := none }) (by kernel_rfl) rfl (fun K hK => ?_)
  go_simp
  refine hK.out _ _ ?_
  clear hK K
  try simp only [Act.put, List.setIfInBounds_toArray, List.set_cons_zero, List.set_cons_succ]
  refine last.done (by kernel_rfl) ?_ _
  go_wp2_with fail
  refine bodyPost_ret (v := .agg #[.int .i64 0, .slice (some ⟨w3.heap.size, 0, none⟩) 2 2]) (by simp [results, Try.results126, go_sem, d0, d1]) rfl ⟨_, rfl, ⟨w3.heap.size, p0, p1, rfl, SB.out, PB0.out, PB1.out, by have := B3.out.size; omega, ?_⟩⟩
  exact below_al (Below.setCell (Below.setCell B3.out (Nat.le_refl _) _) (Nat.le_refl _) _) _

end Go.Proofs.Ytnjaocgciokpaab.rly
