/- othersRow of the program: the numbers of the two others, for each player that is left out. -/
import Derived.Test.YtomofmmecpdalaaTrn
import Derived.Test.YtomofmmecpdalaaLast
namespace Go.Proofs.Ytomofmmecpdalaa.tro
open Go.RowKit Go.Deep Go.Proofs.Ytomofmmecpdalaa.base
open Go.Proofs.Ytomofmmecpdalaa.tri (two_cells)
open Go.Proofs.Ytomofmmecpdalaa.trb (three_cells with0 with1 with2 at2 tw b2)
open Go.Proofs.Ytomofmmecpdalaa.trn (tc shape shape_of tc_in number_g)
open Go.Proofs.Ytomofmmecpdalaa.trv (okTrio)
open Go.Proofs.Ytomofmmecpdalaa.hld

def ins (p b j : Nat) : Nat := if p = 0 then 4 * b + j else if p = 1 then 4 * (j / 2) + 2 * b + j % 2 else 2 * j + b
def oth (xss : List (List Int)) (p q j : Nat) : Int := tc xss q (ins p 0 j) + tc xss q (ins p 1 j)
def set2 (W : World) (g : Nat) (u0 u1 : Value) : World := (W.setCell ⟨g, 0, none⟩ u0).setCell ⟨g, 1, none⟩ u1
theorem set2_same {W : World} {g : Nat} {t : TypeId} {z0 z1 : Value} (u0 u1 : Value) (h : Blk W g t #[z0, z1]) : Blk (set2 W g u0 u1) g t #[u0, u1] := by
  have h1 := Joins.block_setCell (i := 0) h u0
  have h2 := Joins.block_setCell (i := 1) h1 u1
  unfold Blk set2
  simpa using h2
theorem set2_below {B : Nat} {w W : World} {g : Nat} (u0 u1 : Value) (h : Below B w W) (hg : B ≤ g) : Below B w (set2 W g u0 u1) := by
  unfold set2
  exact Below.setCell (Below.setCell h hg _) hg _
def set3 (W : World) (g : Nat) (u0 u1 u2 : Value) : World := ((W.setCell ⟨g, 0, none⟩ u0).setCell ⟨g, 1, none⟩ u1).setCell ⟨g, 2, none⟩ u2
theorem set3_same {W : World} {g : Nat} {t : TypeId} {z0 z1 z2 : Value} (u0 u1 u2 : Value) (h : Blk W g t #[z0, z1, z2]) : Blk (set3 W g u0 u1 u2) g t #[u0, u1, u2] := by
  have h1 := Joins.block_setCell (i := 0) h u0
  have h2 := Joins.block_setCell (i := 1) h1 u1
  have h3 := Joins.block_setCell (i := 2) h2 u2
  unfold Blk set3
  simpa using h3
theorem set3_below {B : Nat} {w W : World} {g : Nat} (u0 u1 u2 : Value) (h : Below B w W) (hg : B ≤ g) : Below B w (set3 W g u0 u1 u2) := by
  unfold set3
  exact Below.setCell (Below.setCell (Below.setCell h hg _) hg _) hg _
/-- what the loop keeps -/
structure St (w wr : World) (wh : Int) (v : Value) (g : Nat) (q0 q1 q2 : Int) (F : Nat → Int) (j : Nat) : Prop where
  below : Below w.heap.size w wr
  trio : Blk wr w.heap.size 27 #[.int .i64 wh, v]
  res : Blk wr (w.heap.size + 1 + 1) 92 #[.int .i64 0, .int .i64 0, .int .i64 0, .int .i64 0]
  row : wr.rowIs (w.heap.size + 1 + 1 + 1) 92 4 (fun i => .int .i64 (if i < j then F i else 0))
  ask : Blk wr g 76 #[.int .i64 q0, .int .i64 q1, .int .i64 q2]
  gne : w.heap.size + 1 + 1 + 1 < g
theorem St.keep {w wr w' : World} {wh : Int} {v : Value} {g j : Nat} {q0 q1 q2 : Int} {F : Nat → Int} (h : St w wr wh v g q0 q1 q2 F j) (hb : Below wr.heap.size wr w') : St w w' wh v g q0 q1 q2 F j :=
  ⟨below_tr h.below hb, h.trio.below hb, h.res.below hb, h.row.of_block (hb.block _ h.row.lt), h.ask.below hb, h.gne⟩
theorem St.store {w wr : World} {wh : Int} {v : Value} {g j : Nat} {q0 q1 q2 : Int} {F : Nat → Int} (h : St w wr wh v g q0 q1 q2 F j) (hj : j < 4) : St w (wr.setCell ⟨w.heap.size + 1 + 1 + 1, j, none⟩ (.int .i64 (F j))) wh v g q0 q1 q2 F (j + 1) := by
  have hb : Below (w.heap.size + 1 + 1 + 1) wr (wr.setCell ⟨w.heap.size + 1 + 1 + 1, j, none⟩ (.int .i64 (F j))) := Below.setCell (Below.refl _ _) (show w.heap.size + 1 + 1 + 1 ≤ (⟨w.heap.size + 1 + 1 + 1, j, none⟩ : Addr).block from Nat.le_refl _) _
  refine ⟨h.below.trans (hb.mono (by omega)), h.trio.belowB hb (by omega), h.res.belowB hb (by omega), ?_, ?_, h.gne⟩
  · refine (h.row.set j (.int .i64 (F j))).congr (fun i _ => ?_)
    by_cases e : i = j
    · subst e; simp
    · have : (i < j) = (i < j + 1) := by apply propext; omega
      simp [e, this]
  · have := h.gne
    exact (Below.heap_setCell _ _ _ _ (by show g ≠ _; simp; omega)).trans h.ask


set_option maxHeartbeats 4000000 in
theorem row0 (wh : Int) (v : Value) (xss : List (List Int)) (c x y : Int) (q : Nat) (w : World) (h : IRows w v xss) (hok : okTrio wh xss) (hc : 0 ≤ c ∧ c ≤ 1) (hx : 0 ≤ x ∧ x ≤ 1) (hy : 0 ≤ y ∧ y ≤ 1) (hq : 4 * c + 2 * x + y = (q : Int)) :
    Calls Try.prog 96 #[.agg #[.int .i64 wh, v], .int .i64 0, .int .i64 c, .agg #[.int .i64 x, .int .i64 y]] w fun e w' => e = .returned (.agg #[.int .i64 (oth xss 0 q 0), .int .i64 (oth xss 0 q 1), .int .i64 (oth xss 0 q 2), .int .i64 (oth xss 0 q 3)]) ∧ Below w.heap.size w w' := by
  obtain ⟨va, vn, vc, rfl⟩ := h.shape
  have hs := shape_of hok
  have q8 : q < 8 := by omega
  have HW := Lib.hid (fun W => (show Calls Try.prog 104 #[.agg #[.int .i64 x, .int .i64 y], .int .i64 0, .int .i64 c] W fun e w' => e = .returned (.agg #[.int .i64 c, .int .i64 x, .int .i64 y]) ∧ Below W.heap.size W w' from with0 x y c W))
  have HW0 := Lib.hid (fun (j : Nat) (W : World) => (show Calls Try.prog 104 #[.agg #[.int .i64 ((j : Int) / 2 % 2), .int .i64 ((j : Int) % 2)], .int .i64 0, .int .i64 0] W fun e w' => e = .returned (.agg #[.int .i64 0, .int .i64 ((j : Int) / 2 % 2), .int .i64 ((j : Int) % 2)]) ∧ Below W.heap.size W w' from with0 _ _ 0 W))
  have HN0 := Lib.hid (fun (j : Nat) (hj : j < 4) (W : World) (hW : Below w.heap.size w W) => number_g wh _ xss c x y (0) (((j : Int) / 2 % 2)) (((j : Int) % 2)) q (ins 0 0 j) W (h.below hW) hs hc hx hy (by omega) (by omega) (by omega) hq (by simp [ins]; omega))
  have HW1 := Lib.hid (fun (j : Nat) (W : World) => (show Calls Try.prog 104 #[.agg #[.int .i64 ((j : Int) / 2 % 2), .int .i64 ((j : Int) % 2)], .int .i64 0, .int .i64 1] W fun e w' => e = .returned (.agg #[.int .i64 1, .int .i64 ((j : Int) / 2 % 2), .int .i64 ((j : Int) % 2)]) ∧ Below W.heap.size W w' from with0 _ _ 1 W))
  have HN1 := Lib.hid (fun (j : Nat) (hj : j < 4) (W : World) (hW : Below w.heap.size w W) => number_g wh _ xss c x y (1) (((j : Int) / 2 % 2)) (((j : Int) % 2)) q (ins 0 1 j) W (h.below hW) hs hc hx hy (by omega) (by omega) (by omega) hq (by simp [ins]; omega))
  have HR := Lib.hid (fun (j : Nat) (hj : j < 4) => (show IntKind.i64.wrap (tc xss q (ins 0 0 j) + tc xss q (ins 0 1 j)) = oth xss 0 q j from by
    obtain ⟨r1, r2⟩ := tc_in hok q8 (show ins 0 0 j < 8 by simp [ins]; omega)
    obtain ⟨r3, r4⟩ := tc_in hok q8 (show ins 0 1 j < 8 by simp [ins]; omega)
    unfold oth
    exact IntWalk.i64_in _ (by omega)))
  clear h hs hok hc hx hy hq q8
  obtain ⟨W0, hW0⟩ : ∃ W, W = (((w.alloc (.cells #[.int .i64 wh, .slice va vn vc] 27)).alloc (.cells #[.int .i64 x, .int .i64 y] 95)).alloc (.cells #[.int .i64 0, .int .i64 0, .int .i64 0, .int .i64 0] 92)).alloc (.cells #[.int .i64 0, .int .i64 0, .int .i64 0, .int .i64 0] 92) := ⟨_, rfl⟩
  have Kt : Hid (Blk W0 w.heap.size 27 #[.int .i64 wh, .slice va vn vc]) := Lib.hid (by rw [hW0]; exact (((Blk.new w _ _).alloc _).alloc _).alloc _)
  have Ko : Hid (Blk W0 (w.heap.size + 1) 95 #[.int .i64 x, .int .i64 y]) := Lib.hid (by rw [hW0]; have := ((Blk.new (w.alloc (.cells #[.int .i64 wh, .slice va vn vc] 27)) 95 #[.int .i64 x, .int .i64 y]).alloc (.cells #[.int .i64 0, .int .i64 0, .int .i64 0, .int .i64 0] 92)).alloc (.cells #[.int .i64 0, .int .i64 0, .int .i64 0, .int .i64 0] 92); simpa using this)
  have Kr : Hid (Blk W0 (w.heap.size + 1 + 1) 92 #[.int .i64 0, .int .i64 0, .int .i64 0, .int .i64 0]) := Lib.hid (by rw [hW0]; have := (Blk.new ((w.alloc (.cells #[.int .i64 wh, .slice va vn vc] 27)).alloc (.cells #[.int .i64 x, .int .i64 y] 95)) 92 #[.int .i64 0, .int .i64 0, .int .i64 0, .int .i64 0]).alloc (.cells #[.int .i64 0, .int .i64 0, .int .i64 0, .int .i64 0] 92); simpa using this)
  have Kw : Hid (Blk W0 (w.heap.size + 1 + 1 + 1) 92 #[.int .i64 0, .int .i64 0, .int .i64 0, .int .i64 0]) := Lib.hid (by rw [hW0]; have := Blk.new (((w.alloc (.cells #[.int .i64 wh, .slice va vn vc] 27)).alloc (.cells #[.int .i64 x, .int .i64 y] 95)).alloc (.cells #[.int .i64 0, .int .i64 0, .int .i64 0, .int .i64 0] 92)) 92 #[.int .i64 0, .int .i64 0, .int .i64 0, .int .i64 0]; simpa using this)
  have BW0 : Hid (Below w.heap.size w W0) := Lib.hid (by rw [hW0]; exact below_al (below_al (below_al (below_al (Below.refl _ _) _) _) _) _)
  obtain ⟨o0, o1, _⟩ := two_cells Ko.out
  go_enter Try.func96, Try.ntmps96
  rw [hW0] at o0 o1
  go_wp2_with fail
  rw [← hW0]
  clear hW0 o0 o1
  refine (HW.out _).mono ?_
  rintro e w1 ⟨rfl, hb1⟩
  go_wp2_with fail
  have H0 : Hid (St w (w1.alloc (.cells #[.int .i64 c, .int .i64 x, .int .i64 y] 76)) wh (.slice va vn vc) w1.heap.size c x y (oth xss 0 q) 0) := Lib.hid (by
    have al := below_al (Below.refl w1.heap.size w1) (.cells #[.int .i64 c, .int .i64 x, .int .i64 y] 76)
    have hb2 := below_tr hb1 al
    refine ⟨below_tr BW0.out hb2, Kt.out.below hb2, Kr.out.below hb2, ?_, Blk.new _ _ _, ?_⟩
    · refine ⟨_, Kw.out.below hb2, rfl, fun i hi => ?_⟩
      match i, hi with
      | 0, _ => rfl
      | 1, _ => rfl
      | 2, _ => rfl
      | 3, _ => rfl
    · have := (Kw.out.below hb1).lt; omega)
  generalize (w1.alloc (.cells #[.int .i64 c, .int .i64 x, .int .i64 y] 76)) = W2 at *
  generalize w1.heap.size = g at *
  clear hb1 Kt Ko Kr Kw BW0 HW
  go_loopw [11, 12, 17] (fun a b i wr => (∃ z, a = z) ∧ (∃ z, b = z) ∧ ∃ j : Nat, j ≤ 4 ∧ i = .int .i64 j ∧ Hid (St w wr wh (.slice va vn vc) g c x y (oth xss 0 q) j)) (fun _ _ i _ => 4 - (intOf i).toNat)
  case atStart => exact ⟨⟨_, rfl⟩, ⟨_, rfl⟩, 0, by omega, rfl, H0⟩
  case round =>
    obtain ⟨⟨za, rfl⟩, ⟨zb, rfl⟩, j, hj, rfl, hS⟩ := hrel
    clear H0
    obtain ⟨wo, rfl⟩ : ∃ wo : World, wo = wr := ⟨_, rfl⟩
    by_cases hlt : j < 4
    · have hkz : (j : Int) < 4 := by omega
      have HA := Lib.hid (at2 j hlt wo)
      go_wp2_with fail
      refine HA.out.mono ?_
      rintro e w2 ⟨rfl, hb⟩
      have S2 := Lib.hid (hS.out.keep hb)
      unfold tw b2
      clear hS HA hb
      go_wp2_with fail
      have S3 := Lib.hid (S2.out.keep (below_al (Below.refl _ w2) (.cells #[.int .i64 ((j : Int) / 2 % 2), .int .i64 ((j : Int) % 2)] 95)))
      have KB := Lib.hid (Blk.new w2 95 #[.int .i64 ((j : Int) / 2 % 2), .int .i64 ((j : Int) % 2)])
      generalize (w2.alloc (.cells #[.int .i64 ((j : Int) / 2 % 2), .int .i64 ((j : Int) % 2)] 95)) = w3 at *
      generalize w2.heap.size = gb at *
      have N0 := Lib.hid (fun (W : World) (hW : Below w3.heap.size w3 W) => HN0.out j hlt W (below_tr S3.out.below hW))
      have N1 := Lib.hid (fun (W : World) (hW : Below w3.heap.size w3 W) => HN1.out j hlt W (below_tr S3.out.below hW))
      have hr := HR.out j hlt
      obtain ⟨t0, t1, _⟩ := two_cells S3.out.trio
      obtain ⟨a0, a1, a2, _⟩ := three_cells S3.out.ask
      obtain ⟨b0, b1, _⟩ := two_cells KB.out
      have rj := S3.out.row.cell hlt
      have rf := S3.out.row.frozen j
      simp only [Nat.lt_irrefl, if_false] at rj
      refine last.start (S := fun w' => w'.cell? ⟨w.heap.size, 0, none⟩ = some (.int .i64 wh) ∧ w'.cell? ⟨w.heap.size, 1, none⟩ = some (.slice va vn vc) ∧ w'.cell? ⟨g, 0, none⟩ = some (.int .i64 c) ∧ w'.cell? ⟨g, 1, none⟩ = some (.int .i64 x) ∧ w'.cell? ⟨g, 2, none⟩ = some (.int .i64 y) ∧ w'.cell? ⟨gb, 0, none⟩ = some (.int .i64 ((j : Int) / 2 % 2)) ∧ w'.cell? ⟨gb, 1, none⟩ = some (.int .i64 ((j : Int) % 2)) ∧ w'.cell? ⟨w.heap.size + 1 + 1 + 1, j, none⟩ = some (.int .i64 0) ∧ w'.frozen? ⟨w.heap.size + 1 + 1 + 1, j, none⟩ = false ∧ Below w3.heap.size w3 w') (L := 15) (by kernel_rfl) ?_
      have hHeld := held8f rfl t0 t1 a0 a1 a2 b0 b1 rj rf (below_dr (Below.refl _ _))
      refine last.take (i := 0) (oi := { dst := some 22, op := Op.move (Operand.tmp 11), type := 3, pos := "l11_three.go:100", after := #[], guard := none }) (v := ?v0) rfl (by kernel_rfl) (by kernel_rfl) (by kernel_rfl) (by kernel_rfl) (by decide) (fun _ _ _ h => h) (Or.inl ⟨by rfl, ?y0⟩) hHeld ?r0
      case y0 => (intro w hSw; (try dsimp only at hSw); go_simp; try with_reducible rfl)
      try simp only [Act.put, List.setIfInBounds_toArray, List.set_cons_zero, List.set_cons_succ]
      refine last.take (i := 1) (oi := { dst := some 23, op := Op.load 27 (Operand.tmp 4), type := 27, pos := "l11_three.go:100", after := #[], guard := none }) (v := ?v1) rfl (by kernel_rfl) (by kernel_rfl) (by kernel_rfl) (by kernel_rfl) (by decide) (fun _ _ _ h => h) (Or.inl ⟨by rfl, ?y1⟩) hHeld ?r1
      case y1 => (intro w hSw; (try dsimp only at hSw); go_simp; try with_reducible rfl)
      try simp only [Act.put, List.setIfInBounds_toArray, List.set_cons_zero, List.set_cons_succ]
      refine last.take (i := 2) (oi := { dst := some 24, op := Op.load 76 (Operand.tmp 10), type := 76, pos := "l11_three.go:100", after := #[], guard := none }) (v := ?v2) rfl (by kernel_rfl) (by kernel_rfl) (by kernel_rfl) (by kernel_rfl) (by decide) (fun _ _ _ h => h) (Or.inl ⟨by rfl, ?y2⟩) hHeld ?r2
      case y2 => (intro w hSw; (try dsimp only at hSw); go_simp; try with_reducible rfl)
      try simp only [Act.put, List.setIfInBounds_toArray, List.set_cons_zero, List.set_cons_succ]
      refine last.take (i := 3) (oi := { dst := some 25, op := Op.load 95 (Operand.tmp 12), type := 95, pos := "l11_three.go:100", after := #[], guard := none }) (v := ?v3) rfl (by kernel_rfl) (by kernel_rfl) (by kernel_rfl) (by kernel_rfl) (by decide) (fun _ _ _ h => h) (Or.inl ⟨by rfl, ?y3⟩) hHeld ?r3
      case y3 => (intro w hSw; (try dsimp only at hSw); go_simp; try with_reducible rfl)
      try simp only [Act.put, List.setIfInBounds_toArray, List.set_cons_zero, List.set_cons_succ]
      refine last.take (i := 4) (oi := { dst := some 26, op := Op.move (Operand.tmp 1), type := 3, pos := "l11_three.go:100", after := #[], guard := none }) (v := ?v4) rfl (by kernel_rfl) (by kernel_rfl) (by kernel_rfl) (by kernel_rfl) (by decide) (fun _ _ _ h => h) (Or.inl ⟨by rfl, ?y4⟩) hHeld ?r4
      case y4 => (intro w hSw; (try dsimp only at hSw); go_simp; try with_reducible rfl)
      try simp only [Act.put, List.setIfInBounds_toArray, List.set_cons_zero, List.set_cons_succ]
      refine last.take (i := 7) (oi := { dst := some 29, op := Op.load 27 (Operand.tmp 4), type := 27, pos := "l11_three.go:100", after := #[], guard := none }) (v := ?v7) rfl (by kernel_rfl) (by kernel_rfl) (by kernel_rfl) (by kernel_rfl) (by decide) (fun _ _ _ h => h) (Or.inl ⟨by rfl, ?y7⟩) hHeld ?r7
      case y7 => (intro w hSw; (try dsimp only at hSw); go_simp; try with_reducible rfl)
      try simp only [Act.put, List.setIfInBounds_toArray, List.set_cons_zero, List.set_cons_succ]
      refine last.take (i := 8) (oi := { dst := some 30, op := Op.load 76 (Operand.tmp 10), type := 76, pos := "l11_three.go:100", after := #[], guard := none }) (v := ?v8) rfl (by kernel_rfl) (by kernel_rfl) (by kernel_rfl) (by kernel_rfl) (by decide) (fun _ _ _ h => h) (Or.inl ⟨by rfl, ?y8⟩) hHeld ?r8
      case y8 => (intro w hSw; (try dsimp only at hSw); go_simp; try with_reducible rfl)
      try simp only [Act.put, List.setIfInBounds_toArray, List.set_cons_zero, List.set_cons_succ]
      refine last.take (i := 9) (oi := { dst := some 31, op := Op.load 95 (Operand.tmp 12), type := 95, pos := "l11_three.go:100", after := #[], guard := none }) (v := ?v9) rfl (by kernel_rfl) (by kernel_rfl) (by kernel_rfl) (by kernel_rfl) (by decide) (fun _ _ _ h => h) (Or.inl ⟨by rfl, ?y9⟩) hHeld ?r9
      case y9 => (intro w hSw; (try dsimp only at hSw); go_simp; try with_reducible rfl)
      try simp only [Act.put, List.setIfInBounds_toArray, List.set_cons_zero, List.set_cons_succ]
      refine last.take (i := 10) (oi := { dst := some 32, op := Op.move (Operand.tmp 1), type := 3, pos := "l11_three.go:100", after := #[], guard := none }) (v := ?v10) rfl (by kernel_rfl) (by kernel_rfl) (by kernel_rfl) (by kernel_rfl) (by decide) (fun _ _ _ h => h) (Or.inl ⟨by rfl, ?y10⟩) hHeld ?r10
      case y10 => (intro w hSw; (try dsimp only at hSw); go_simp; try with_reducible rfl)
      try simp only [Act.put, List.setIfInBounds_toArray, List.set_cons_zero, List.set_cons_succ]
      refine last.one (i := 5) (o := { dst := some 27, op := Op.call { callee := Callee.value (Operand.func 104), args := #[Operand.tmp 25, Operand.tmp 26, Operand.const (Value.int IntKind.i64 0)], argTypes := #[95, 3, 3] }, type := 76, pos := "l11_three.go:100", after := #[{ on := 3, ground := Ground.data }, { on := 4, ground := Ground.data }], guard := none }) (by kernel_rfl) rfl (fun K hK => ?_)
      go_simp
      (go_at_call 104; (with_reducible refine (HW0.out j _).mono ?_); rintro e x0 ⟨rfl, hx0⟩)
      refine hK.out _ _ ?s5 (fun hHeld => ?_)
      case s5 => (try dsimp only); (refine held8f rfl t0 t1 a0 a1 a2 b0 b1 rj rf ?_; repeat (first | (with_reducible exact Below.refl _ _) | (with_reducible refine below_dr ?_) | (with_reducible refine below_tr ?_ (by assumption))))
      clear hK K
      try simp only [Act.put, List.setIfInBounds_toArray, List.set_cons_zero, List.set_cons_succ]
      refine last.one (i := 6) (o := { dst := some 28, op := Op.call { callee := Callee.value (Operand.func 78), args := #[Operand.tmp 23, Operand.tmp 24, Operand.tmp 27], argTypes := #[27, 76, 76] }, type := 3, pos := "l11_three.go:100", after := #[{ on := 1, ground := Ground.data }, { on := 2, ground := Ground.data }, { on := 5, ground := Ground.data }, { on := 5, ground := Ground.chain }], guard := none }) (by kernel_rfl) rfl (fun K hK => ?_)
      go_simp
      (go_at_call 78; (with_reducible refine (N0.out _ (by repeat (first | (with_reducible exact Below.refl _ _) | (with_reducible refine below_dr ?_) | (with_reducible refine below_tr ?_ (by assumption))))).mono ?_); rintro e y0 ⟨rfl, hy0⟩)
      refine hK.out _ _ ?s6 (fun hHeld => ?_)
      case s6 => (try dsimp only); (refine held8f rfl t0 t1 a0 a1 a2 b0 b1 rj rf ?_; repeat (first | (with_reducible exact Below.refl _ _) | (with_reducible refine below_dr ?_) | (with_reducible refine below_tr ?_ (by assumption))))
      clear hK K
      try simp only [Act.put, List.setIfInBounds_toArray, List.set_cons_zero, List.set_cons_succ]
      refine last.one (i := 11) (o := { dst := some 33, op := Op.call { callee := Callee.value (Operand.func 104), args := #[Operand.tmp 31, Operand.tmp 32, Operand.const (Value.int IntKind.i64 1)], argTypes := #[95, 3, 3] }, type := 76, pos := "l11_three.go:100", after := #[{ on := 9, ground := Ground.data }, { on := 10, ground := Ground.data }, { on := 6, ground := Ground.chain }], guard := none }) (by kernel_rfl) rfl (fun K hK => ?_)
      go_simp
      (go_at_call 104; (with_reducible refine (HW1.out j _).mono ?_); rintro e x1 ⟨rfl, hx1⟩)
      refine hK.out _ _ ?s11 (fun hHeld => ?_)
      case s11 => (try dsimp only); (refine held8f rfl t0 t1 a0 a1 a2 b0 b1 rj rf ?_; repeat (first | (with_reducible exact Below.refl _ _) | (with_reducible refine below_dr ?_) | (with_reducible refine below_tr ?_ (by assumption))))
      clear hK K
      try simp only [Act.put, List.setIfInBounds_toArray, List.set_cons_zero, List.set_cons_succ]
      refine last.one (i := 12) (o := { dst := some 34, op := Op.call { callee := Callee.value (Operand.func 78), args := #[Operand.tmp 29, Operand.tmp 30, Operand.tmp 33], argTypes := #[27, 76, 76] }, type := 3, pos := "l11_three.go:100", after := #[{ on := 7, ground := Ground.data }, { on := 8, ground := Ground.data }, { on := 11, ground := Ground.data }, { on := 11, ground := Ground.chain }], guard := none }) (by kernel_rfl) rfl (fun K hK => ?_)
      go_simp
      (go_at_call 78; (with_reducible refine (N1.out _ (by repeat (first | (with_reducible exact Below.refl _ _) | (with_reducible refine below_dr ?_) | (with_reducible refine below_tr ?_ (by assumption))))).mono ?_); rintro e y1 ⟨rfl, hy1⟩)
      refine hK.out _ _ ?s12 (fun hHeld => ?_)
      case s12 => (try dsimp only); (refine held8f rfl t0 t1 a0 a1 a2 b0 b1 rj rf ?_; repeat (first | (with_reducible exact Below.refl _ _) | (with_reducible refine below_dr ?_) | (with_reducible refine below_tr ?_ (by assumption))))
      clear hK K
      try simp only [Act.put, List.setIfInBounds_toArray, List.set_cons_zero, List.set_cons_succ]
      refine last.take (i := 13) (oi := { dst := some 35, op := Op.binOp BinOp.add 3 (Operand.tmp 28) (Operand.tmp 34) 3, type := 3, pos := "l11_three.go:100", after := #[{ on := 6, ground := Ground.data }, { on := 12, ground := Ground.data }], guard := none }) (v := ?v13) rfl (by kernel_rfl) (by kernel_rfl) (by kernel_rfl) (by kernel_rfl) (by decide) (fun _ _ _ h => h) (Or.inl ⟨by rfl, ?y13⟩) hHeld ?r13
      case y13 => (intro w hSw; (try dsimp only at hSw); go_simp; try with_reducible rfl)
      try simp only [Act.put, List.setIfInBounds_toArray, List.set_cons_zero, List.set_cons_succ]
      refine last.take (i := 14) (oi := { dst := some 36, op := Op.indexAddr 92 (Operand.tmp 9) (Operand.tmp 22), type := 0, pos := "l11_three.go:100", after := #[{ on := 0, ground := Ground.data }, { on := 0, ground := Ground.phase }, { on := 1, ground := Ground.phase }, { on := 2, ground := Ground.phase }, { on := 3, ground := Ground.phase }, { on := 4, ground := Ground.phase }, { on := 5, ground := Ground.phase }, { on := 6, ground := Ground.phase }, { on := 7, ground := Ground.phase }, { on := 8, ground := Ground.phase }, { on := 9, ground := Ground.phase }, { on := 10, ground := Ground.phase }, { on := 11, ground := Ground.phase }, { on := 12, ground := Ground.phase }, { on := 13, ground := Ground.phase }], guard := none }) (v := ?v14) rfl (by kernel_rfl) (by kernel_rfl) (by kernel_rfl) (by kernel_rfl) (by decide) (fun _ _ _ h => h) (Or.inl ⟨by rfl, ?y14⟩) hHeld ?r14
      case y14 => (intro w hSw; (try dsimp only at hSw); go_simp; try with_reducible rfl)
      try simp only [Act.put, List.setIfInBounds_toArray, List.set_cons_zero, List.set_cons_succ]
      have E9 : Below w3.heap.size w3 y1 := below_tr (below_tr (below_tr (below_tr (below_dr (Below.refl _ _)) hx0) hy0) hx1) hy1
      have S9 := Lib.hid (S3.out.keep E9)
      obtain ⟨_, _, _, _, _, _, _, q9, f9, _⟩ := hHeld
      have S10 := Lib.hid (S9.out.store hlt)
      clear t0 t1 a0 a1 a2 b0 b1 rj rf hx0 hy0 hx1 hy1 E9 S9 S3
      refine last.final (o := { dst := none, op := Op.store 3 (Operand.tmp 36) (Operand.tmp 35), type := 0, pos := "l11_three.go:100", after := #[{ on := 14, ground := Ground.data }, { on := 13, ground := Ground.data }, { on := 12, ground := Ground.chain }, { on := 0, ground := Ground.phase }, { on := 1, ground := Ground.phase }, { on := 2, ground := Ground.phase }, { on := 3, ground := Ground.phase }, { on := 4, ground := Ground.phase }, { on := 5, ground := Ground.phase }, { on := 6, ground := Ground.phase }, { on := 7, ground := Ground.phase }, { on := 8, ground := Ground.phase }, { on := 9, ground := Ground.phase }, { on := 10, ground := Ground.phase }, { on := 11, ground := Ground.phase }, { on := 12, ground := Ground.phase }, { on := 13, ground := Ground.phase }], guard := none }) (by kernel_rfl) rfl (fun K hK => ?_)
      go_simp
      refine hK.out _ _ ?_
      clear hK K
      try simp only [Act.put, List.setIfInBounds_toArray, List.set_cons_zero, List.set_cons_succ]
      refine last.done (by kernel_rfl) ?_ _
      generalize y1.setCell ⟨w.heap.size + 1 + 1 + 1, j, none⟩ (.int .i64 (oth xss 0 q j)) = w5 at *
      go_wp2_with fail
      go_roundw
      case rel => exact ⟨⟨_, rfl⟩, ⟨_, rfl⟩, j + 1, by omega, by go_num, S10⟩
      case measure => simp [intOf]; omega
    · have hkz : ¬ (j : Int) < 4 := by omega
      obtain rfl : j = 4 := by omega
      obtain ⟨r0, r1, r2, r3, rl⟩ := four_cells hS.out.res
      have rf : ∀ k, wo.frozen? ⟨w.heap.size + 1 + 1, k, none⟩ = false := fun k => Joins.unfrozen_of_block hS.out.res k
      have c0 := hS.out.row.cell (i := 0) (by omega)
      have c1 := hS.out.row.cell (i := 1) (by omega)
      have c2 := hS.out.row.cell (i := 2) (by omega)
      have c3 := hS.out.row.cell (i := 3) (by omega)
      simp only [Nat.reduceLT, if_true] at c0 c1 c2 c3
      go_wp2_with fail
      refine bodyPost_ret (v := .agg #[.int .i64 (oth xss 0 q 0), .int .i64 (oth xss 0 q 1), .int .i64 (oth xss 0 q 2), .int .i64 (oth xss 0 q 3)]) (by simp [results, Try.results96, go_sem, r0, r1, r2, r3]) rfl ⟨rfl, ?_⟩
      repeat (first | (with_reducible exact hS.out.below) | (with_reducible refine Below.setCell ?_ (by simp <;> omega) _))



set_option maxHeartbeats 4000000 in
theorem row1 (wh : Int) (v : Value) (xss : List (List Int)) (c x y : Int) (q : Nat) (w : World) (h : IRows w v xss) (hok : okTrio wh xss) (hc : 0 ≤ c ∧ c ≤ 1) (hx : 0 ≤ x ∧ x ≤ 1) (hy : 0 ≤ y ∧ y ≤ 1) (hq : 4 * x + 2 * c + y = (q : Int)) :
    Calls Try.prog 96 #[.agg #[.int .i64 wh, v], .int .i64 1, .int .i64 c, .agg #[.int .i64 x, .int .i64 y]] w fun e w' => e = .returned (.agg #[.int .i64 (oth xss 1 q 0), .int .i64 (oth xss 1 q 1), .int .i64 (oth xss 1 q 2), .int .i64 (oth xss 1 q 3)]) ∧ Below w.heap.size w w' := by
  obtain ⟨va, vn, vc, rfl⟩ := h.shape
  have hs := shape_of hok
  have q8 : q < 8 := by omega
  have HW := Lib.hid (fun W => (show Calls Try.prog 104 #[.agg #[.int .i64 x, .int .i64 y], .int .i64 1, .int .i64 c] W fun e w' => e = .returned (.agg #[.int .i64 x, .int .i64 c, .int .i64 y]) ∧ Below W.heap.size W w' from with1 x y c W))
  have HW0 := Lib.hid (fun (j : Nat) (W : World) => (show Calls Try.prog 104 #[.agg #[.int .i64 ((j : Int) / 2 % 2), .int .i64 ((j : Int) % 2)], .int .i64 1, .int .i64 0] W fun e w' => e = .returned (.agg #[.int .i64 ((j : Int) / 2 % 2), .int .i64 0, .int .i64 ((j : Int) % 2)]) ∧ Below W.heap.size W w' from with1 _ _ 0 W))
  have HN0 := Lib.hid (fun (j : Nat) (hj : j < 4) (W : World) (hW : Below w.heap.size w W) => number_g wh _ xss x c y (((j : Int) / 2 % 2)) (0) (((j : Int) % 2)) q (ins 1 0 j) W (h.below hW) hs hx hc hy (by omega) (by omega) (by omega) hq (by simp [ins]; omega))
  have HW1 := Lib.hid (fun (j : Nat) (W : World) => (show Calls Try.prog 104 #[.agg #[.int .i64 ((j : Int) / 2 % 2), .int .i64 ((j : Int) % 2)], .int .i64 1, .int .i64 1] W fun e w' => e = .returned (.agg #[.int .i64 ((j : Int) / 2 % 2), .int .i64 1, .int .i64 ((j : Int) % 2)]) ∧ Below W.heap.size W w' from with1 _ _ 1 W))
  have HN1 := Lib.hid (fun (j : Nat) (hj : j < 4) (W : World) (hW : Below w.heap.size w W) => number_g wh _ xss x c y (((j : Int) / 2 % 2)) (1) (((j : Int) % 2)) q (ins 1 1 j) W (h.below hW) hs hx hc hy (by omega) (by omega) (by omega) hq (by simp [ins]; omega))
  have HR := Lib.hid (fun (j : Nat) (hj : j < 4) => (show IntKind.i64.wrap (tc xss q (ins 1 0 j) + tc xss q (ins 1 1 j)) = oth xss 1 q j from by
    obtain ⟨r1, r2⟩ := tc_in hok q8 (show ins 1 0 j < 8 by simp [ins]; omega)
    obtain ⟨r3, r4⟩ := tc_in hok q8 (show ins 1 1 j < 8 by simp [ins]; omega)
    unfold oth
    exact IntWalk.i64_in _ (by omega)))
  clear h hs hok hc hx hy hq q8
  obtain ⟨W0, hW0⟩ : ∃ W, W = (((w.alloc (.cells #[.int .i64 wh, .slice va vn vc] 27)).alloc (.cells #[.int .i64 x, .int .i64 y] 95)).alloc (.cells #[.int .i64 0, .int .i64 0, .int .i64 0, .int .i64 0] 92)).alloc (.cells #[.int .i64 0, .int .i64 0, .int .i64 0, .int .i64 0] 92) := ⟨_, rfl⟩
  have Kt : Hid (Blk W0 w.heap.size 27 #[.int .i64 wh, .slice va vn vc]) := Lib.hid (by rw [hW0]; exact (((Blk.new w _ _).alloc _).alloc _).alloc _)
  have Ko : Hid (Blk W0 (w.heap.size + 1) 95 #[.int .i64 x, .int .i64 y]) := Lib.hid (by rw [hW0]; have := ((Blk.new (w.alloc (.cells #[.int .i64 wh, .slice va vn vc] 27)) 95 #[.int .i64 x, .int .i64 y]).alloc (.cells #[.int .i64 0, .int .i64 0, .int .i64 0, .int .i64 0] 92)).alloc (.cells #[.int .i64 0, .int .i64 0, .int .i64 0, .int .i64 0] 92); simpa using this)
  have Kr : Hid (Blk W0 (w.heap.size + 1 + 1) 92 #[.int .i64 0, .int .i64 0, .int .i64 0, .int .i64 0]) := Lib.hid (by rw [hW0]; have := (Blk.new ((w.alloc (.cells #[.int .i64 wh, .slice va vn vc] 27)).alloc (.cells #[.int .i64 x, .int .i64 y] 95)) 92 #[.int .i64 0, .int .i64 0, .int .i64 0, .int .i64 0]).alloc (.cells #[.int .i64 0, .int .i64 0, .int .i64 0, .int .i64 0] 92); simpa using this)
  have Kw : Hid (Blk W0 (w.heap.size + 1 + 1 + 1) 92 #[.int .i64 0, .int .i64 0, .int .i64 0, .int .i64 0]) := Lib.hid (by rw [hW0]; have := Blk.new (((w.alloc (.cells #[.int .i64 wh, .slice va vn vc] 27)).alloc (.cells #[.int .i64 x, .int .i64 y] 95)).alloc (.cells #[.int .i64 0, .int .i64 0, .int .i64 0, .int .i64 0] 92)) 92 #[.int .i64 0, .int .i64 0, .int .i64 0, .int .i64 0]; simpa using this)
  have BW0 : Hid (Below w.heap.size w W0) := Lib.hid (by rw [hW0]; exact below_al (below_al (below_al (below_al (Below.refl _ _) _) _) _) _)
  obtain ⟨o0, o1, _⟩ := two_cells Ko.out
  go_enter Try.func96, Try.ntmps96
  rw [hW0] at o0 o1
  go_wp2_with fail
  rw [← hW0]
  clear hW0 o0 o1
  refine (HW.out _).mono ?_
  rintro e w1 ⟨rfl, hb1⟩
  go_wp2_with fail
  have H0 : Hid (St w (w1.alloc (.cells #[.int .i64 x, .int .i64 c, .int .i64 y] 76)) wh (.slice va vn vc) w1.heap.size x c y (oth xss 1 q) 0) := Lib.hid (by
    have al := below_al (Below.refl w1.heap.size w1) (.cells #[.int .i64 x, .int .i64 c, .int .i64 y] 76)
    have hb2 := below_tr hb1 al
    refine ⟨below_tr BW0.out hb2, Kt.out.below hb2, Kr.out.below hb2, ?_, Blk.new _ _ _, ?_⟩
    · refine ⟨_, Kw.out.below hb2, rfl, fun i hi => ?_⟩
      match i, hi with
      | 0, _ => rfl
      | 1, _ => rfl
      | 2, _ => rfl
      | 3, _ => rfl
    · have := (Kw.out.below hb1).lt; omega)
  generalize (w1.alloc (.cells #[.int .i64 x, .int .i64 c, .int .i64 y] 76)) = W2 at *
  generalize w1.heap.size = g at *
  clear hb1 Kt Ko Kr Kw BW0 HW
  go_loopw [11, 12, 17] (fun a b i wr => (∃ z, a = z) ∧ (∃ z, b = z) ∧ ∃ j : Nat, j ≤ 4 ∧ i = .int .i64 j ∧ Hid (St w wr wh (.slice va vn vc) g x c y (oth xss 1 q) j)) (fun _ _ i _ => 4 - (intOf i).toNat)
  case atStart => exact ⟨⟨_, rfl⟩, ⟨_, rfl⟩, 0, by omega, rfl, H0⟩
  case round =>
    obtain ⟨⟨za, rfl⟩, ⟨zb, rfl⟩, j, hj, rfl, hS⟩ := hrel
    clear H0
    obtain ⟨wo, rfl⟩ : ∃ wo : World, wo = wr := ⟨_, rfl⟩
    by_cases hlt : j < 4
    · have hkz : (j : Int) < 4 := by omega
      have HA := Lib.hid (at2 j hlt wo)
      go_wp2_with fail
      refine HA.out.mono ?_
      rintro e w2 ⟨rfl, hb⟩
      have S2 := Lib.hid (hS.out.keep hb)
      unfold tw b2
      clear hS HA hb
      go_wp2_with fail
      have S3 := Lib.hid (S2.out.keep (below_al (Below.refl _ w2) (.cells #[.int .i64 ((j : Int) / 2 % 2), .int .i64 ((j : Int) % 2)] 95)))
      have KB := Lib.hid (Blk.new w2 95 #[.int .i64 ((j : Int) / 2 % 2), .int .i64 ((j : Int) % 2)])
      generalize (w2.alloc (.cells #[.int .i64 ((j : Int) / 2 % 2), .int .i64 ((j : Int) % 2)] 95)) = w3 at *
      generalize w2.heap.size = gb at *
      have N0 := Lib.hid (fun (W : World) (hW : Below w3.heap.size w3 W) => HN0.out j hlt W (below_tr S3.out.below hW))
      have N1 := Lib.hid (fun (W : World) (hW : Below w3.heap.size w3 W) => HN1.out j hlt W (below_tr S3.out.below hW))
      have hr := HR.out j hlt
      obtain ⟨t0, t1, _⟩ := two_cells S3.out.trio
      obtain ⟨a0, a1, a2, _⟩ := three_cells S3.out.ask
      obtain ⟨b0, b1, _⟩ := two_cells KB.out
      have rj := S3.out.row.cell hlt
      have rf := S3.out.row.frozen j
      simp only [Nat.lt_irrefl, if_false] at rj
      refine last.start (S := fun w' => w'.cell? ⟨w.heap.size, 0, none⟩ = some (.int .i64 wh) ∧ w'.cell? ⟨w.heap.size, 1, none⟩ = some (.slice va vn vc) ∧ w'.cell? ⟨g, 0, none⟩ = some (.int .i64 x) ∧ w'.cell? ⟨g, 1, none⟩ = some (.int .i64 c) ∧ w'.cell? ⟨g, 2, none⟩ = some (.int .i64 y) ∧ w'.cell? ⟨gb, 0, none⟩ = some (.int .i64 ((j : Int) / 2 % 2)) ∧ w'.cell? ⟨gb, 1, none⟩ = some (.int .i64 ((j : Int) % 2)) ∧ w'.cell? ⟨w.heap.size + 1 + 1 + 1, j, none⟩ = some (.int .i64 0) ∧ w'.frozen? ⟨w.heap.size + 1 + 1 + 1, j, none⟩ = false ∧ Below w3.heap.size w3 w') (L := 15) (by kernel_rfl) ?_
      have hHeld := held8f rfl t0 t1 a0 a1 a2 b0 b1 rj rf (below_dr (Below.refl _ _))
      refine last.take (i := 0) (oi := { dst := some 22, op := Op.move (Operand.tmp 11), type := 3, pos := "l11_three.go:100", after := #[], guard := none }) (v := ?v0) rfl (by kernel_rfl) (by kernel_rfl) (by kernel_rfl) (by kernel_rfl) (by decide) (fun _ _ _ h => h) (Or.inl ⟨by rfl, ?y0⟩) hHeld ?r0
      case y0 => (intro w hSw; (try dsimp only at hSw); go_simp; try with_reducible rfl)
      try simp only [Act.put, List.setIfInBounds_toArray, List.set_cons_zero, List.set_cons_succ]
      refine last.take (i := 1) (oi := { dst := some 23, op := Op.load 27 (Operand.tmp 4), type := 27, pos := "l11_three.go:100", after := #[], guard := none }) (v := ?v1) rfl (by kernel_rfl) (by kernel_rfl) (by kernel_rfl) (by kernel_rfl) (by decide) (fun _ _ _ h => h) (Or.inl ⟨by rfl, ?y1⟩) hHeld ?r1
      case y1 => (intro w hSw; (try dsimp only at hSw); go_simp; try with_reducible rfl)
      try simp only [Act.put, List.setIfInBounds_toArray, List.set_cons_zero, List.set_cons_succ]
      refine last.take (i := 2) (oi := { dst := some 24, op := Op.load 76 (Operand.tmp 10), type := 76, pos := "l11_three.go:100", after := #[], guard := none }) (v := ?v2) rfl (by kernel_rfl) (by kernel_rfl) (by kernel_rfl) (by kernel_rfl) (by decide) (fun _ _ _ h => h) (Or.inl ⟨by rfl, ?y2⟩) hHeld ?r2
      case y2 => (intro w hSw; (try dsimp only at hSw); go_simp; try with_reducible rfl)
      try simp only [Act.put, List.setIfInBounds_toArray, List.set_cons_zero, List.set_cons_succ]
      refine last.take (i := 3) (oi := { dst := some 25, op := Op.load 95 (Operand.tmp 12), type := 95, pos := "l11_three.go:100", after := #[], guard := none }) (v := ?v3) rfl (by kernel_rfl) (by kernel_rfl) (by kernel_rfl) (by kernel_rfl) (by decide) (fun _ _ _ h => h) (Or.inl ⟨by rfl, ?y3⟩) hHeld ?r3
      case y3 => (intro w hSw; (try dsimp only at hSw); go_simp; try with_reducible rfl)
      try simp only [Act.put, List.setIfInBounds_toArray, List.set_cons_zero, List.set_cons_succ]
      refine last.take (i := 4) (oi := { dst := some 26, op := Op.move (Operand.tmp 1), type := 3, pos := "l11_three.go:100", after := #[], guard := none }) (v := ?v4) rfl (by kernel_rfl) (by kernel_rfl) (by kernel_rfl) (by kernel_rfl) (by decide) (fun _ _ _ h => h) (Or.inl ⟨by rfl, ?y4⟩) hHeld ?r4
      case y4 => (intro w hSw; (try dsimp only at hSw); go_simp; try with_reducible rfl)
      try simp only [Act.put, List.setIfInBounds_toArray, List.set_cons_zero, List.set_cons_succ]
      refine last.take (i := 7) (oi := { dst := some 29, op := Op.load 27 (Operand.tmp 4), type := 27, pos := "l11_three.go:100", after := #[], guard := none }) (v := ?v7) rfl (by kernel_rfl) (by kernel_rfl) (by kernel_rfl) (by kernel_rfl) (by decide) (fun _ _ _ h => h) (Or.inl ⟨by rfl, ?y7⟩) hHeld ?r7
      case y7 => (intro w hSw; (try dsimp only at hSw); go_simp; try with_reducible rfl)
      try simp only [Act.put, List.setIfInBounds_toArray, List.set_cons_zero, List.set_cons_succ]
      refine last.take (i := 8) (oi := { dst := some 30, op := Op.load 76 (Operand.tmp 10), type := 76, pos := "l11_three.go:100", after := #[], guard := none }) (v := ?v8) rfl (by kernel_rfl) (by kernel_rfl) (by kernel_rfl) (by kernel_rfl) (by decide) (fun _ _ _ h => h) (Or.inl ⟨by rfl, ?y8⟩) hHeld ?r8
      case y8 => (intro w hSw; (try dsimp only at hSw); go_simp; try with_reducible rfl)
      try simp only [Act.put, List.setIfInBounds_toArray, List.set_cons_zero, List.set_cons_succ]
      refine last.take (i := 9) (oi := { dst := some 31, op := Op.load 95 (Operand.tmp 12), type := 95, pos := "l11_three.go:100", after := #[], guard := none }) (v := ?v9) rfl (by kernel_rfl) (by kernel_rfl) (by kernel_rfl) (by kernel_rfl) (by decide) (fun _ _ _ h => h) (Or.inl ⟨by rfl, ?y9⟩) hHeld ?r9
      case y9 => (intro w hSw; (try dsimp only at hSw); go_simp; try with_reducible rfl)
      try simp only [Act.put, List.setIfInBounds_toArray, List.set_cons_zero, List.set_cons_succ]
      refine last.take (i := 10) (oi := { dst := some 32, op := Op.move (Operand.tmp 1), type := 3, pos := "l11_three.go:100", after := #[], guard := none }) (v := ?v10) rfl (by kernel_rfl) (by kernel_rfl) (by kernel_rfl) (by kernel_rfl) (by decide) (fun _ _ _ h => h) (Or.inl ⟨by rfl, ?y10⟩) hHeld ?r10
      case y10 => (intro w hSw; (try dsimp only at hSw); go_simp; try with_reducible rfl)
      try simp only [Act.put, List.setIfInBounds_toArray, List.set_cons_zero, List.set_cons_succ]
      refine last.one (i := 5) (o := { dst := some 27, op := Op.call { callee := Callee.value (Operand.func 104), args := #[Operand.tmp 25, Operand.tmp 26, Operand.const (Value.int IntKind.i64 0)], argTypes := #[95, 3, 3] }, type := 76, pos := "l11_three.go:100", after := #[{ on := 3, ground := Ground.data }, { on := 4, ground := Ground.data }], guard := none }) (by kernel_rfl) rfl (fun K hK => ?_)
      go_simp
      (go_at_call 104; (with_reducible refine (HW0.out j _).mono ?_); rintro e x0 ⟨rfl, hx0⟩)
      refine hK.out _ _ ?s5 (fun hHeld => ?_)
      case s5 => (try dsimp only); (refine held8f rfl t0 t1 a0 a1 a2 b0 b1 rj rf ?_; repeat (first | (with_reducible exact Below.refl _ _) | (with_reducible refine below_dr ?_) | (with_reducible refine below_tr ?_ (by assumption))))
      clear hK K
      try simp only [Act.put, List.setIfInBounds_toArray, List.set_cons_zero, List.set_cons_succ]
      refine last.one (i := 6) (o := { dst := some 28, op := Op.call { callee := Callee.value (Operand.func 78), args := #[Operand.tmp 23, Operand.tmp 24, Operand.tmp 27], argTypes := #[27, 76, 76] }, type := 3, pos := "l11_three.go:100", after := #[{ on := 1, ground := Ground.data }, { on := 2, ground := Ground.data }, { on := 5, ground := Ground.data }, { on := 5, ground := Ground.chain }], guard := none }) (by kernel_rfl) rfl (fun K hK => ?_)
      go_simp
      (go_at_call 78; (with_reducible refine (N0.out _ (by repeat (first | (with_reducible exact Below.refl _ _) | (with_reducible refine below_dr ?_) | (with_reducible refine below_tr ?_ (by assumption))))).mono ?_); rintro e y0 ⟨rfl, hy0⟩)
      refine hK.out _ _ ?s6 (fun hHeld => ?_)
      case s6 => (try dsimp only); (refine held8f rfl t0 t1 a0 a1 a2 b0 b1 rj rf ?_; repeat (first | (with_reducible exact Below.refl _ _) | (with_reducible refine below_dr ?_) | (with_reducible refine below_tr ?_ (by assumption))))
      clear hK K
      try simp only [Act.put, List.setIfInBounds_toArray, List.set_cons_zero, List.set_cons_succ]
      refine last.one (i := 11) (o := { dst := some 33, op := Op.call { callee := Callee.value (Operand.func 104), args := #[Operand.tmp 31, Operand.tmp 32, Operand.const (Value.int IntKind.i64 1)], argTypes := #[95, 3, 3] }, type := 76, pos := "l11_three.go:100", after := #[{ on := 9, ground := Ground.data }, { on := 10, ground := Ground.data }, { on := 6, ground := Ground.chain }], guard := none }) (by kernel_rfl) rfl (fun K hK => ?_)
      go_simp
      (go_at_call 104; (with_reducible refine (HW1.out j _).mono ?_); rintro e x1 ⟨rfl, hx1⟩)
      refine hK.out _ _ ?s11 (fun hHeld => ?_)
      case s11 => (try dsimp only); (refine held8f rfl t0 t1 a0 a1 a2 b0 b1 rj rf ?_; repeat (first | (with_reducible exact Below.refl _ _) | (with_reducible refine below_dr ?_) | (with_reducible refine below_tr ?_ (by assumption))))
      clear hK K
      try simp only [Act.put, List.setIfInBounds_toArray, List.set_cons_zero, List.set_cons_succ]
      refine last.one (i := 12) (o := { dst := some 34, op := Op.call { callee := Callee.value (Operand.func 78), args := #[Operand.tmp 29, Operand.tmp 30, Operand.tmp 33], argTypes := #[27, 76, 76] }, type := 3, pos := "l11_three.go:100", after := #[{ on := 7, ground := Ground.data }, { on := 8, ground := Ground.data }, { on := 11, ground := Ground.data }, { on := 11, ground := Ground.chain }], guard := none }) (by kernel_rfl) rfl (fun K hK => ?_)
      go_simp
      (go_at_call 78; (with_reducible refine (N1.out _ (by repeat (first | (with_reducible exact Below.refl _ _) | (with_reducible refine below_dr ?_) | (with_reducible refine below_tr ?_ (by assumption))))).mono ?_); rintro e y1 ⟨rfl, hy1⟩)
      refine hK.out _ _ ?s12 (fun hHeld => ?_)
      case s12 => (try dsimp only); (refine held8f rfl t0 t1 a0 a1 a2 b0 b1 rj rf ?_; repeat (first | (with_reducible exact Below.refl _ _) | (with_reducible refine below_dr ?_) | (with_reducible refine below_tr ?_ (by assumption))))
      clear hK K
      try simp only [Act.put, List.setIfInBounds_toArray, List.set_cons_zero, List.set_cons_succ]
      refine last.take (i := 13) (oi := { dst := some 35, op := Op.binOp BinOp.add 3 (Operand.tmp 28) (Operand.tmp 34) 3, type := 3, pos := "l11_three.go:100", after := #[{ on := 6, ground := Ground.data }, { on := 12, ground := Ground.data }], guard := none }) (v := ?v13) rfl (by kernel_rfl) (by kernel_rfl) (by kernel_rfl) (by kernel_rfl) (by decide) (fun _ _ _ h => h) (Or.inl ⟨by rfl, ?y13⟩) hHeld ?r13
      case y13 => (intro w hSw; (try dsimp only at hSw); go_simp; try with_reducible rfl)
      try simp only [Act.put, List.setIfInBounds_toArray, List.set_cons_zero, List.set_cons_succ]
      refine last.take (i := 14) (oi := { dst := some 36, op := Op.indexAddr 92 (Operand.tmp 9) (Operand.tmp 22), type := 0, pos := "l11_three.go:100", after := #[{ on := 0, ground := Ground.data }, { on := 0, ground := Ground.phase }, { on := 1, ground := Ground.phase }, { on := 2, ground := Ground.phase }, { on := 3, ground := Ground.phase }, { on := 4, ground := Ground.phase }, { on := 5, ground := Ground.phase }, { on := 6, ground := Ground.phase }, { on := 7, ground := Ground.phase }, { on := 8, ground := Ground.phase }, { on := 9, ground := Ground.phase }, { on := 10, ground := Ground.phase }, { on := 11, ground := Ground.phase }, { on := 12, ground := Ground.phase }, { on := 13, ground := Ground.phase }], guard := none }) (v := ?v14) rfl (by kernel_rfl) (by kernel_rfl) (by kernel_rfl) (by kernel_rfl) (by decide) (fun _ _ _ h => h) (Or.inl ⟨by rfl, ?y14⟩) hHeld ?r14
      case y14 => (intro w hSw; (try dsimp only at hSw); go_simp; try with_reducible rfl)
      try simp only [Act.put, List.setIfInBounds_toArray, List.set_cons_zero, List.set_cons_succ]
      have E9 : Below w3.heap.size w3 y1 := below_tr (below_tr (below_tr (below_tr (below_dr (Below.refl _ _)) hx0) hy0) hx1) hy1
      have S9 := Lib.hid (S3.out.keep E9)
      obtain ⟨_, _, _, _, _, _, _, q9, f9, _⟩ := hHeld
      have S10 := Lib.hid (S9.out.store hlt)
      clear t0 t1 a0 a1 a2 b0 b1 rj rf hx0 hy0 hx1 hy1 E9 S9 S3
      refine last.final (o := { dst := none, op := Op.store 3 (Operand.tmp 36) (Operand.tmp 35), type := 0, pos := "l11_three.go:100", after := #[{ on := 14, ground := Ground.data }, { on := 13, ground := Ground.data }, { on := 12, ground := Ground.chain }, { on := 0, ground := Ground.phase }, { on := 1, ground := Ground.phase }, { on := 2, ground := Ground.phase }, { on := 3, ground := Ground.phase }, { on := 4, ground := Ground.phase }, { on := 5, ground := Ground.phase }, { on := 6, ground := Ground.phase }, { on := 7, ground := Ground.phase }, { on := 8, ground := Ground.phase }, { on := 9, ground := Ground.phase }, { on := 10, ground := Ground.phase }, { on := 11, ground := Ground.phase }, { on := 12, ground := Ground.phase }, { on := 13, ground := Ground.phase }], guard := none }) (by kernel_rfl) rfl (fun K hK => ?_)
      go_simp
      refine hK.out _ _ ?_
      clear hK K
      try simp only [Act.put, List.setIfInBounds_toArray, List.set_cons_zero, List.set_cons_succ]
      refine last.done (by kernel_rfl) ?_ _
      generalize y1.setCell ⟨w.heap.size + 1 + 1 + 1, j, none⟩ (.int .i64 (oth xss 1 q j)) = w5 at *
      go_wp2_with fail
      go_roundw
      case rel => exact ⟨⟨_, rfl⟩, ⟨_, rfl⟩, j + 1, by omega, by go_num, S10⟩
      case measure => simp [intOf]; omega
    · have hkz : ¬ (j : Int) < 4 := by omega
      obtain rfl : j = 4 := by omega
      obtain ⟨r0, r1, r2, r3, rl⟩ := four_cells hS.out.res
      have rf : ∀ k, wo.frozen? ⟨w.heap.size + 1 + 1, k, none⟩ = false := fun k => Joins.unfrozen_of_block hS.out.res k
      have c0 := hS.out.row.cell (i := 0) (by omega)
      have c1 := hS.out.row.cell (i := 1) (by omega)
      have c2 := hS.out.row.cell (i := 2) (by omega)
      have c3 := hS.out.row.cell (i := 3) (by omega)
      simp only [Nat.reduceLT, if_true] at c0 c1 c2 c3
      go_wp2_with fail
      refine bodyPost_ret (v := .agg #[.int .i64 (oth xss 1 q 0), .int .i64 (oth xss 1 q 1), .int .i64 (oth xss 1 q 2), .int .i64 (oth xss 1 q 3)]) (by simp [results, Try.results96, go_sem, r0, r1, r2, r3]) rfl ⟨rfl, ?_⟩
      repeat (first | (with_reducible exact hS.out.below) | (with_reducible refine Below.setCell ?_ (by simp <;> omega) _))



set_option maxHeartbeats 4000000 in
theorem row2 (wh : Int) (v : Value) (xss : List (List Int)) (c x y : Int) (q : Nat) (w : World) (h : IRows w v xss) (hok : okTrio wh xss) (hc : 0 ≤ c ∧ c ≤ 1) (hx : 0 ≤ x ∧ x ≤ 1) (hy : 0 ≤ y ∧ y ≤ 1) (hq : 4 * x + 2 * y + c = (q : Int)) :
    Calls Try.prog 96 #[.agg #[.int .i64 wh, v], .int .i64 2, .int .i64 c, .agg #[.int .i64 x, .int .i64 y]] w fun e w' => e = .returned (.agg #[.int .i64 (oth xss 2 q 0), .int .i64 (oth xss 2 q 1), .int .i64 (oth xss 2 q 2), .int .i64 (oth xss 2 q 3)]) ∧ Below w.heap.size w w' := by
  obtain ⟨va, vn, vc, rfl⟩ := h.shape
  have hs := shape_of hok
  have q8 : q < 8 := by omega
  have HW := Lib.hid (fun W => (show Calls Try.prog 104 #[.agg #[.int .i64 x, .int .i64 y], .int .i64 2, .int .i64 c] W fun e w' => e = .returned (.agg #[.int .i64 x, .int .i64 y, .int .i64 c]) ∧ Below W.heap.size W w' from with2 x y c W))
  have HW0 := Lib.hid (fun (j : Nat) (W : World) => (show Calls Try.prog 104 #[.agg #[.int .i64 ((j : Int) / 2 % 2), .int .i64 ((j : Int) % 2)], .int .i64 2, .int .i64 0] W fun e w' => e = .returned (.agg #[.int .i64 ((j : Int) / 2 % 2), .int .i64 ((j : Int) % 2), .int .i64 0]) ∧ Below W.heap.size W w' from with2 _ _ 0 W))
  have HN0 := Lib.hid (fun (j : Nat) (hj : j < 4) (W : World) (hW : Below w.heap.size w W) => number_g wh _ xss x y c (((j : Int) / 2 % 2)) (((j : Int) % 2)) (0) q (ins 2 0 j) W (h.below hW) hs hx hy hc (by omega) (by omega) (by omega) hq (by simp [ins]; omega))
  have HW1 := Lib.hid (fun (j : Nat) (W : World) => (show Calls Try.prog 104 #[.agg #[.int .i64 ((j : Int) / 2 % 2), .int .i64 ((j : Int) % 2)], .int .i64 2, .int .i64 1] W fun e w' => e = .returned (.agg #[.int .i64 ((j : Int) / 2 % 2), .int .i64 ((j : Int) % 2), .int .i64 1]) ∧ Below W.heap.size W w' from with2 _ _ 1 W))
  have HN1 := Lib.hid (fun (j : Nat) (hj : j < 4) (W : World) (hW : Below w.heap.size w W) => number_g wh _ xss x y c (((j : Int) / 2 % 2)) (((j : Int) % 2)) (1) q (ins 2 1 j) W (h.below hW) hs hx hy hc (by omega) (by omega) (by omega) hq (by simp [ins]; omega))
  have HR := Lib.hid (fun (j : Nat) (hj : j < 4) => (show IntKind.i64.wrap (tc xss q (ins 2 0 j) + tc xss q (ins 2 1 j)) = oth xss 2 q j from by
    obtain ⟨r1, r2⟩ := tc_in hok q8 (show ins 2 0 j < 8 by simp [ins]; omega)
    obtain ⟨r3, r4⟩ := tc_in hok q8 (show ins 2 1 j < 8 by simp [ins]; omega)
    unfold oth
    exact IntWalk.i64_in _ (by omega)))
  clear h hs hok hc hx hy hq q8
  obtain ⟨W0, hW0⟩ : ∃ W, W = (((w.alloc (.cells #[.int .i64 wh, .slice va vn vc] 27)).alloc (.cells #[.int .i64 x, .int .i64 y] 95)).alloc (.cells #[.int .i64 0, .int .i64 0, .int .i64 0, .int .i64 0] 92)).alloc (.cells #[.int .i64 0, .int .i64 0, .int .i64 0, .int .i64 0] 92) := ⟨_, rfl⟩
  have Kt : Hid (Blk W0 w.heap.size 27 #[.int .i64 wh, .slice va vn vc]) := Lib.hid (by rw [hW0]; exact (((Blk.new w _ _).alloc _).alloc _).alloc _)
  have Ko : Hid (Blk W0 (w.heap.size + 1) 95 #[.int .i64 x, .int .i64 y]) := Lib.hid (by rw [hW0]; have := ((Blk.new (w.alloc (.cells #[.int .i64 wh, .slice va vn vc] 27)) 95 #[.int .i64 x, .int .i64 y]).alloc (.cells #[.int .i64 0, .int .i64 0, .int .i64 0, .int .i64 0] 92)).alloc (.cells #[.int .i64 0, .int .i64 0, .int .i64 0, .int .i64 0] 92); simpa using this)
  have Kr : Hid (Blk W0 (w.heap.size + 1 + 1) 92 #[.int .i64 0, .int .i64 0, .int .i64 0, .int .i64 0]) := Lib.hid (by rw [hW0]; have := (Blk.new ((w.alloc (.cells #[.int .i64 wh, .slice va vn vc] 27)).alloc (.cells #[.int .i64 x, .int .i64 y] 95)) 92 #[.int .i64 0, .int .i64 0, .int .i64 0, .int .i64 0]).alloc (.cells #[.int .i64 0, .int .i64 0, .int .i64 0, .int .i64 0] 92); simpa using this)
  have Kw : Hid (Blk W0 (w.heap.size + 1 + 1 + 1) 92 #[.int .i64 0, .int .i64 0, .int .i64 0, .int .i64 0]) := Lib.hid (by rw [hW0]; have := Blk.new (((w.alloc (.cells #[.int .i64 wh, .slice va vn vc] 27)).alloc (.cells #[.int .i64 x, .int .i64 y] 95)).alloc (.cells #[.int .i64 0, .int .i64 0, .int .i64 0, .int .i64 0] 92)) 92 #[.int .i64 0, .int .i64 0, .int .i64 0, .int .i64 0]; simpa using this)
  have BW0 : Hid (Below w.heap.size w W0) := Lib.hid (by rw [hW0]; exact below_al (below_al (below_al (below_al (Below.refl _ _) _) _) _) _)
  obtain ⟨o0, o1, _⟩ := two_cells Ko.out
  go_enter Try.func96, Try.ntmps96
  rw [hW0] at o0 o1
  go_wp2_with fail
  rw [← hW0]
  clear hW0 o0 o1
  refine (HW.out _).mono ?_
  rintro e w1 ⟨rfl, hb1⟩
  go_wp2_with fail
  have H0 : Hid (St w (w1.alloc (.cells #[.int .i64 x, .int .i64 y, .int .i64 c] 76)) wh (.slice va vn vc) w1.heap.size x y c (oth xss 2 q) 0) := Lib.hid (by
    have al := below_al (Below.refl w1.heap.size w1) (.cells #[.int .i64 x, .int .i64 y, .int .i64 c] 76)
    have hb2 := below_tr hb1 al
    refine ⟨below_tr BW0.out hb2, Kt.out.below hb2, Kr.out.below hb2, ?_, Blk.new _ _ _, ?_⟩
    · refine ⟨_, Kw.out.below hb2, rfl, fun i hi => ?_⟩
      match i, hi with
      | 0, _ => rfl
      | 1, _ => rfl
      | 2, _ => rfl
      | 3, _ => rfl
    · have := (Kw.out.below hb1).lt; omega)
  generalize (w1.alloc (.cells #[.int .i64 x, .int .i64 y, .int .i64 c] 76)) = W2 at *
  generalize w1.heap.size = g at *
  clear hb1 Kt Ko Kr Kw BW0 HW
  go_loopw [11, 12, 17] (fun a b i wr => (∃ z, a = z) ∧ (∃ z, b = z) ∧ ∃ j : Nat, j ≤ 4 ∧ i = .int .i64 j ∧ Hid (St w wr wh (.slice va vn vc) g x y c (oth xss 2 q) j)) (fun _ _ i _ => 4 - (intOf i).toNat)
  case atStart => exact ⟨⟨_, rfl⟩, ⟨_, rfl⟩, 0, by omega, rfl, H0⟩
  case round =>
    obtain ⟨⟨za, rfl⟩, ⟨zb, rfl⟩, j, hj, rfl, hS⟩ := hrel
    clear H0
    obtain ⟨wo, rfl⟩ : ∃ wo : World, wo = wr := ⟨_, rfl⟩
    by_cases hlt : j < 4
    · have hkz : (j : Int) < 4 := by omega
      have HA := Lib.hid (at2 j hlt wo)
      go_wp2_with fail
      refine HA.out.mono ?_
      rintro e w2 ⟨rfl, hb⟩
      have S2 := Lib.hid (hS.out.keep hb)
      unfold tw b2
      clear hS HA hb
      go_wp2_with fail
      have S3 := Lib.hid (S2.out.keep (below_al (Below.refl _ w2) (.cells #[.int .i64 ((j : Int) / 2 % 2), .int .i64 ((j : Int) % 2)] 95)))
      have KB := Lib.hid (Blk.new w2 95 #[.int .i64 ((j : Int) / 2 % 2), .int .i64 ((j : Int) % 2)])
      generalize (w2.alloc (.cells #[.int .i64 ((j : Int) / 2 % 2), .int .i64 ((j : Int) % 2)] 95)) = w3 at *
      generalize w2.heap.size = gb at *
      have N0 := Lib.hid (fun (W : World) (hW : Below w3.heap.size w3 W) => HN0.out j hlt W (below_tr S3.out.below hW))
      have N1 := Lib.hid (fun (W : World) (hW : Below w3.heap.size w3 W) => HN1.out j hlt W (below_tr S3.out.below hW))
      have hr := HR.out j hlt
      obtain ⟨t0, t1, _⟩ := two_cells S3.out.trio
      obtain ⟨a0, a1, a2, _⟩ := three_cells S3.out.ask
      obtain ⟨b0, b1, _⟩ := two_cells KB.out
      have rj := S3.out.row.cell hlt
      have rf := S3.out.row.frozen j
      simp only [Nat.lt_irrefl, if_false] at rj
      refine last.start (S := fun w' => w'.cell? ⟨w.heap.size, 0, none⟩ = some (.int .i64 wh) ∧ w'.cell? ⟨w.heap.size, 1, none⟩ = some (.slice va vn vc) ∧ w'.cell? ⟨g, 0, none⟩ = some (.int .i64 x) ∧ w'.cell? ⟨g, 1, none⟩ = some (.int .i64 y) ∧ w'.cell? ⟨g, 2, none⟩ = some (.int .i64 c) ∧ w'.cell? ⟨gb, 0, none⟩ = some (.int .i64 ((j : Int) / 2 % 2)) ∧ w'.cell? ⟨gb, 1, none⟩ = some (.int .i64 ((j : Int) % 2)) ∧ w'.cell? ⟨w.heap.size + 1 + 1 + 1, j, none⟩ = some (.int .i64 0) ∧ w'.frozen? ⟨w.heap.size + 1 + 1 + 1, j, none⟩ = false ∧ Below w3.heap.size w3 w') (L := 15) (by kernel_rfl) ?_
      have hHeld := held8f rfl t0 t1 a0 a1 a2 b0 b1 rj rf (below_dr (Below.refl _ _))
      refine last.take (i := 0) (oi := { dst := some 22, op := Op.move (Operand.tmp 11), type := 3, pos := "l11_three.go:100", after := #[], guard := none }) (v := ?v0) rfl (by kernel_rfl) (by kernel_rfl) (by kernel_rfl) (by kernel_rfl) (by decide) (fun _ _ _ h => h) (Or.inl ⟨by rfl, ?y0⟩) hHeld ?r0
      case y0 => (intro w hSw; (try dsimp only at hSw); go_simp; try with_reducible rfl)
      try simp only [Act.put, List.setIfInBounds_toArray, List.set_cons_zero, List.set_cons_succ]
      refine last.take (i := 1) (oi := { dst := some 23, op := Op.load 27 (Operand.tmp 4), type := 27, pos := "l11_three.go:100", after := #[], guard := none }) (v := ?v1) rfl (by kernel_rfl) (by kernel_rfl) (by kernel_rfl) (by kernel_rfl) (by decide) (fun _ _ _ h => h) (Or.inl ⟨by rfl, ?y1⟩) hHeld ?r1
      case y1 => (intro w hSw; (try dsimp only at hSw); go_simp; try with_reducible rfl)
      try simp only [Act.put, List.setIfInBounds_toArray, List.set_cons_zero, List.set_cons_succ]
      refine last.take (i := 2) (oi := { dst := some 24, op := Op.load 76 (Operand.tmp 10), type := 76, pos := "l11_three.go:100", after := #[], guard := none }) (v := ?v2) rfl (by kernel_rfl) (by kernel_rfl) (by kernel_rfl) (by kernel_rfl) (by decide) (fun _ _ _ h => h) (Or.inl ⟨by rfl, ?y2⟩) hHeld ?r2
      case y2 => (intro w hSw; (try dsimp only at hSw); go_simp; try with_reducible rfl)
      try simp only [Act.put, List.setIfInBounds_toArray, List.set_cons_zero, List.set_cons_succ]
      refine last.take (i := 3) (oi := { dst := some 25, op := Op.load 95 (Operand.tmp 12), type := 95, pos := "l11_three.go:100", after := #[], guard := none }) (v := ?v3) rfl (by kernel_rfl) (by kernel_rfl) (by kernel_rfl) (by kernel_rfl) (by decide) (fun _ _ _ h => h) (Or.inl ⟨by rfl, ?y3⟩) hHeld ?r3
      case y3 => (intro w hSw; (try dsimp only at hSw); go_simp; try with_reducible rfl)
      try simp only [Act.put, List.setIfInBounds_toArray, List.set_cons_zero, List.set_cons_succ]
      refine last.take (i := 4) (oi := { dst := some 26, op := Op.move (Operand.tmp 1), type := 3, pos := "l11_three.go:100", after := #[], guard := none }) (v := ?v4) rfl (by kernel_rfl) (by kernel_rfl) (by kernel_rfl) (by kernel_rfl) (by decide) (fun _ _ _ h => h) (Or.inl ⟨by rfl, ?y4⟩) hHeld ?r4
      case y4 => (intro w hSw; (try dsimp only at hSw); go_simp; try with_reducible rfl)
      try simp only [Act.put, List.setIfInBounds_toArray, List.set_cons_zero, List.set_cons_succ]
      refine last.take (i := 7) (oi := { dst := some 29, op := Op.load 27 (Operand.tmp 4), type := 27, pos := "l11_three.go:100", after := #[], guard := none }) (v := ?v7) rfl (by kernel_rfl) (by kernel_rfl) (by kernel_rfl) (by kernel_rfl) (by decide) (fun _ _ _ h => h) (Or.inl ⟨by rfl, ?y7⟩) hHeld ?r7
      case y7 => (intro w hSw; (try dsimp only at hSw); go_simp; try with_reducible rfl)
      try simp only [Act.put, List.setIfInBounds_toArray, List.set_cons_zero, List.set_cons_succ]
      refine last.take (i := 8) (oi := { dst := some 30, op := Op.load 76 (Operand.tmp 10), type := 76, pos := "l11_three.go:100", after := #[], guard := none }) (v := ?v8) rfl (by kernel_rfl) (by kernel_rfl) (by kernel_rfl) (by kernel_rfl) (by decide) (fun _ _ _ h => h) (Or.inl ⟨by rfl, ?y8⟩) hHeld ?r8
      case y8 => (intro w hSw; (try dsimp only at hSw); go_simp; try with_reducible rfl)
      try simp only [Act.put, List.setIfInBounds_toArray, List.set_cons_zero, List.set_cons_succ]
      refine last.take (i := 9) (oi := { dst := some 31, op := Op.load 95 (Operand.tmp 12), type := 95, pos := "l11_three.go:100", after := #[], guard := none }) (v := ?v9) rfl (by kernel_rfl) (by kernel_rfl) (by kernel_rfl) (by kernel_rfl) (by decide) (fun _ _ _ h => h) (Or.inl ⟨by rfl, ?y9⟩) hHeld ?r9
      case y9 => (intro w hSw; (try dsimp only at hSw); go_simp; try with_reducible rfl)
      try simp only [Act.put, List.setIfInBounds_toArray, List.set_cons_zero, List.set_cons_succ]
      refine last.take (i := 10) (oi := { dst := some 32, op := Op.move (Operand.tmp 1), type := 3, pos := "l11_three.go:100", after := #[], guard := none }) (v := ?v10) rfl (by kernel_rfl) (by kernel_rfl) (by kernel_rfl) (by kernel_rfl) (by decide) (fun _ _ _ h => h) (Or.inl ⟨by rfl, ?y10⟩) hHeld ?r10
      case y10 => (intro w hSw; (try dsimp only at hSw); go_simp; try with_reducible rfl)
      try simp only [Act.put, List.setIfInBounds_toArray, List.set_cons_zero, List.set_cons_succ]
      refine last.one (i := 5) (o := { dst := some 27, op := Op.call { callee := Callee.value (Operand.func 104), args := #[Operand.tmp 25, Operand.tmp 26, Operand.const (Value.int IntKind.i64 0)], argTypes := #[95, 3, 3] }, type := 76, pos := "l11_three.go:100", after := #[{ on := 3, ground := Ground.data }, { on := 4, ground := Ground.data }], guard := none }) (by kernel_rfl) rfl (fun K hK => ?_)
      go_simp
      (go_at_call 104; (with_reducible refine (HW0.out j _).mono ?_); rintro e x0 ⟨rfl, hx0⟩)
      refine hK.out _ _ ?s5 (fun hHeld => ?_)
      case s5 => (try dsimp only); (refine held8f rfl t0 t1 a0 a1 a2 b0 b1 rj rf ?_; repeat (first | (with_reducible exact Below.refl _ _) | (with_reducible refine below_dr ?_) | (with_reducible refine below_tr ?_ (by assumption))))
      clear hK K
      try simp only [Act.put, List.setIfInBounds_toArray, List.set_cons_zero, List.set_cons_succ]
      refine last.one (i := 6) (o := { dst := some 28, op := Op.call { callee := Callee.value (Operand.func 78), args := #[Operand.tmp 23, Operand.tmp 24, Operand.tmp 27], argTypes := #[27, 76, 76] }, type := 3, pos := "l11_three.go:100", after := #[{ on := 1, ground := Ground.data }, { on := 2, ground := Ground.data }, { on := 5, ground := Ground.data }, { on := 5, ground := Ground.chain }], guard := none }) (by kernel_rfl) rfl (fun K hK => ?_)
      go_simp
      (go_at_call 78; (with_reducible refine (N0.out _ (by repeat (first | (with_reducible exact Below.refl _ _) | (with_reducible refine below_dr ?_) | (with_reducible refine below_tr ?_ (by assumption))))).mono ?_); rintro e y0 ⟨rfl, hy0⟩)
      refine hK.out _ _ ?s6 (fun hHeld => ?_)
      case s6 => (try dsimp only); (refine held8f rfl t0 t1 a0 a1 a2 b0 b1 rj rf ?_; repeat (first | (with_reducible exact Below.refl _ _) | (with_reducible refine below_dr ?_) | (with_reducible refine below_tr ?_ (by assumption))))
      clear hK K
      try simp only [Act.put, List.setIfInBounds_toArray, List.set_cons_zero, List.set_cons_succ]
      refine last.one (i := 11) (o := { dst := some 33, op := Op.call { callee := Callee.value (Operand.func 104), args := #[Operand.tmp 31, Operand.tmp 32, Operand.const (Value.int IntKind.i64 1)], argTypes := #[95, 3, 3] }, type := 76, pos := "l11_three.go:100", after := #[{ on := 9, ground := Ground.data }, { on := 10, ground := Ground.data }, { on := 6, ground := Ground.chain }], guard := none }) (by kernel_rfl) rfl (fun K hK => ?_)
      go_simp
      (go_at_call 104; (with_reducible refine (HW1.out j _).mono ?_); rintro e x1 ⟨rfl, hx1⟩)
      refine hK.out _ _ ?s11 (fun hHeld => ?_)
      case s11 => (try dsimp only); (refine held8f rfl t0 t1 a0 a1 a2 b0 b1 rj rf ?_; repeat (first | (with_reducible exact Below.refl _ _) | (with_reducible refine below_dr ?_) | (with_reducible refine below_tr ?_ (by assumption))))
      clear hK K
      try simp only [Act.put, List.setIfInBounds_toArray, List.set_cons_zero, List.set_cons_succ]
      refine last.one (i := 12) (o := { dst := some 34, op := Op.call { callee := Callee.value (Operand.func 78), args := #[Operand.tmp 29, Operand.tmp 30, Operand.tmp 33], argTypes := #[27, 76, 76] }, type := 3, pos := "l11_three.go:100", after := #[{ on := 7, ground := Ground.data }, { on := 8, ground := Ground.data }, { on := 11, ground := Ground.data }, { on := 11, ground := Ground.chain }], guard := none }) (by kernel_rfl) rfl (fun K hK => ?_)
      go_simp
      (go_at_call 78; (with_reducible refine (N1.out _ (by repeat (first | (with_reducible exact Below.refl _ _) | (with_reducible refine below_dr ?_) | (with_reducible refine below_tr ?_ (by assumption))))).mono ?_); rintro e y1 ⟨rfl, hy1⟩)
      refine hK.out _ _ ?s12 (fun hHeld => ?_)
      case s12 => (try dsimp only); (refine held8f rfl t0 t1 a0 a1 a2 b0 b1 rj rf ?_; repeat (first | (with_reducible exact Below.refl _ _) | (with_reducible refine below_dr ?_) | (with_reducible refine below_tr ?_ (by assumption))))
      clear hK K
      try simp only [Act.put, List.setIfInBounds_toArray, List.set_cons_zero, List.set_cons_succ]
      refine last.take (i := 13) (oi := { dst := some 35, op := Op.binOp BinOp.add 3 (Operand.tmp 28) (Operand.tmp 34) 3, type := 3, pos := "l11_three.go:100", after := #[{ on := 6, ground := Ground.data }, { on := 12, ground := Ground.data }], guard := none }) (v := ?v13) rfl (by kernel_rfl) (by kernel_rfl) (by kernel_rfl) (by kernel_rfl) (by decide) (fun _ _ _ h => h) (Or.inl ⟨by rfl, ?y13⟩) hHeld ?r13
      case y13 => (intro w hSw; (try dsimp only at hSw); go_simp; try with_reducible rfl)
      try simp only [Act.put, List.setIfInBounds_toArray, List.set_cons_zero, List.set_cons_succ]
      refine last.take (i := 14) (oi := { dst := some 36, op := Op.indexAddr 92 (Operand.tmp 9) (Operand.tmp 22), type := 0, pos := "l11_three.go:100", after := #[{ on := 0, ground := Ground.data }, { on := 0, ground := Ground.phase }, { on := 1, ground := Ground.phase }, { on := 2, ground := Ground.phase }, { on := 3, ground := Ground.phase }, { on := 4, ground := Ground.phase }, { on := 5, ground := Ground.phase }, { on := 6, ground := Ground.phase }, { on := 7, ground := Ground.phase }, { on := 8, ground := Ground.phase }, { on := 9, ground := Ground.phase }, { on := 10, ground := Ground.phase }, { on := 11, ground := Ground.phase }, { on := 12, ground := Ground.phase }, { on := 13, ground := Ground.phase }], guard := none }) (v := ?v14) rfl (by kernel_rfl) (by kernel_rfl) (by kernel_rfl) (by kernel_rfl) (by decide) (fun _ _ _ h => h) (Or.inl ⟨by rfl, ?y14⟩) hHeld ?r14
      case y14 => (intro w hSw; (try dsimp only at hSw); go_simp; try with_reducible rfl)
      try simp only [Act.put, List.setIfInBounds_toArray, List.set_cons_zero, List.set_cons_succ]
      have E9 : Below w3.heap.size w3 y1 := below_tr (below_tr (below_tr (below_tr (below_dr (Below.refl _ _)) hx0) hy0) hx1) hy1
      have S9 := Lib.hid (S3.out.keep E9)
      obtain ⟨_, _, _, _, _, _, _, q9, f9, _⟩ := hHeld
      have S10 := Lib.hid (S9.out.store hlt)
      clear t0 t1 a0 a1 a2 b0 b1 rj rf hx0 hy0 hx1 hy1 E9 S9 S3
      refine last.final (o := { dst := none, op := Op.store 3 (Operand.tmp 36) (Operand.tmp 35), type := 0, pos := "l11_three.go:100", after := #[{ on := 14, ground := Ground.data }, { on := 13, ground := Ground.data }, { on := 12, ground := Ground.chain }, { on := 0, ground := Ground.phase }, { on := 1, ground := Ground.phase }, { on := 2, ground := Ground.phase }, { on := 3, ground := Ground.phase }, { on := 4, ground := Ground.phase }, { on := 5, ground := Ground.phase }, { on := 6, ground := Ground.phase }, { on := 7, ground := Ground.phase }, { on := 8, ground := Ground.phase }, { on := 9, ground := Ground.phase }, { on := 10, ground := Ground.phase }, { on := 11, ground := Ground.phase }, { on := 12, ground := Ground.phase }, { on := 13, ground := Ground.phase }], guard := none }) (by kernel_rfl) rfl (fun K hK => ?_)
      go_simp
      refine hK.out _ _ ?_
      clear hK K
      try simp only [Act.put, List.setIfInBounds_toArray, List.set_cons_zero, List.set_cons_succ]
      refine last.done (by kernel_rfl) ?_ _
      generalize y1.setCell ⟨w.heap.size + 1 + 1 + 1, j, none⟩ (.int .i64 (oth xss 2 q j)) = w5 at *
      go_wp2_with fail
      go_roundw
      case rel => exact ⟨⟨_, rfl⟩, ⟨_, rfl⟩, j + 1, by omega, by go_num, S10⟩
      case measure => simp [intOf]; omega
    · have hkz : ¬ (j : Int) < 4 := by omega
      obtain rfl : j = 4 := by omega
      obtain ⟨r0, r1, r2, r3, rl⟩ := four_cells hS.out.res
      have rf : ∀ k, wo.frozen? ⟨w.heap.size + 1 + 1, k, none⟩ = false := fun k => Joins.unfrozen_of_block hS.out.res k
      have c0 := hS.out.row.cell (i := 0) (by omega)
      have c1 := hS.out.row.cell (i := 1) (by omega)
      have c2 := hS.out.row.cell (i := 2) (by omega)
      have c3 := hS.out.row.cell (i := 3) (by omega)
      simp only [Nat.reduceLT, if_true] at c0 c1 c2 c3
      go_wp2_with fail
      refine bodyPost_ret (v := .agg #[.int .i64 (oth xss 2 q 0), .int .i64 (oth xss 2 q 1), .int .i64 (oth xss 2 q 2), .int .i64 (oth xss 2 q 3)]) (by simp [results, Try.results96, go_sem, r0, r1, r2, r3]) rfl ⟨rfl, ?_⟩
      repeat (first | (with_reducible exact hS.out.below) | (with_reducible refine Below.setCell ?_ (by simp <;> omega) _))


end Go.Proofs.Ytomofmmecpdalaa.tro
