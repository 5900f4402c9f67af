/- SumTrio: both sides. -/
import Derived.Test.YtomofmmecpdalaaGrd
import Derived.Test.YtomofmmecpdalaaTwy
import Derived.Test.YtomofmmecpdalaaTvk
import Derived.Test.YtomofmmecpdalaaTra
import Derived.Test.YtomofmmecpdalaaPlay
import Derived.Test.YtomofmmecpdalaaLast
namespace Go.Proofs.Ytomofmmecpdalaa.tsu
open Go.RowKit Go.Deep Go.Proofs.Ytomofmmecpdalaa.base
open Go.Proofs.Ytomofmmecpdalaa.ints (infoInts)
open Go.Proofs.Ytomofmmecpdalaa.tri (two_cells)
open Go.Proofs.Ytomofmmecpdalaa.trb (three_cells par parity_k)
open Go.Proofs.Ytomofmmecpdalaa.grd
open Go.Proofs.Ytomofmmecpdalaa.tvk (Res)
open Go.Proofs.Ytomofmmecpdalaa.play (within withinB withinB_yes withinB_no)

def od (xs : List Int) (q : Nat) : Int := xs.getD q 0
def NS (xs : List Int) (q k : Nat) : Int := if (par k : Int) = od xs q then 1 else 0
open Classical in
noncomputable def resU (xs : List Int) : Res := if within 8 0 1 xs then ⟨4, rows8 (NS xs), true⟩ else Res.zero
theorem resU_yes {xs : List Int} (h : within 8 0 1 xs) : resU xs = ⟨4, rows8 (NS xs), true⟩ := if_pos h
theorem resU_no {xs : List Int} (h : ¬ within 8 0 1 xs) : resU xs = Res.zero := if_neg h
theorem tot_resU (xs : List Int) : rws.total (resU xs).rows ≤ 1048576 := by
  by_cases h : within 8 0 1 xs
  · rw [resU_yes h]; exact tot_rows8 _
  · rw [resU_no h]; simp [Res.zero, rws.total]
theorem parity_z (k : Nat) (hk : k < 8) (w : World) : Calls Try.prog 73 #[.agg #[.int .i64 ((k : Int) / 4 % 2), .int .i64 ((k : Int) / 2 % 2), .int .i64 ((k : Int) % 2)]] w fun e w' => e = .returned (.int .i64 (par k : Int)) ∧ Below w.heap.size w w' := by
  have := parity_k k hk w
  simpa [trb.tb, trb.b3] using this
theorem place_z (k : Nat) (hk : k < 8) (w : World) : Calls Try.prog 74 #[.agg #[.int .i64 ((k : Int) / 4 % 2), .int .i64 ((k : Int) / 2 % 2), .int .i64 ((k : Int) % 2)]] w fun e w' => e = .returned (.int .i64 (k : Int)) ∧ Below w.heap.size w w' :=
  trn.place_q (by omega) (by omega) (by omega) (by omega) w

theorem held2f {B : Nat} {w w' : World} {p1 p2 : Addr} {u1 u2 : Value} (hB : B = w.heap.size) (h1 : w.cell? p1 = some u1) (h2 : w.cell? p2 = some u2) (hf : w.frozen? p2 = false) (hb : Below B w w') :
    w'.cell? p1 = some u1 ∧ w'.cell? p2 = some u2 ∧ w'.frozen? p2 = false ∧ Below B w w' := by
  subst hB
  exact ⟨below_cell hb _ _ h1, below_cell hb _ _ h2, (hb.frozen (World.block_lt_of_cell? _ _ h2)).trans hf, hb⟩
theorem at3z (k : Nat) (hk : k < 8) (w : World) : Calls Try.prog 80 #[.int .i64 (k : Int)] w fun e w' => e = .returned (.agg #[.int .i64 ((k : Int) / 4 % 2), .int .i64 ((k : Int) / 2 % 2), .int .i64 ((k : Int) % 2)]) ∧ Below w.heap.size w w' := by
  have := trb.at3 k hk w
  simpa [trb.tb, trb.b3] using this

set_option maxHeartbeats 8000000 in
theorem makes  (p0 : Nat) (wh : Int) (N : Nat → Nat → Int) (w : World)
    (hnum : ∀ (q c : Nat) (W : World), q < 8 → c < 8 → Below w.heap.size w W → Calls Try.prog 72 #[.agg #[.int .i64 ((q : Int) / 4 % 2), .int .i64 ((q : Int) / 2 % 2), .int .i64 ((q : Int) % 2)], .agg #[.int .i64 ((c : Int) / 4 % 2), .int .i64 ((c : Int) / 2 % 2), .int .i64 ((c : Int) % 2)], .pointer (some ⟨p0, 0, none⟩)] W fun e w' => e = .returned (.int .i64 (N q c)) ∧ Below W.heap.size W w') :
    Calls Try.prog 71 #[.int .i64 wh, .func (.func 72) #[] #[.pointer (some ⟨p0, 0, none⟩)]] w fun e w' => ∃ u, e = .returned (.agg #[.int .i64 wh, u]) ∧ OwnRows w' w.heap.size w'.heap.size u (rows8 N) ∧ Below w.heap.size w w' := by
  have hmk : ∀ W : World, (Instr.makeSlice 33 (.int .i64 8) (.int .i64 8)).run Try.prog W = .ok (.slice (some ⟨W.heap.size, 0, none⟩) 8 8) (W.alloc (.cells (madeCells #[.int .i64 0] 8) 3)) := fun W => by kernel_rfl
  have hmr : ∀ W : World, (Instr.makeSlice 22 (.int .i64 8) (.int .i64 8)).run Try.prog W = .ok (.slice (some ⟨W.heap.size, 0, none⟩) 8 8) (W.alloc (.cells (madeCells #[.slice none 0 0] 8) 33)) := fun W => by kernel_rfl
  have HN := Lib.hid hnum
  clear hnum
  obtain ⟨W0, hW0⟩ : ∃ W, W = (w.alloc (.cells #[.int .i64 0, .slice none 0 0] 27)).alloc (.cells (madeCells #[.slice none 0 0] 8) 33) := ⟨_, rfl⟩
  have K0 : Hid (Blk W0 w.heap.size 27 #[.int .i64 0, .slice none 0 0]) := Lib.hid (by rw [hW0]; exact (Blk.new _ _ _).alloc _)
  have G0 : Hid (Grd w W0 (w.heap.size + 1) (up 0) (fun _ => 0) (Fq N 0 0)) := Lib.hid (by
    have hr : W0.rowIs (w.heap.size + 1) 33 8 (fun _ => .slice none 0 0) := by
      rw [hW0]
      have := World.rowIs_made (w.alloc (.cells #[.int .i64 0, .slice none 0 0] 27)) (.slice none 0 0) 8 33
      simpa using this
    refine ⟨by rw [hW0]; exact below_al (below_al (Below.refl _ _) _) _, by omega, hr.congr (fun i _ => by simp [outer, up]), fun i _ ho => by simp [up] at ho, fun i _ ho => by simp [up] at ho, fun i j _ _ ho => by simp [up] at ho⟩)
  go_enter Try.func71, Try.ntmps71
  go_wp2_with fail
  rw [← hW0]
  clear hW0 hmr
  go_loopw [11] (fun s wr => ∃ q : Nat, q ≤ 8 ∧ s = .int .i64 q ∧ ∃ gs, Hid (Grd w wr (w.heap.size + 1) (up q) gs (Fq N q 0)) ∧ Hid (Blk wr w.heap.size 27 #[.int .i64 0, .slice none 0 0])) (fun s _ => 8 - (intOf s).toNat)
  case atStart => exact ⟨0, by omega, rfl, _, G0, K0⟩
  case round =>
    obtain ⟨q, hq, rfl, gs, hG, hK⟩ := hrel
    clear G0 K0
    obtain ⟨wo, rfl⟩ : ∃ wo : World, wo = wr := ⟨_, rfl⟩
    by_cases hlt : q < 8
    · have hqz : (q : Int) < 8 := by omega
      have al := below_al (Below.refl wo.heap.size wo) (.cells (madeCells #[.int .i64 0] 8) 3)
      have G1 := hG.out.keep al
      have c1 := G1.out.cell hlt
      have f1 := G1.out.frozen q
      have eo : outer (up q) gs q = .slice none 0 0 := by simp [outer, up]
      rw [eo] at c1
      have G2 : Hid (Grd w ((wo.alloc (.cells (madeCells #[.int .i64 0] 8) 3)).setCell ⟨w.heap.size + 1, q, none⟩ (.slice (some ⟨wo.heap.size, 0, none⟩) 8 8)) (w.heap.size + 1) (up (q + 1)) (fun i => if i = q then wo.heap.size else gs i) (Fq N q 0)) := Lib.hid (by
        rw [← upd_up q]
        refine G1.put hlt (by simp [up]) ((World.rowIs_made wo (.int .i64 0) 8 3).congr (fun j _ => by simp only [Fq_zero])) hG.out.out.lt (fun i hi ho => ?_) (fun _ _ _ _ _ => rfl)
        have := (hG.out.row i hi ho).lt
        show gs i ≠ wo.heap.size
        omega)
      have K2 : Hid (Blk ((wo.alloc (.cells (madeCells #[.int .i64 0] 8) 3)).setCell ⟨w.heap.size + 1, q, none⟩ (.slice (some ⟨wo.heap.size, 0, none⟩) 8 8)) w.heap.size 27 #[.int .i64 0, .slice none 0 0]) := Lib.hid ((hK.out.alloc _).belowB (B := w.heap.size + 1) (Below.setCell (Below.refl _ _) (show w.heap.size + 1 ≤ (⟨w.heap.size + 1, q, none⟩ : Addr).block from Nat.le_refl _) _) (by omega))
      have c2 := G2.out.out.cell hlt
      have eo2 : outer (up (q + 1)) (fun i => if i = q then wo.heap.size else gs i) q = .slice (some ⟨wo.heap.size, 0, none⟩) 8 8 := by simp [outer, up]
      rw [eo2] at c2
      clear eo eo2 al G1 hG hK
      go_wp2_with fail
      generalize (wo.alloc (.cells (madeCells #[.int .i64 0] 8) 3)).setCell ⟨w.heap.size + 1, q, none⟩ (.slice (some ⟨wo.heap.size, 0, none⟩) 8 8) = W2 at *
      obtain ⟨gt, hgt⟩ : ∃ gt : Nat → Nat, gt = fun i => if i = q then wo.heap.size else gs i := ⟨_, rfl⟩
      have hgq : wo.heap.size = gt q := by rw [hgt]; simp
      rw [← hgt] at G2
      rw [hgq]
      rw [hgq] at c2
      clear c1 f1 hgt hgq
      go_loopw [23] (fun s wr => ∃ c : Nat, c ≤ 8 ∧ s = .int .i64 c ∧ Hid (Grd w wr (w.heap.size + 1) (up (q + 1)) gt (Fq N q c)) ∧ Hid (Blk wr w.heap.size 27 #[.int .i64 0, .slice none 0 0])) (fun s _ => 8 - (intOf s).toNat)
      case atStart => exact ⟨0, by omega, rfl, G2, K2⟩
      case round =>
        obtain ⟨c, hc, rfl, hG, hK⟩ := hrel
        clear G2 K2 c2
        obtain ⟨wj, rfl⟩ : ∃ wo : World, wo = wr := ⟨_, rfl⟩
        by_cases hlc : c < 8
        · have hcz : (c : Int) < 8 := by omega
          have hon : up (q + 1) q = true := by simp [up]
          have x1 := hG.out.out.cell hlt
          have eo : outer (up (q + 1)) gt q = .slice (some ⟨gt q, 0, none⟩) 8 8 := by simp [outer, hon]
          rw [eo] at x1
          have x2 := (hG.out.row q hlt hon).cell hlc
          have ez : Fq N q c q c = 0 := by simp [Fq]
          simp only [ez] at x2
          have f2 := (hG.out.row q hlt hon).frozen c
          have HA := Lib.hid (fun W => at3z q hlt W)
          have HB := Lib.hid (fun W => at3z c hlc W)
          have HC := Lib.hid (fun (W : World) (hW : Below wj.heap.size wj W) => HN.out q c W hlt hlc (below_tr hG.out.below hW))
          clear eo ez
          go_wp2_with fail
          refine last.start (S := fun w' => w'.cell? ⟨w.heap.size + 1, q, none⟩ = some (.slice (some ⟨gt q, 0, none⟩) 8 8) ∧ w'.cell? ⟨gt q, c, none⟩ = some (.int .i64 0) ∧ w'.frozen? ⟨gt q, c, none⟩ = false ∧ Below wj.heap.size wj w') (L := 12) (by kernel_rfl) ?_
          have hHeld := held2f rfl x1 x2 f2 (below_dr (Below.refl _ _))
          refine last.take (i := 0) (oi := { dst := some 26, op := Op.move (Operand.tmp 5), type := 22, pos := "l11_three.go:122", after := #[], guard := none }) (v := ?v0) rfl (by kernel_rfl) (by kernel_rfl) (by kernel_rfl) (by kernel_rfl) (by decide) (fun _ _ _ h => h) (Or.inl ⟨by rfl, ?y0⟩) hHeld ?r0
          case y0 => (intro w hSw; (try dsimp only at hSw); go_simp; try with_reducible rfl)
          try simp only [Act.put, List.setIfInBounds_toArray, List.set_cons_zero, List.set_cons_succ]
          refine last.take (i := 1) (oi := { dst := some 27, op := Op.move (Operand.tmp 6), type := 3, pos := "l11_three.go:122", after := #[], guard := none }) (v := ?v1) rfl (by kernel_rfl) (by kernel_rfl) (by kernel_rfl) (by kernel_rfl) (by decide) (fun _ _ _ h => h) (Or.inl ⟨by rfl, ?y1⟩) hHeld ?r1
          case y1 => (intro w hSw; (try dsimp only at hSw); go_simp; try with_reducible rfl)
          try simp only [Act.put, List.setIfInBounds_toArray, List.set_cons_zero, List.set_cons_succ]
          refine last.take (i := 2) (oi := { dst := some 28, op := Op.indexAddr 22 (Operand.tmp 26) (Operand.tmp 27), type := 0, pos := "l11_three.go:122", after := #[{ on := 0, ground := Ground.data }, { on := 1, ground := Ground.data }], guard := none }) (v := ?v2) rfl (by kernel_rfl) (by kernel_rfl) (by kernel_rfl) (by kernel_rfl) (by decide) (fun _ _ _ h => h) (Or.inl ⟨by rfl, ?y2⟩) hHeld ?r2
          case y2 => (intro w hSw; (try dsimp only at hSw); go_simp; try with_reducible rfl)
          try simp only [Act.put, List.setIfInBounds_toArray, List.set_cons_zero, List.set_cons_succ]
          refine last.take (i := 3) (oi := { dst := some 29, op := Op.load 33 (Operand.tmp 28), type := 33, pos := "l11_three.go:122", after := #[{ on := 2, ground := Ground.data }], guard := none }) (v := ?v3) rfl (by kernel_rfl) (by kernel_rfl) (by kernel_rfl) (by kernel_rfl) (by decide) (fun _ _ _ h => h) (Or.inl ⟨by rfl, ?y3⟩) hHeld ?r3
          case y3 => (intro w hSw; (try dsimp only at hSw); go_simp; try with_reducible rfl)
          try simp only [Act.put, List.setIfInBounds_toArray, List.set_cons_zero, List.set_cons_succ]
          refine last.take (i := 4) (oi := { dst := some 30, op := Op.move (Operand.tmp 7), type := 3, pos := "l11_three.go:122", after := #[], guard := none }) (v := ?v4) rfl (by kernel_rfl) (by kernel_rfl) (by kernel_rfl) (by kernel_rfl) (by decide) (fun _ _ _ h => h) (Or.inl ⟨by rfl, ?y4⟩) hHeld ?r4
          case y4 => (intro w hSw; (try dsimp only at hSw); go_simp; try with_reducible rfl)
          try simp only [Act.put, List.setIfInBounds_toArray, List.set_cons_zero, List.set_cons_succ]
          refine last.take (i := 5) (oi := { dst := some 31, op := Op.move (Operand.tmp 1), type := 78, pos := "l11_three.go:122", after := #[], guard := none }) (v := ?v5) rfl (by kernel_rfl) (by kernel_rfl) (by kernel_rfl) (by kernel_rfl) (by decide) (fun _ _ _ h => h) (Or.inl ⟨by rfl, ?y5⟩) hHeld ?r5
          case y5 => (intro w hSw; (try dsimp only at hSw); go_simp; try with_reducible rfl)
          try simp only [Act.put, List.setIfInBounds_toArray, List.set_cons_zero, List.set_cons_succ]
          refine last.take (i := 6) (oi := { dst := some 32, op := Op.move (Operand.tmp 6), type := 3, pos := "l11_three.go:122", after := #[], guard := none }) (v := ?v6) rfl (by kernel_rfl) (by kernel_rfl) (by kernel_rfl) (by kernel_rfl) (by decide) (fun _ _ _ h => h) (Or.inl ⟨by rfl, ?y6⟩) hHeld ?r6
          case y6 => (intro w hSw; (try dsimp only at hSw); go_simp; try with_reducible rfl)
          try simp only [Act.put, List.setIfInBounds_toArray, List.set_cons_zero, List.set_cons_succ]
          refine last.take (i := 8) (oi := { dst := some 34, op := Op.move (Operand.tmp 7), type := 3, pos := "l11_three.go:122", after := #[], guard := none }) (v := ?v8) rfl (by kernel_rfl) (by kernel_rfl) (by kernel_rfl) (by kernel_rfl) (by decide) (fun _ _ _ h => h) (Or.inl ⟨by rfl, ?y8⟩) hHeld ?r8
          case y8 => (intro w hSw; (try dsimp only at hSw); go_simp; try with_reducible rfl)
          try simp only [Act.put, List.setIfInBounds_toArray, List.set_cons_zero, List.set_cons_succ]
          refine last.one (i := 7) (o := { dst := some 33, op := Op.call { callee := Callee.value (Operand.func 80), args := #[Operand.tmp 32], argTypes := #[3] }, type := 76, pos := "l11_three.go:122", after := #[{ on := 6, ground := Ground.data }], guard := none }) (by kernel_rfl) rfl (fun K hK => ?_)
          go_simp
          (go_at_call 80; (with_reducible refine (HA.out _).mono ?_); rintro e y0 ⟨rfl, hy0⟩)
          refine hK.out _ _ ?s7 (fun hHeld => ?_)
          case s7 => (try dsimp only); (refine held2f rfl x1 x2 f2 ?_; repeat (first | (with_reducible exact Below.refl _ _) | (with_reducible refine below_dr ?_) | (with_reducible refine below_tr ?_ (by assumption))))
          clear hK K
          try simp only [Act.put, List.setIfInBounds_toArray, List.set_cons_zero, List.set_cons_succ]
          refine last.one (i := 9) (o := { dst := some 35, op := Op.call { callee := Callee.value (Operand.func 80), args := #[Operand.tmp 34], argTypes := #[3] }, type := 76, pos := "l11_three.go:122", after := #[{ on := 8, ground := Ground.data }, { on := 7, ground := Ground.chain }], guard := none }) (by kernel_rfl) rfl (fun K hK => ?_)
          go_simp
          (go_at_call 80; (with_reducible refine (HB.out _).mono ?_); rintro e y1 ⟨rfl, hy1⟩)
          refine hK.out _ _ ?s9 (fun hHeld => ?_)
          case s9 => (try dsimp only); (refine held2f rfl x1 x2 f2 ?_; repeat (first | (with_reducible exact Below.refl _ _) | (with_reducible refine below_dr ?_) | (with_reducible refine below_tr ?_ (by assumption))))
          clear hK K
          try simp only [Act.put, List.setIfInBounds_toArray, List.set_cons_zero, List.set_cons_succ]
          refine last.one (i := 10) (o := { dst := some 36, op := Op.call { callee := Callee.value (Operand.tmp 31), args := #[Operand.tmp 33, Operand.tmp 35], argTypes := #[76, 76] }, type := 3, pos := "l11_three.go:122", after := #[{ on := 5, ground := Ground.data }, { on := 7, ground := Ground.data }, { on := 9, ground := Ground.data }, { on := 9, ground := Ground.chain }], guard := none }) (by kernel_rfl) rfl (fun K hK => ?_)
          go_simp
          (go_at_call 72; (with_reducible refine (HC.out _ (by repeat (first | (with_reducible exact Below.refl _ _) | (with_reducible refine below_dr ?_) | (with_reducible refine below_tr ?_ (by assumption))))).mono ?_); rintro e y2 ⟨rfl, hy2⟩)
          refine hK.out _ _ ?s10 (fun hHeld => ?_)
          case s10 => (try dsimp only); (refine held2f rfl x1 x2 f2 ?_; repeat (first | (with_reducible exact Below.refl _ _) | (with_reducible refine below_dr ?_) | (with_reducible refine below_tr ?_ (by assumption))))
          clear hK K
          try simp only [Act.put, List.setIfInBounds_toArray, List.set_cons_zero, List.set_cons_succ]
          refine last.take (i := 11) (oi := { dst := some 37, op := Op.indexAddr 33 (Operand.tmp 29) (Operand.tmp 30), type := 0, pos := "l11_three.go:122", after := #[{ on := 3, ground := Ground.data }, { on := 4, ground := Ground.data }, { on := 0, ground := Ground.phase }, { on := 1, ground := Ground.phase }, { on := 2, ground := Ground.phase }, { on := 3, ground := Ground.phase }, { on := 4, ground := Ground.phase }, { on := 5, ground := Ground.phase }, { on := 6, ground := Ground.phase }, { on := 7, ground := Ground.phase }, { on := 8, ground := Ground.phase }, { on := 9, ground := Ground.phase }, { on := 10, ground := Ground.phase }], guard := none }) (v := ?v11) rfl (by kernel_rfl) (by kernel_rfl) (by kernel_rfl) (by kernel_rfl) (by decide) (fun _ _ _ h => h) (Or.inl ⟨by rfl, ?y11⟩) hHeld ?r11
          case y11 => (intro w hSw; (try dsimp only at hSw); go_simp; try with_reducible rfl)
          try simp only [Act.put, List.setIfInBounds_toArray, List.set_cons_zero, List.set_cons_succ]
          have E9 : Below wj.heap.size wj y2 := below_tr (below_tr (below_tr (below_dr (Below.refl _ _)) hy0) hy1) hy2
          have G9 := Lib.hid (hG.out.keep E9)
          have K9 := Lib.hid (hK.out.below E9)
          obtain ⟨_, q9, f9, _⟩ := hHeld
          have G10 := Lib.hid (G9.out.store hlt hon (N q c) (F' := Fq N q (c + 1)) (fun i j _ _ _ => Fq_step N q c i j))
          have K10 : Hid (Blk (y2.setCell ⟨gt q, c, none⟩ (.int .i64 (N q c))) w.heap.size 27 #[.int .i64 0, .slice none 0 0]) := Lib.hid (K9.out.belowB (B := w.heap.size + 1) (Below.setCell (Below.refl _ _) (show w.heap.size + 1 ≤ (⟨gt q, c, none⟩ : Addr).block from Nat.le_of_lt (G9.out.ge q hlt hon)) _) (by omega))
          clear x1 x2 f2 hy0 hy1 hy2 E9 G9 K9 hG hK HA HB HC
          refine last.final (o := { dst := none, op := Op.store 3 (Operand.tmp 37) (Operand.tmp 36), type := 0, pos := "l11_three.go:122", after := #[{ on := 11, ground := Ground.data }, { on := 10, ground := Ground.data }, { on := 10, ground := Ground.chain }, { on := 0, ground := Ground.phase }, { on := 1, ground := Ground.phase }, { on := 2, ground := Ground.phase }, { on := 3, ground := Ground.phase }, { on := 4, ground := Ground.phase }, { on := 5, ground := Ground.phase }, { on := 6, ground := Ground.phase }, { on := 7, ground := Ground.phase }, { on := 8, ground := Ground.phase }, { on := 9, ground := Ground.phase }, { on := 10, ground := Ground.phase }], guard := none }) (by kernel_rfl) rfl (fun K hK => ?_)
          go_simp
          refine hK.out _ _ ?_
          clear hK K
          try simp only [Act.put, List.setIfInBounds_toArray, List.set_cons_zero, List.set_cons_succ]
          refine last.done (by kernel_rfl) ?_ _
          generalize y2.setCell ⟨gt q, c, none⟩ (.int .i64 (N q c)) = w5 at *
          go_wp2_with fail
          go_roundw
          case rel => exact ⟨c + 1, by omega, by go_num, G10, K10⟩
          case measure => simp [intOf]; omega
        · have hcz : ¬ (c : Int) < 8 := by omega
          obtain rfl : c = 8 := by omega
          go_wp2_with fail
          go_roundw
          case rel => exact ⟨q + 1, by omega, by go_num, gt, Lib.hid (hG.out.congr (fun i j _ hj ho => Fq_next N q i j hj (by simpa [up] using ho))), hK⟩
          case measure => simp [intOf]; omega
    · have hqz : ¬ (q : Int) < 8 := by omega
      obtain rfl : q = 8 := by omega
      have HO := Lib.hid (hG.out.done (fun i hi => by simpa [up] using hi))
      rw [rows8_congr (fun i j hi _ => Fq_all N i j hi)] at HO
      have HB := Lib.hid hG.out.below
      obtain ⟨r0, r1, rl⟩ := two_cells hK.out
      have rf : ∀ k, wo.frozen? ⟨w.heap.size, k, none⟩ = false := fun k => Joins.unfrozen_of_block hK.out k
      clear hG
      go_wp2_with fail
      refine bodyPost_ret (v := .agg #[.int .i64 wh, .slice (some ⟨w.heap.size + 1, 0, none⟩) 8 8]) (by simp [results, Try.results71, go_sem, r0, r1]) rfl ⟨_, rfl, ?_, ?_⟩
      · have hw : Wrote (fun p => p.block = w.heap.size) wo ((wo.setCell ⟨w.heap.size, 0, none⟩ (.int .i64 wh)).setCell ⟨w.heap.size, 1, none⟩ (.slice (some ⟨w.heap.size + 1, 0, none⟩) 8 8)) := Wrote.setCell (S := fun p => p.block = w.heap.size) (Wrote.setCell (S := fun p => p.block = w.heap.size) (Wrote.refl _ _) rfl _) rfl _
        exact (HO.out.wrote hw (fun p hp => .inl (by have e : p.block = w.heap.size := hp; omega))).mono (by omega) (by simp [World.setCell])
      · exact Below.setCell (Below.setCell HB.out (Nat.le_refl _) _) (Nat.le_refl _) _
set_option maxHeartbeats 4000000 in
theorem closure (p0 : Nat) (v : Value) (xs : List Int) (q k : Nat) (w : World) (hq : q < 8) (hk : k < 8) (hp : w.cell? ⟨p0, 0, none⟩ = some v) (h : Ints w v xs) (hl : xs.length = 8) :
    Calls Try.prog 72 #[.agg #[.int .i64 ((q : Int) / 4 % 2), .int .i64 ((q : Int) / 2 % 2), .int .i64 ((q : Int) % 2)], .agg #[.int .i64 ((k : Int) / 4 % 2), .int .i64 ((k : Int) / 2 % 2), .int .i64 ((k : Int) % 2)], .pointer (some ⟨p0, 0, none⟩)] w fun e w' => e = .returned (.int .i64 (NS xs q k)) ∧ Below w.heap.size w w' := by
  obtain ⟨A, b, o, cap, rfl, hcap, hmax, hA, hc⟩ := h.form
  rw [hl] at hp
  obtain rfl := hA (by omega)
  have x1 := hc q (by omega)
  have ex : xs[q]'(by omega) = od xs q := by unfold od; rw [trn.getD_at (by omega)]
  rw [ex] at x1
  have hqz : (q : Int) < 8 := by omega
  have HP := Lib.hid (fun W => parity_z k hk W)
  have HQ := Lib.hid (fun W => place_z q hq W)
  clear hc hA h hmax hcap hl ex
  obtain ⟨W0, hW0⟩ : ∃ W, W = (w.alloc (.cells #[.int .i64 ((q : Int) / 4 % 2), .int .i64 ((q : Int) / 2 % 2), .int .i64 ((q : Int) % 2)] 76)).alloc (.cells #[.int .i64 ((k : Int) / 4 % 2), .int .i64 ((k : Int) / 2 % 2), .int .i64 ((k : Int) % 2)] 76) := ⟨_, rfl⟩
  have Kq : Hid (Blk W0 w.heap.size 76 #[.int .i64 ((q : Int) / 4 % 2), .int .i64 ((q : Int) / 2 % 2), .int .i64 ((q : Int) % 2)]) := Lib.hid (by rw [hW0]; exact (Blk.new _ _ _).alloc _)
  have Kk : Hid (Blk W0 (w.heap.size + 1) 76 #[.int .i64 ((k : Int) / 4 % 2), .int .i64 ((k : Int) / 2 % 2), .int .i64 ((k : Int) % 2)]) := Lib.hid (by
    rw [hW0]
    have := Blk.new (w.alloc (.cells #[.int .i64 ((q : Int) / 4 % 2), .int .i64 ((q : Int) / 2 % 2), .int .i64 ((q : Int) % 2)] 76)) 76 #[.int .i64 ((k : Int) / 4 % 2), .int .i64 ((k : Int) / 2 % 2), .int .i64 ((k : Int) % 2)]
    simpa using this)
  have B0 : Hid (Below w.heap.size w W0) := Lib.hid (by rw [hW0]; exact below_al (below_al (Below.refl _ _) _) _)
  have HX := Lib.hid (And.intro (below_cell B0.out _ _ hp) (below_cell B0.out _ _ x1))
  clear hp x1
  by_cases he : (par k : Int) = od xs q
  all_goals
    first
      | have de : ((par k : Int) == od xs q) = true := by simp [he]
        have hN : NS xs q k = 1 := by simp [NS, he]
      | have de : ((par k : Int) == od xs q) = false := by simp [he]
        have hN : NS xs q k = 0 := by simp [NS, he]
    rw [hN]
    generalize (par k : Int) = pk at *
    generalize od xs q = oq at *
    clear he
    go_enter Try.func72, Try.ntmps72
    go_wp2_with fail
    rw [← hW0]
    clear hW0
    obtain ⟨q0, q1, q2, _⟩ := three_cells Kq.out
    obtain ⟨k0, k1, k2, _⟩ := three_cells Kk.out
    obtain ⟨x0, x1⟩ := HX.out
    go_region_held3 (fun w' => w'.cell? ⟨w.heap.size, 0, none⟩ = some (.int .i64 ((q : Int) / 4 % 2)) ∧ w'.cell? ⟨w.heap.size, 1, none⟩ = some (.int .i64 ((q : Int) / 2 % 2)) ∧ w'.cell? ⟨w.heap.size, 2, none⟩ = some (.int .i64 ((q : Int) % 2)) ∧ w'.cell? ⟨w.heap.size + 1, 0, none⟩ = some (.int .i64 ((k : Int) / 4 % 2)) ∧ w'.cell? ⟨w.heap.size + 1, 1, none⟩ = some (.int .i64 ((k : Int) / 2 % 2)) ∧ w'.cell? ⟨w.heap.size + 1, 2, none⟩ = some (.int .i64 ((k : Int) % 2)) ∧ w'.cell? ⟨p0, 0, none⟩ = some (.slice (some ⟨b, o, none⟩) 8 cap) ∧ w'.cell? ⟨b, o + q, none⟩ = some (.int .i64 oq) ∧ Below W0.heap.size W0 w')
      ((refine hld.held8 rfl q0 q1 q2 k0 k1 k2 x0 x1 ?_; repeat (first | (with_reducible exact Below.refl _ _) | (with_reducible refine below_dr ?_) | (with_reducible refine below_tr ?_ (by assumption)))))
      (first | (go_at_call 73; (with_reducible refine (HP.out _).mono ?_); rintro e w1 ⟨rfl, hb1⟩) | (go_at_call 74; (with_reducible refine (HQ.out _).mono ?_); rintro e w2 ⟨rfl, hb2⟩))
    go_wp2_with fail
    go_ret
    refine ⟨rfl, below_tr B0.out ?_⟩
    repeat (first | (with_reducible exact Below.refl _ _) | (with_reducible refine below_dr ?_) | (with_reducible refine below_tr ?_ (by assumption)))


set_option maxHeartbeats 4000000 in
theorem impl_any (v : Value) (xs : List Int) (w : World) (h : Ints w v xs) :
    Calls Try.prog 32 #[v] w fun e w' => ∃ u, e = .returned (.tuple #[.agg #[.int .i64 (resU xs).wh, u], .bool (resU xs).ok]) ∧ OwnRows w' w.heap.size w'.heap.size u (resU xs).rows ∧ Below w.heap.size w w' := by
  obtain ⟨va, vn, vc, rfl⟩ := h.shape
  obtain ⟨W0, hW0⟩ : ∃ W, W = (w.alloc (.cells #[.slice va vn vc] 33)).alloc (.cells #[.int .i64 0, .slice none 0 0] 27) := ⟨_, rfl⟩
  have Ko : Hid (Blk W0 w.heap.size 33 #[.slice va vn vc]) := Lib.hid (by rw [hW0]; exact (Blk.new _ _ _).alloc _)
  have Kr : Hid (Blk W0 (w.heap.size + 1) 27 #[.int .i64 0, .slice none 0 0]) := Lib.hid (by
    rw [hW0]
    have := Blk.new (w.alloc (.cells #[.slice va vn vc] 33)) 27 #[.int .i64 0, .slice none 0 0]
    simpa using this)
  have B0 : Hid (Below w.heap.size w W0) := Lib.hid (by rw [hW0]; exact below_al (below_al (Below.refl _ _) _) _)
  have HI := Lib.hid (h.below B0.out)
  have HBT := play.impl_bits _ xs 8 W0 HI.out
  obtain ⟨r0, r1, rl⟩ := two_cells Kr.out
  have rf : ∀ k, W0.frozen? ⟨w.heap.size + 1, k, none⟩ = false := fun k => Joins.unfrozen_of_block Kr.out k
  have o0 : W0.cell? ⟨w.heap.size, 0, none⟩ = some (.slice va vn vc) := by have := Joins.cell_of_block Ko.out 0; rw [this]; rfl
  have O0 := Lib.hid o0
  rw [hW0] at o0
  clear h
  by_cases hok : within 8 0 1 xs
  · rw [withinB_yes hok] at HBT
    rw [resU_yes hok]
    have HB' := Lib.hid HBT
    have hl : xs.length = 8 := by have := hok.1; omega
    have HM := Lib.hid (makes w.heap.size 4 (NS xs) W0 (fun q c W hq hc hW => closure w.heap.size _ xs q c W hq hc (below_cell hW _ _ O0.out) (HI.out.below hW) hl))
    clear HBT hok hl
    go_enter Try.func32, Try.ntmps32
    go_wp2_with fail
    rw [← hW0]
    rw [← hW0] at o0
    clear hW0
    refine HB'.out.mono ?_
    rintro e w' ⟨rfl, rfl⟩
    clear r0 r1 rl rf o0
    go_wp2_with fail
    refine HM.out.mono ?_
    rintro e w1 ⟨u, rfl, hu, hb⟩
    obtain ⟨ua, un, uc, rfl⟩ := hu.rows.shape
    have K1 := Lib.hid (Kr.out.below hb)
    have U1 := Lib.hid hu
    have B1 := Lib.hid (below_tr B0.out hb)
    have Z1 : Hid (w.heap.size + 1 < W0.heap.size) := Lib.hid Kr.out.lt
    obtain ⟨r0, r1, rl⟩ := two_cells K1.out
    have rf : ∀ k, w1.frozen? ⟨w.heap.size + 1, k, none⟩ = false := fun k => Joins.unfrozen_of_block K1.out k
    clear hu hb HM
    go_wp2_with fail
    refine bodyPost_ret (v := .tuple #[.agg #[.int .i64 4, .slice ua un uc], .bool true]) (by simp [results, Try.results32, go_sem, r0, r1]) rfl ⟨_, rfl, ?_, ?_⟩
    · have hw : Wrote (fun p => p.block = w.heap.size + 1) w1 ((w1.setCell ⟨w.heap.size + 1, 0, none⟩ (.int .i64 4)).setCell ⟨w.heap.size + 1, 1, none⟩ (.slice ua un uc)) := Wrote.setCell (S := fun p => p.block = w.heap.size + 1) (Wrote.setCell (S := fun p => p.block = w.heap.size + 1) (Wrote.refl _ _) rfl _) rfl _
      exact (U1.out.wrote hw (fun p hp => .inl (by have e : p.block = w.heap.size + 1 := hp; have := Z1.out; omega))).mono (by have := Z1.out; omega) (by simp [World.setCell])
    · exact Below.setCell (Below.setCell B1.out (show w.heap.size ≤ w.heap.size + 1 by omega) _) (show w.heap.size ≤ w.heap.size + 1 by omega) _
  · rw [withinB_no hok] at HBT
    rw [resU_no hok]
    have HB' := Lib.hid HBT
    clear HBT hok
    go_enter Try.func32, Try.ntmps32
    go_wp2_with fail
    rw [← hW0]
    rw [← hW0] at o0
    clear hW0
    refine HB'.out.mono ?_
    rintro e w' ⟨rfl, rfl⟩
    go_wp2_with fail
    refine bodyPost_ret (v := .tuple #[.agg #[.int .i64 0, .slice none 0 0], .bool false]) (by simp [results, Try.results32, go_sem, r0, r1]) rfl ⟨_, rfl, OwnRows.nil _ _ _, ?_⟩
    exact Below.setCell (Below.setCell B0.out (show w.heap.size ≤ w.heap.size + 1 by omega) _) (show w.heap.size ≤ w.heap.size + 1 by omega) _

/-! ### the model -/
def row1 (N : Nat → Nat → Int) (q k i : Nat) : Int := if i < k then N q i else 0
theorem row1_set {N : Nat → Nat → Int} {q k i : Nat} : (if i = k then N q k else row1 N q k i) = row1 N q (k + 1) i := by
  unfold row1
  by_cases e : i = k
  · subst e; simp
  · have : (i < k) = (i < k + 1) := by apply propext; omega
    simp [e, this]
theorem row1_skip {N : Nat → Nat → Int} {q k i : Nat} (h : N q k = 0) : row1 N q k i = row1 N q (k + 1) i := by
  rw [← row1_set]
  by_cases e : i = k
  · subst e; simp [row1, h]
  · simp [e]
theorem row1_all {N : Nat → Nat → Int} {q i : Nat} (hi : i < 8) : row1 N q 8 i = N q i := by simp [row1, hi]
set_option maxHeartbeats 8000000 in
theorem l11sums (v : Value) (xs : List Int) (w : World) (h : Ints w v xs) (hl : xs.length = 8) :
    Calls Try.prog 70 #[v] w fun e w' => ∃ u, e = .returned (.agg #[.int .i64 4, u]) ∧ OwnRows w' w.heap.size w'.heap.size u (rows8 (NS xs)) ∧ Below w.heap.size w w' := by
  obtain ⟨i0, hi, hz0, hz1, hz2⟩ := info_parts infoInts
  have hmk : ∀ W : World, (Instr.makeSlice 33 (.int .i64 8) (.int .i64 8)).run Try.prog W = .ok (.slice (some ⟨W.heap.size, 0, none⟩) 8 8) (W.alloc (.cells (madeCells #[.int .i64 0] 8) 3)) := fun W => by kernel_rfl
  obtain ⟨A, b, o, cap, rfl, hcap, hmax, hA, hc⟩ := h.form
  rw [hl]
  obtain rfl := hA (by omega)
  have HC := Lib.hid (fun (q : Nat) (hq : q < 8) => (show w.cell? ⟨b, o + q, none⟩ = some (.int .i64 (od xs q)) from by
    have := hc q (by omega)
    unfold od; rw [this, trn.getD_at (by omega)]))
  clear h hcap hmax hA hc hl
  obtain ⟨W0, hW0⟩ : ∃ W, W = (((w.alloc (.cells #[.int .i64 0, .slice none 0 0] 27)).alloc (.cells #[] 33)).alloc (.cells #[.int .i64 4, .slice (some ⟨w.heap.size + 1, 0, none⟩) 0 0] 27)) := ⟨_, rfl⟩
  have HW0 : Hid (twy.Way w W0 (w.heap.size + 1 + 1) 4 0 (.slice (some ⟨w.heap.size + 1, 0, none⟩) 0 0) [] (NS xs)) := Lib.hid (by
    rw [hW0]
    refine ⟨below_al (below_al (below_al (Below.refl _ _) _) _) _, by omega, ?_, ?_, ?_, fun r u hu => by simp at hu, fun r s g g' _ hu => by simp at hu⟩
    · have := Blk.new ((w.alloc (.cells #[.int .i64 0, .slice none 0 0] 27)).alloc (.cells #[] 33)) 27 #[.int .i64 4, .slice (some ⟨w.heap.size + 1, 0, none⟩) 0 0]
      simpa using this
    · exact ((Blk.new w 27 #[.int .i64 0, .slice none 0 0]).alloc _).alloc _
    · have := World.ownsRow_made (base := w.heap.size + 1) (e := 33) (size := 1) (w.alloc (.cells #[.int .i64 0, .slice none 0 0] 27)) #[] 0 (by simp) (Nat.zero_le _) rfl
      have := this.alloc (.cells #[.int .i64 4, .slice (some ⟨w.heap.size + 1, 0, none⟩) 0 0] 27)
      simpa using this)
  go_enter Try.func70, Try.ntmps70
  go_wp2_with fail
  rw [← hW0]
  clear hW0
  go_loopw [4] (fun i wr => ∃ q : Nat, q ≤ 8 ∧ i = .int .i64 q ∧ ∃ v vals, Hid (twy.Way w wr (w.heap.size + 1 + 1) 4 q v vals (NS xs))) (fun i _ => 8 - (intOf i).toNat)
  case atStart => exact ⟨0, Nat.zero_le _, rfl, _, _, HW0⟩
  case round =>
    obtain ⟨q, hq, rfl, v, vals, hW⟩ := hrel
    clear HW0
    obtain ⟨wo, rfl⟩ : ∃ wo : World, wo = wr := ⟨_, rfl⟩
    by_cases hlt : q < 8
    · have hqz : (q : Int) < 8 := by omega
      have H1 : Hid (Below wo.heap.size wo (wo.alloc (.cells (madeCells #[.int .i64 0] 8) 3))) := Lib.hid (below_al (Below.refl _ _) _)
      have R1 : Hid ((wo.alloc (.cells (madeCells #[.int .i64 0] 8) 3)).rowIs wo.heap.size 3 8 (fun i => .int .i64 (row1 (NS xs) q 0 i))) := Lib.hid ((World.rowIs_made wo (.int .i64 0) 8 3).congr (fun i _ => by simp [row1]))
      go_wp2_with fail
      generalize (wo.alloc (.cells (madeCells #[.int .i64 0] 8) 3)) = W1 at *
      go_loopw [6] (fun i wi => ∃ k : Nat, k ≤ 8 ∧ i = .int .i64 k ∧ Hid (Below wo.heap.size wo wi) ∧ Hid (wi.rowIs wo.heap.size 3 8 (fun i => .int .i64 (row1 (NS xs) q k i)))) (fun i _ => 8 - (intOf i).toNat)
      case atStart => exact ⟨0, by omega, rfl, H1, R1⟩
      case round =>
        obtain ⟨k, hk, rfl, hB, hR⟩ := hrel
        clear H1 R1
        obtain ⟨wi, rfl⟩ : ∃ wo : World, wo = wr := ⟨_, rfl⟩
        by_cases hlk : k < 8
        · have hkz : (k : Int) < 8 := by omega
          have x1 := below_cell (below_tr hW.out.below hB.out) _ _ (HC.out q hlt)
          have HP := Lib.hid (fun W => tra.spar k hlk W)
          have r1 := hR.out.cell hlk
          have rf := hR.out.frozen k
          have e0 : row1 (NS xs) q k k = 0 := by simp [row1]
          simp only [e0] at r1
          by_cases he : (par k : Int) = od xs q
          · have de : ((par k : Int) == od xs q) = true := by simp [he]
            have en : NS xs q k = 1 := by simp [NS, he]
            have R2 := Lib.hid ((hR.out.drew.set k (.int .i64 1)).congr (g := fun i => .int .i64 (row1 (NS xs) q (k + 1) i)) (fun i _ => by
              rw [← row1_set, en]
              by_cases e : i = k <;> simp [e]))
            have B2 := Lib.hid (Below.setCell hB.out.drew (show wo.heap.size ≤ (⟨wo.heap.size, k, none⟩ : Addr).block from Nat.le_refl _) (.int .i64 1))
            generalize (par k : Int) = pk at *
            generalize od xs q = oq at *
            clear he en e0 hB hR
            have r1d : wi.drew.cell? ⟨wo.heap.size, k, none⟩ = _ := r1
            have rfd : wi.drew.frozen? ⟨wo.heap.size, k, none⟩ = _ := rf
            go_wp2_with fail
            go_region_held3 (fun w' => w'.cell? ⟨b, o + q, none⟩ = some (.int .i64 oq) ∧ Below wi.heap.size wi w')
              ((refine ⟨below_cell ?_ _ _ x1, ?_⟩; all_goals (repeat (first | (with_reducible exact Below.refl _ _) | (with_reducible refine below_dr ?_) | (with_reducible refine below_tr ?_ (by assumption))))))
              (first | (go_at_call 86; (with_reducible refine (HP.out _).mono ?_); rintro e w8 ⟨rfl, rfl⟩))
            go_wp2_with fail
            go_roundw
            case rel => exact ⟨k + 1, by omega, by go_num, B2, R2⟩
            case measure => simp [intOf]; omega
          · have de : ((par k : Int) == od xs q) = false := by simp [he]
            have en : NS xs q k = 0 := by simp [NS, he]
            have R2 := Lib.hid (hR.out.congr (g := fun i => .int .i64 (row1 (NS xs) q (k + 1) i)) (fun i _ => by simp only [row1_skip en]))
            generalize (par k : Int) = pk at *
            generalize od xs q = oq at *
            clear he en e0 hR r1 rf
            go_wp2_with fail
            go_region_held3 (fun w' => w'.cell? ⟨b, o + q, none⟩ = some (.int .i64 oq) ∧ Below wi.heap.size wi w')
              ((refine ⟨below_cell ?_ _ _ x1, ?_⟩; all_goals (repeat (first | (with_reducible exact Below.refl _ _) | (with_reducible refine below_dr ?_) | (with_reducible refine below_tr ?_ (by assumption))))))
              (first | (go_at_call 86; (with_reducible refine (HP.out _).mono ?_); rintro e w8 ⟨rfl, rfl⟩))
            go_wp2_with fail
            go_roundw
            case rel => exact ⟨k + 1, by omega, by go_num, Lib.hid hB.out.drew, Lib.hid R2.out.drew⟩
            case measure => simp [intOf]; omega
        · have hkz : ¬ (k : Int) < 8 := by omega
          obtain rfl : k = 8 := by omega
          have HR := Lib.hid (hR.out.congr (g := fun i => .int .i64 (NS xs q i)) (fun i hi => by simp only [row1_all hi]))
          have HW := Lib.hid (hW.out.keep hB.out)
          have HF0 : Hid (∀ (r g' : Nat), vals[r]? = some (Value.slice (some ⟨g', 0, none⟩) 8 8) → g' ≠ wo.heap.size) := Lib.hid (fun r g' hu => by
            obtain ⟨g, e, _, hr⟩ := hW.out.row r _ hu
            injection e with e; injection e with e; injection e with e
            have := hr.lt; omega)
          have HZ : Hid (w.heap.size + 1 + 1 < wo.heap.size) := Lib.hid hW.out.blk.lt
          have hzz := HZ.out
          clear hR hB hW
          obtain ⟨c0, c1, c2⟩ := two_cells HW.out.blk
          have hszW := HW.out.below.size
          have c1' := fun (o1 : Obj) => below_cell (below_al (Below.refl _ _) o1) _ _ c1
          have HFR : Hid (∀ (r g' : Nat), vals[r]? = some (Value.slice (some ⟨g', 0, none⟩) 8 8) → g' ≠ wo.heap.size) := HF0
          go_wp2_with (at_builtin; go_must (refine wpList_append_own _ rfl (.tmp 29) (.tmp 31) 22 rfl (w.heap.size + 1) 33 i0 (.slice none 0 0) 1 24 Try.underlying22 hi hz0 hz1 hz2 rfl (by decide) _ _ _ rfl (HW.out.owns.alloc _) ⟨wi.heap.size, 0, none⟩ 1 1 [.slice (some ⟨wo.heap.size, 0, none⟩) 8 8] rfl rfl ?c1 ?c2 ?c3 ?c4 ?c5 ?_))
          try (case c1 => first | exact app.one_at _ _ _ | (have := app.one_at wi (.slice (some ⟨wo.heap.size, 0, none⟩) 8 8) 33; simpa using this))
          case c2 => first | rfl | (intro u hu; simp at hu; subst hu; rfl)
          case c3 => unfold maxLen; omega
          case c4 => omega
          try (case c5 => first | omega | (simp; omega))
          intro v' w3 hown' hgrow _
          have HG := Lib.hid (HW.out.keep (below_al (Below.refl _ _) (.cells #[.slice (some ⟨wo.heap.size, 0, none⟩) 8 8] 33)))
          have HRR := Lib.hid (HR.out.alloc (.cells #[.slice (some ⟨wo.heap.size, 0, none⟩) 8 8] 33))
          obtain ⟨f1, f2⟩ := HG.out.field hgrow
          have W4 := Lib.hid (HG.out.grow HRR.out (by have := HZ.out; omega) HFR.out hown' hgrow)
          obtain ⟨va', vl', vc', rfl⟩ := make.shape hown'
          clear hown' hgrow HG HRR HFR c0 c1 c2 c1'
          go_wp2_with fail
          go_roundw
          case rel => exact ⟨q + 1, by omega, by go_num, _, _, W4⟩
          case measure => simp [intOf]; omega
    · have hqz : ¬ (q : Int) < 8 := by omega
      obtain rfl : q = 8 := by omega
      obtain ⟨va', vl', vc', rfl⟩ := make.shape hW.out.owns
      obtain ⟨c0, c1, c2⟩ := two_cells hW.out.blk
      obtain ⟨r0, r1, r2⟩ := two_cells hW.out.res
      have rf : ∀ k, wo.frozen? ⟨w.heap.size, k, none⟩ = false := fun k => Joins.unfrozen_of_block hW.out.res k
      have U1 := Lib.hid hW.out.done
      have B1 := Lib.hid hW.out.below
      go_wp2_with fail
      refine bodyPost_ret (v := .agg #[.int .i64 4, .slice va' vl' vc']) (by simp [results, Try.results70, go_sem, r0, r1]) rfl ⟨_, rfl, ?_, ?_⟩
      · have hw : Wrote (fun p => p.block = w.heap.size) wo ((wo.setCell ⟨w.heap.size, 0, none⟩ (.int .i64 4)).setCell ⟨w.heap.size, 1, none⟩ (.slice va' vl' vc')) := Wrote.setCell (S := fun p => p.block = w.heap.size) (Wrote.setCell (S := fun p => p.block = w.heap.size) (Wrote.refl _ _) rfl _) rfl _
        exact (U1.out.wrote hw (fun p hp => .inl (by have e : p.block = w.heap.size := hp; omega))).mono (by omega) (by simp [World.setCell])
      · exact Below.setCell (Below.setCell B1.out (Nat.le_refl _) _) (Nat.le_refl _) _

set_option maxHeartbeats 4000000 in
theorem spec_any (v : Value) (xs : List Int) (w : World) (h : Ints w v xs) :
    Calls Try.prog 31 #[v] w fun e w' => ∃ u, e = .returned (.tuple #[.agg #[.int .i64 (resU xs).wh, u], .bool (resU xs).ok]) ∧ IRows w' u (resU xs).rows ∧ Below w.heap.size w w' := by
  obtain ⟨va, vn, vc, rfl⟩ := h.shape
  obtain ⟨W0, hW0⟩ : ∃ W, W = w.alloc (.cells #[.int .i64 0, .slice none 0 0] 27) := ⟨_, rfl⟩
  have Kr : Hid (Blk W0 w.heap.size 27 #[.int .i64 0, .slice none 0 0]) := Lib.hid (by rw [hW0]; exact Blk.new _ _ _)
  have B0 : Hid (Below w.heap.size w W0) := Lib.hid (by rw [hW0]; exact below_al (Below.refl _ _) _)
  have HI := Lib.hid (h.below B0.out)
  have HBT := play.spec_bits _ xs 8 W0 HI.out
  obtain ⟨r0, r1, rl⟩ := two_cells Kr.out
  have rf : ∀ k, W0.frozen? ⟨w.heap.size, k, none⟩ = false := fun k => Joins.unfrozen_of_block Kr.out k
  clear h
  by_cases hok : within 8 0 1 xs
  · rw [withinB_yes hok] at HBT
    rw [resU_yes hok]
    have HB' := Lib.hid HBT
    have hl : xs.length = 8 := by have := hok.1; omega
    have HM := Lib.hid (l11sums _ xs W0 HI.out hl)
    clear HBT hok hl
    go_enter Try.func31, Try.ntmps31
    go_wp2_with fail
    rw [← hW0]
    clear hW0
    refine HB'.out.mono ?_
    rintro e w' ⟨rfl, rfl⟩
    clear r0 r1 rl rf
    go_wp2_with fail
    refine HM.out.mono ?_
    rintro e w1 ⟨u, rfl, hu, hb⟩
    obtain ⟨ua, un, uc, rfl⟩ := hu.rows.shape
    have K1 := Lib.hid (Kr.out.below hb)
    have U1 := Lib.hid hu
    have B1 := Lib.hid (below_tr B0.out hb)
    have Z1 : Hid (w.heap.size < W0.heap.size) := Lib.hid Kr.out.lt
    obtain ⟨r0, r1, rl⟩ := two_cells K1.out
    have rf : ∀ k, w1.frozen? ⟨w.heap.size, k, none⟩ = false := fun k => Joins.unfrozen_of_block K1.out k
    clear hu hb HM
    go_wp2_with fail
    refine bodyPost_ret (v := .tuple #[.agg #[.int .i64 4, .slice ua un uc], .bool true]) (by simp [results, Try.results31, go_sem, r0, r1]) rfl ⟨_, rfl, ?_, ?_⟩
    · have hw : Wrote (fun p => p.block = w.heap.size) w1 ((w1.setCell ⟨w.heap.size, 0, none⟩ (.int .i64 4)).setCell ⟨w.heap.size, 1, none⟩ (.slice ua un uc)) := Wrote.setCell (S := fun p => p.block = w.heap.size) (Wrote.setCell (S := fun p => p.block = w.heap.size) (Wrote.refl _ _) rfl _) rfl _
      exact (U1.out.wrote hw (fun p hp => .inl (by have e : p.block = w.heap.size := hp; have := Z1.out; omega))).rows
    · exact Below.setCell (Below.setCell B1.out (Nat.le_refl _) _) (Nat.le_refl _) _
  · rw [withinB_no hok] at HBT
    rw [resU_no hok]
    have HB' := Lib.hid HBT
    clear HBT hok
    go_enter Try.func31, Try.ntmps31
    go_wp2_with fail
    rw [← hW0]
    clear hW0
    refine HB'.out.mono ?_
    rintro e w' ⟨rfl, rfl⟩
    go_wp2_with fail
    refine bodyPost_ret (v := .tuple #[.agg #[.int .i64 0, .slice none 0 0], .bool false]) (by simp [results, Try.results31, go_sem, r0, r1]) rfl ⟨_, rfl, IRows.nil _, ?_⟩
    exact Below.setCell (Below.setCell B0.out (Nat.le_refl _) _) (Nat.le_refl _) _

end Go.Proofs.Ytomofmmecpdalaa.tsu
