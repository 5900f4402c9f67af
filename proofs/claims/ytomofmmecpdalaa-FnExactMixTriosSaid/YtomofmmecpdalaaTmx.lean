/- MixTrios: both sides. -/
import Derived.Test.YtomofmmecpdalaaGrd
import Derived.Test.YtomofmmecpdalaaTbl
import Derived.Test.YtomofmmecpdalaaTvk
import Derived.Test.YtomofmmecpdalaaLast
import Derived.Test.YtomofmmecpdalaaStep
namespace Go.Proofs.Ytomofmmecpdalaa.tmx
open Go.RowKit Go.Deep Go.Proofs.Ytomofmmecpdalaa.base
open Go.Proofs.Ytomofmmecpdalaa.ints (infoInt infoInts)
open Go.Proofs.Ytomofmmecpdalaa.rws (total)
open Go.Proofs.Ytomofmmecpdalaa.tri (two_cells)
open Go.Proofs.Ytomofmmecpdalaa.trb (three_cells)
open Go.Proofs.Ytomofmmecpdalaa.grd
open Go.Proofs.Ytomofmmecpdalaa.tvk (Res)
open Go.Proofs.Ytomofmmecpdalaa.trn (tc tc_in forms shape_of number_g)
open Go.Proofs.Ytomofmmecpdalaa.trv (okTrio trioB trioB_yes trioB_no)

def NM (xss yss : List (List Int)) (q k : Nat) : Int := tc xss q k + tc yss q k
def both (wh : Int) (xss : List (List Int)) (wh' : Int) (yss : List (List Int)) : Prop := okTrio wh xss ∧ okTrio wh' yss
open Classical in
noncomputable def resM (wh : Int) (xss : List (List Int)) (wh' : Int) (yss : List (List Int)) : Res := if both wh xss wh' yss ∧ okTrio (wh + wh') (rows8 (NM xss yss)) then ⟨wh + wh', rows8 (NM xss yss), true⟩ else Res.zero
theorem resM_yes {wh wh' : Int} {xss yss : List (List Int)} (h : both wh xss wh' yss ∧ okTrio (wh + wh') (rows8 (NM xss yss))) : resM wh xss wh' yss = ⟨wh + wh', rows8 (NM xss yss), true⟩ := if_pos h
theorem resM_no {wh wh' : Int} {xss yss : List (List Int)} (h : ¬ (both wh xss wh' yss ∧ okTrio (wh + wh') (rows8 (NM xss yss)))) : resM wh xss wh' yss = Res.zero := if_neg h
theorem tot_resM (wh : Int) (xss : List (List Int)) (wh' : Int) (yss : List (List Int)) : rws.total (resM wh xss wh' yss).rows ≤ 1048576 := by
  by_cases h : both wh xss wh' yss ∧ okTrio (wh + wh') (rows8 (NM xss yss))
  · rw [resM_yes h]; exact tot_rows8 _
  · rw [resM_no h]; simp [Res.zero, rws.total]
theorem nm_wrap {wh wh' : Int} {xss yss : List (List Int)} (h : both wh xss wh' yss) {q k : Nat} (hq : q < 8) (hk : k < 8) : IntKind.i64.wrap (tc xss q k + tc yss q k) = NM xss yss q k := by
  obtain ⟨a1, a2⟩ := tc_in h.1 hq hk
  obtain ⟨b1, b2⟩ := tc_in h.2 hq hk
  exact IntWalk.i64_in _ (by omega)

theorem held2f {B : Nat} {w w' : World} {p1 p2 : Addr} {u1 u2 : Value} (hB : B = w.heap.size) (h1 : w.cell? p1 = some u1) (h2 : w.cell? p2 = some u2) (hf : w.frozen? p2 = false) (hb : Below B w w') :
    w'.cell? p1 = some u1 ∧ w'.cell? p2 = some u2 ∧ w'.frozen? p2 = false ∧ Below B w w' := by
  subst hB
  exact ⟨below_cell hb _ _ h1, below_cell hb _ _ h2, (hb.frozen (World.block_lt_of_cell? _ _ h2)).trans hf, hb⟩
theorem at3z (k : Nat) (hk : k < 8) (w : World) : Calls Try.prog 80 #[.int .i64 (k : Int)] w fun e w' => e = .returned (.agg #[.int .i64 ((k : Int) / 4 % 2), .int .i64 ((k : Int) / 2 % 2), .int .i64 ((k : Int) % 2)]) ∧ Below w.heap.size w w' := by
  have := trb.at3 k hk w
  simpa [trb.tb, trb.b3] using this

set_option maxHeartbeats 8000000 in
theorem makes  (p0 p1 : Nat) (wh : Int) (N : Nat → Nat → Int) (w : World)
    (hnum : ∀ (q c : Nat) (W : World), q < 8 → c < 8 → Below w.heap.size w W → Calls Try.prog 77 #[.agg #[.int .i64 ((q : Int) / 4 % 2), .int .i64 ((q : Int) / 2 % 2), .int .i64 ((q : Int) % 2)], .agg #[.int .i64 ((c : Int) / 4 % 2), .int .i64 ((c : Int) / 2 % 2), .int .i64 ((c : Int) % 2)], .pointer (some ⟨p0, 0, none⟩), .pointer (some ⟨p1, 0, none⟩)] W fun e w' => e = .returned (.int .i64 (N q c)) ∧ Below W.heap.size W w') :
    Calls Try.prog 71 #[.int .i64 wh, .func (.func 77) #[] #[.pointer (some ⟨p0, 0, none⟩), .pointer (some ⟨p1, 0, none⟩)]] w fun e w' => ∃ u, e = .returned (.agg #[.int .i64 wh, u]) ∧ OwnRows w' w.heap.size w'.heap.size u (rows8 N) ∧ Below w.heap.size w w' := by
  have hmk : ∀ W : World, (Instr.makeSlice 33 (.int .i64 8) (.int .i64 8)).run Try.prog W = .ok (.slice (some ⟨W.heap.size, 0, none⟩) 8 8) (W.alloc (.cells (madeCells #[.int .i64 0] 8) 3)) := fun W => by kernel_rfl
  have hmr : ∀ W : World, (Instr.makeSlice 22 (.int .i64 8) (.int .i64 8)).run Try.prog W = .ok (.slice (some ⟨W.heap.size, 0, none⟩) 8 8) (W.alloc (.cells (madeCells #[.slice none 0 0] 8) 33)) := fun W => by kernel_rfl
  have HN := Lib.hid hnum
  clear hnum
  obtain ⟨W0, hW0⟩ : ∃ W, W = (w.alloc (.cells #[.int .i64 0, .slice none 0 0] 27)).alloc (.cells (madeCells #[.slice none 0 0] 8) 33) := ⟨_, rfl⟩
  have K0 : Hid (Blk W0 w.heap.size 27 #[.int .i64 0, .slice none 0 0]) := Lib.hid (by rw [hW0]; exact (Blk.new _ _ _).alloc _)
  have G0 : Hid (Grd w W0 (w.heap.size + 1) (up 0) (fun _ => 0) (Fq N 0 0)) := Lib.hid (by
    have hr : W0.rowIs (w.heap.size + 1) 33 8 (fun _ => .slice none 0 0) := by
      rw [hW0]
      have := World.rowIs_made (w.alloc (.cells #[.int .i64 0, .slice none 0 0] 27)) (.slice none 0 0) 8 33
      simpa using this
    refine ⟨by rw [hW0]; exact below_al (below_al (Below.refl _ _) _) _, by omega, hr.congr (fun i _ => by simp [outer, up]), fun i _ ho => by simp [up] at ho, fun i _ ho => by simp [up] at ho, fun i j _ _ ho => by simp [up] at ho⟩)
  go_enter Try.func71, Try.ntmps71
  go_wp2_with fail
  rw [← hW0]
  clear hW0 hmr
  go_loopw [11] (fun s wr => ∃ q : Nat, q ≤ 8 ∧ s = .int .i64 q ∧ ∃ gs, Hid (Grd w wr (w.heap.size + 1) (up q) gs (Fq N q 0)) ∧ Hid (Blk wr w.heap.size 27 #[.int .i64 0, .slice none 0 0])) (fun s _ => 8 - (intOf s).toNat)
  case atStart => exact ⟨0, by omega, rfl, _, G0, K0⟩
  case round =>
    obtain ⟨q, hq, rfl, gs, hG, hK⟩ := hrel
    clear G0 K0
    obtain ⟨wo, rfl⟩ : ∃ wo : World, wo = wr := ⟨_, rfl⟩
    by_cases hlt : q < 8
    · have hqz : (q : Int) < 8 := by omega
      have al := below_al (Below.refl wo.heap.size wo) (.cells (madeCells #[.int .i64 0] 8) 3)
      have G1 := hG.out.keep al
      have c1 := G1.out.cell hlt
      have f1 := G1.out.frozen q
      have eo : outer (up q) gs q = .slice none 0 0 := by simp [outer, up]
      rw [eo] at c1
      have G2 : Hid (Grd w ((wo.alloc (.cells (madeCells #[.int .i64 0] 8) 3)).setCell ⟨w.heap.size + 1, q, none⟩ (.slice (some ⟨wo.heap.size, 0, none⟩) 8 8)) (w.heap.size + 1) (up (q + 1)) (fun i => if i = q then wo.heap.size else gs i) (Fq N q 0)) := Lib.hid (by
        rw [← upd_up q]
        refine G1.put hlt (by simp [up]) ((World.rowIs_made wo (.int .i64 0) 8 3).congr (fun j _ => by simp only [Fq_zero])) hG.out.out.lt (fun i hi ho => ?_) (fun _ _ _ _ _ => rfl)
        have := (hG.out.row i hi ho).lt
        show gs i ≠ wo.heap.size
        omega)
      have K2 : Hid (Blk ((wo.alloc (.cells (madeCells #[.int .i64 0] 8) 3)).setCell ⟨w.heap.size + 1, q, none⟩ (.slice (some ⟨wo.heap.size, 0, none⟩) 8 8)) w.heap.size 27 #[.int .i64 0, .slice none 0 0]) := Lib.hid ((hK.out.alloc _).belowB (B := w.heap.size + 1) (Below.setCell (Below.refl _ _) (show w.heap.size + 1 ≤ (⟨w.heap.size + 1, q, none⟩ : Addr).block from Nat.le_refl _) _) (by omega))
      have c2 := G2.out.out.cell hlt
      have eo2 : outer (up (q + 1)) (fun i => if i = q then wo.heap.size else gs i) q = .slice (some ⟨wo.heap.size, 0, none⟩) 8 8 := by simp [outer, up]
      rw [eo2] at c2
      clear eo eo2 al G1 hG hK
      go_wp2_with fail
      generalize (wo.alloc (.cells (madeCells #[.int .i64 0] 8) 3)).setCell ⟨w.heap.size + 1, q, none⟩ (.slice (some ⟨wo.heap.size, 0, none⟩) 8 8) = W2 at *
      obtain ⟨gt, hgt⟩ : ∃ gt : Nat → Nat, gt = fun i => if i = q then wo.heap.size else gs i := ⟨_, rfl⟩
      have hgq : wo.heap.size = gt q := by rw [hgt]; simp
      rw [← hgt] at G2
      rw [hgq]
      rw [hgq] at c2
      clear c1 f1 hgt hgq
      go_loopw [23] (fun s wr => ∃ c : Nat, c ≤ 8 ∧ s = .int .i64 c ∧ Hid (Grd w wr (w.heap.size + 1) (up (q + 1)) gt (Fq N q c)) ∧ Hid (Blk wr w.heap.size 27 #[.int .i64 0, .slice none 0 0])) (fun s _ => 8 - (intOf s).toNat)
      case atStart => exact ⟨0, by omega, rfl, G2, K2⟩
      case round =>
        obtain ⟨c, hc, rfl, hG, hK⟩ := hrel
        clear G2 K2 c2
        obtain ⟨wj, rfl⟩ : ∃ wo : World, wo = wr := ⟨_, rfl⟩
        by_cases hlc : c < 8
        · have hcz : (c : Int) < 8 := by omega
          have hon : up (q + 1) q = true := by simp [up]
          have x1 := hG.out.out.cell hlt
          have eo : outer (up (q + 1)) gt q = .slice (some ⟨gt q, 0, none⟩) 8 8 := by simp [outer, hon]
          rw [eo] at x1
          have x2 := (hG.out.row q hlt hon).cell hlc
          have ez : Fq N q c q c = 0 := by simp [Fq]
          simp only [ez] at x2
          have f2 := (hG.out.row q hlt hon).frozen c
          have HA := Lib.hid (fun W => at3z q hlt W)
          have HB := Lib.hid (fun W => at3z c hlc W)
          have HC := Lib.hid (fun (W : World) (hW : Below wj.heap.size wj W) => HN.out q c W hlt hlc (below_tr hG.out.below hW))
          clear eo ez
          go_wp2_with fail
          refine last.start (S := fun w' => w'.cell? ⟨w.heap.size + 1, q, none⟩ = some (.slice (some ⟨gt q, 0, none⟩) 8 8) ∧ w'.cell? ⟨gt q, c, none⟩ = some (.int .i64 0) ∧ w'.frozen? ⟨gt q, c, none⟩ = false ∧ Below wj.heap.size wj w') (L := 12) (by kernel_rfl) ?_
          have hHeld := held2f rfl x1 x2 f2 (below_dr (Below.refl _ _))
          refine last.take (i := 0) (oi := { dst := some 26, op := Op.move (Operand.tmp 5), type := 22, pos := "l11_three.go:122", after := #[], guard := none }) (v := ?v0) rfl (by kernel_rfl) (by kernel_rfl) (by kernel_rfl) (by kernel_rfl) (by decide) (fun _ _ _ h => h) (Or.inl ⟨by rfl, ?y0⟩) hHeld ?r0
          case y0 => (intro w hSw; (try dsimp only at hSw); go_simp; try with_reducible rfl)
          try simp only [Act.put, List.setIfInBounds_toArray, List.set_cons_zero, List.set_cons_succ]
          refine last.take (i := 1) (oi := { dst := some 27, op := Op.move (Operand.tmp 6), type := 3, pos := "l11_three.go:122", after := #[], guard := none }) (v := ?v1) rfl (by kernel_rfl) (by kernel_rfl) (by kernel_rfl) (by kernel_rfl) (by decide) (fun _ _ _ h => h) (Or.inl ⟨by rfl, ?y1⟩) hHeld ?r1
          case y1 => (intro w hSw; (try dsimp only at hSw); go_simp; try with_reducible rfl)
          try simp only [Act.put, List.setIfInBounds_toArray, List.set_cons_zero, List.set_cons_succ]
          refine last.take (i := 2) (oi := { dst := some 28, op := Op.indexAddr 22 (Operand.tmp 26) (Operand.tmp 27), type := 0, pos := "l11_three.go:122", after := #[{ on := 0, ground := Ground.data }, { on := 1, ground := Ground.data }], guard := none }) (v := ?v2) rfl (by kernel_rfl) (by kernel_rfl) (by kernel_rfl) (by kernel_rfl) (by decide) (fun _ _ _ h => h) (Or.inl ⟨by rfl, ?y2⟩) hHeld ?r2
          case y2 => (intro w hSw; (try dsimp only at hSw); go_simp; try with_reducible rfl)
          try simp only [Act.put, List.setIfInBounds_toArray, List.set_cons_zero, List.set_cons_succ]
          refine last.take (i := 3) (oi := { dst := some 29, op := Op.load 33 (Operand.tmp 28), type := 33, pos := "l11_three.go:122", after := #[{ on := 2, ground := Ground.data }], guard := none }) (v := ?v3) rfl (by kernel_rfl) (by kernel_rfl) (by kernel_rfl) (by kernel_rfl) (by decide) (fun _ _ _ h => h) (Or.inl ⟨by rfl, ?y3⟩) hHeld ?r3
          case y3 => (intro w hSw; (try dsimp only at hSw); go_simp; try with_reducible rfl)
          try simp only [Act.put, List.setIfInBounds_toArray, List.set_cons_zero, List.set_cons_succ]
          refine last.take (i := 4) (oi := { dst := some 30, op := Op.move (Operand.tmp 7), type := 3, pos := "l11_three.go:122", after := #[], guard := none }) (v := ?v4) rfl (by kernel_rfl) (by kernel_rfl) (by kernel_rfl) (by kernel_rfl) (by decide) (fun _ _ _ h => h) (Or.inl ⟨by rfl, ?y4⟩) hHeld ?r4
          case y4 => (intro w hSw; (try dsimp only at hSw); go_simp; try with_reducible rfl)
          try simp only [Act.put, List.setIfInBounds_toArray, List.set_cons_zero, List.set_cons_succ]
          refine last.take (i := 5) (oi := { dst := some 31, op := Op.move (Operand.tmp 1), type := 78, pos := "l11_three.go:122", after := #[], guard := none }) (v := ?v5) rfl (by kernel_rfl) (by kernel_rfl) (by kernel_rfl) (by kernel_rfl) (by decide) (fun _ _ _ h => h) (Or.inl ⟨by rfl, ?y5⟩) hHeld ?r5
          case y5 => (intro w hSw; (try dsimp only at hSw); go_simp; try with_reducible rfl)
          try simp only [Act.put, List.setIfInBounds_toArray, List.set_cons_zero, List.set_cons_succ]
          refine last.take (i := 6) (oi := { dst := some 32, op := Op.move (Operand.tmp 6), type := 3, pos := "l11_three.go:122", after := #[], guard := none }) (v := ?v6) rfl (by kernel_rfl) (by kernel_rfl) (by kernel_rfl) (by kernel_rfl) (by decide) (fun _ _ _ h => h) (Or.inl ⟨by rfl, ?y6⟩) hHeld ?r6
          case y6 => (intro w hSw; (try dsimp only at hSw); go_simp; try with_reducible rfl)
          try simp only [Act.put, List.setIfInBounds_toArray, List.set_cons_zero, List.set_cons_succ]
          refine last.take (i := 8) (oi := { dst := some 34, op := Op.move (Operand.tmp 7), type := 3, pos := "l11_three.go:122", after := #[], guard := none }) (v := ?v8) rfl (by kernel_rfl) (by kernel_rfl) (by kernel_rfl) (by kernel_rfl) (by decide) (fun _ _ _ h => h) (Or.inl ⟨by rfl, ?y8⟩) hHeld ?r8
          case y8 => (intro w hSw; (try dsimp only at hSw); go_simp; try with_reducible rfl)
          try simp only [Act.put, List.setIfInBounds_toArray, List.set_cons_zero, List.set_cons_succ]
          refine last.one (i := 7) (o := { dst := some 33, op := Op.call { callee := Callee.value (Operand.func 80), args := #[Operand.tmp 32], argTypes := #[3] }, type := 76, pos := "l11_three.go:122", after := #[{ on := 6, ground := Ground.data }], guard := none }) (by kernel_rfl) rfl (fun K hK => ?_)
          go_simp
          (go_at_call 80; (with_reducible refine (HA.out _).mono ?_); rintro e y0 ⟨rfl, hy0⟩)
          refine hK.out _ _ ?s7 (fun hHeld => ?_)
          case s7 => (try dsimp only); (refine held2f rfl x1 x2 f2 ?_; repeat (first | (with_reducible exact Below.refl _ _) | (with_reducible refine below_dr ?_) | (with_reducible refine below_tr ?_ (by assumption))))
          clear hK K
          try simp only [Act.put, List.setIfInBounds_toArray, List.set_cons_zero, List.set_cons_succ]
          refine last.one (i := 9) (o := { dst := some 35, op := Op.call { callee := Callee.value (Operand.func 80), args := #[Operand.tmp 34], argTypes := #[3] }, type := 76, pos := "l11_three.go:122", after := #[{ on := 8, ground := Ground.data }, { on := 7, ground := Ground.chain }], guard := none }) (by kernel_rfl) rfl (fun K hK => ?_)
          go_simp
          (go_at_call 80; (with_reducible refine (HB.out _).mono ?_); rintro e y1 ⟨rfl, hy1⟩)
          refine hK.out _ _ ?s9 (fun hHeld => ?_)
          case s9 => (try dsimp only); (refine held2f rfl x1 x2 f2 ?_; repeat (first | (with_reducible exact Below.refl _ _) | (with_reducible refine below_dr ?_) | (with_reducible refine below_tr ?_ (by assumption))))
          clear hK K
          try simp only [Act.put, List.setIfInBounds_toArray, List.set_cons_zero, List.set_cons_succ]
          refine last.one (i := 10) (o := { dst := some 36, op := Op.call { callee := Callee.value (Operand.tmp 31), args := #[Operand.tmp 33, Operand.tmp 35], argTypes := #[76, 76] }, type := 3, pos := "l11_three.go:122", after := #[{ on := 5, ground := Ground.data }, { on := 7, ground := Ground.data }, { on := 9, ground := Ground.data }, { on := 9, ground := Ground.chain }], guard := none }) (by kernel_rfl) rfl (fun K hK => ?_)
          go_simp
          (go_at_call 77; (with_reducible refine (HC.out _ (by repeat (first | (with_reducible exact Below.refl _ _) | (with_reducible refine below_dr ?_) | (with_reducible refine below_tr ?_ (by assumption))))).mono ?_); rintro e y2 ⟨rfl, hy2⟩)
          refine hK.out _ _ ?s10 (fun hHeld => ?_)
          case s10 => (try dsimp only); (refine held2f rfl x1 x2 f2 ?_; repeat (first | (with_reducible exact Below.refl _ _) | (with_reducible refine below_dr ?_) | (with_reducible refine below_tr ?_ (by assumption))))
          clear hK K
          try simp only [Act.put, List.setIfInBounds_toArray, List.set_cons_zero, List.set_cons_succ]
          refine last.take (i := 11) (oi := { dst := some 37, op := Op.indexAddr 33 (Operand.tmp 29) (Operand.tmp 30), type := 0, pos := "l11_three.go:122", after := #[{ on := 3, ground := Ground.data }, { on := 4, ground := Ground.data }, { on := 0, ground := Ground.phase }, { on := 1, ground := Ground.phase }, { on := 2, ground := Ground.phase }, { on := 3, ground := Ground.phase }, { on := 4, ground := Ground.phase }, { on := 5, ground := Ground.phase }, { on := 6, ground := Ground.phase }, { on := 7, ground := Ground.phase }, { on := 8, ground := Ground.phase }, { on := 9, ground := Ground.phase }, { on := 10, ground := Ground.phase }], guard := none }) (v := ?v11) rfl (by kernel_rfl) (by kernel_rfl) (by kernel_rfl) (by kernel_rfl) (by decide) (fun _ _ _ h => h) (Or.inl ⟨by rfl, ?y11⟩) hHeld ?r11
          case y11 => (intro w hSw; (try dsimp only at hSw); go_simp; try with_reducible rfl)
          try simp only [Act.put, List.setIfInBounds_toArray, List.set_cons_zero, List.set_cons_succ]
          have E9 : Below wj.heap.size wj y2 := below_tr (below_tr (below_tr (below_dr (Below.refl _ _)) hy0) hy1) hy2
          have G9 := Lib.hid (hG.out.keep E9)
          have K9 := Lib.hid (hK.out.below E9)
          obtain ⟨_, q9, f9, _⟩ := hHeld
          have G10 := Lib.hid (G9.out.store hlt hon (N q c) (F' := Fq N q (c + 1)) (fun i j _ _ _ => Fq_step N q c i j))
          have K10 : Hid (Blk (y2.setCell ⟨gt q, c, none⟩ (.int .i64 (N q c))) w.heap.size 27 #[.int .i64 0, .slice none 0 0]) := Lib.hid (K9.out.belowB (B := w.heap.size + 1) (Below.setCell (Below.refl _ _) (show w.heap.size + 1 ≤ (⟨gt q, c, none⟩ : Addr).block from Nat.le_of_lt (G9.out.ge q hlt hon)) _) (by omega))
          clear x1 x2 f2 hy0 hy1 hy2 E9 G9 K9 hG hK HA HB HC
          refine last.final (o := { dst := none, op := Op.store 3 (Operand.tmp 37) (Operand.tmp 36), type := 0, pos := "l11_three.go:122", after := #[{ on := 11, ground := Ground.data }, { on := 10, ground := Ground.data }, { on := 10, ground := Ground.chain }, { on := 0, ground := Ground.phase }, { on := 1, ground := Ground.phase }, { on := 2, ground := Ground.phase }, { on := 3, ground := Ground.phase }, { on := 4, ground := Ground.phase }, { on := 5, ground := Ground.phase }, { on := 6, ground := Ground.phase }, { on := 7, ground := Ground.phase }, { on := 8, ground := Ground.phase }, { on := 9, ground := Ground.phase }, { on := 10, ground := Ground.phase }], guard := none }) (by kernel_rfl) rfl (fun K hK => ?_)
          go_simp
          refine hK.out _ _ ?_
          clear hK K
          try simp only [Act.put, List.setIfInBounds_toArray, List.set_cons_zero, List.set_cons_succ]
          refine last.done (by kernel_rfl) ?_ _
          generalize y2.setCell ⟨gt q, c, none⟩ (.int .i64 (N q c)) = w5 at *
          go_wp2_with fail
          go_roundw
          case rel => exact ⟨c + 1, by omega, by go_num, G10, K10⟩
          case measure => simp [intOf]; omega
        · have hcz : ¬ (c : Int) < 8 := by omega
          obtain rfl : c = 8 := by omega
          go_wp2_with fail
          go_roundw
          case rel => exact ⟨q + 1, by omega, by go_num, gt, Lib.hid (hG.out.congr (fun i j _ hj ho => Fq_next N q i j hj (by simpa [up] using ho))), hK⟩
          case measure => simp [intOf]; omega
    · have hqz : ¬ (q : Int) < 8 := by omega
      obtain rfl : q = 8 := by omega
      have HO := Lib.hid (hG.out.done (fun i hi => by simpa [up] using hi))
      rw [rows8_congr (fun i j hi _ => Fq_all N i j hi)] at HO
      have HB := Lib.hid hG.out.below
      obtain ⟨r0, r1, rl⟩ := two_cells hK.out
      have rf : ∀ k, wo.frozen? ⟨w.heap.size, k, none⟩ = false := fun k => Joins.unfrozen_of_block hK.out k
      clear hG
      go_wp2_with fail
      refine bodyPost_ret (v := .agg #[.int .i64 wh, .slice (some ⟨w.heap.size + 1, 0, none⟩) 8 8]) (by simp [results, Try.results71, go_sem, r0, r1]) rfl ⟨_, rfl, ?_, ?_⟩
      · have hw : Wrote (fun p => p.block = w.heap.size) wo ((wo.setCell ⟨w.heap.size, 0, none⟩ (.int .i64 wh)).setCell ⟨w.heap.size, 1, none⟩ (.slice (some ⟨w.heap.size + 1, 0, none⟩) 8 8)) := Wrote.setCell (S := fun p => p.block = w.heap.size) (Wrote.setCell (S := fun p => p.block = w.heap.size) (Wrote.refl _ _) rfl _) rfl _
        exact (HO.out.wrote hw (fun p hp => .inl (by have e : p.block = w.heap.size := hp; omega))).mono (by omega) (by simp [World.setCell])
      · exact Below.setCell (Below.setCell HB.out (Nat.le_refl _) _) (Nat.le_refl _) _
set_option maxHeartbeats 4000000 in
theorem closure (p0 p1 : Nat) (wh wh' : Int) (v v' : Value) (xss yss : List (List Int)) (q c : Nat) (w : World) (hq : q < 8) (hc : c < 8) (h0 : w.cell? ⟨p0, 0, none⟩ = some (.int .i64 wh)) (h1 : w.cell? ⟨p0, 1, none⟩ = some v) (h2 : w.cell? ⟨p1, 0, none⟩ = some (.int .i64 wh')) (h3 : w.cell? ⟨p1, 1, none⟩ = some v')
    (hx : IRows w v xss) (hy : IRows w v' yss) (hok : both wh xss wh' yss) :
    Calls Try.prog 77 #[.agg #[.int .i64 ((q : Int) / 4 % 2), .int .i64 ((q : Int) / 2 % 2), .int .i64 ((q : Int) % 2)], .agg #[.int .i64 ((c : Int) / 4 % 2), .int .i64 ((c : Int) / 2 % 2), .int .i64 ((c : Int) % 2)], .pointer (some ⟨p0, 0, none⟩), .pointer (some ⟨p1, 0, none⟩)] w fun e w' => e = .returned (.int .i64 (NM xss yss q c)) ∧ Below w.heap.size w w' := by
  have hw := nm_wrap hok hq hc
  have HN0 := Lib.hid (fun (W : World) (hW : Below w.heap.size w W) => number_g wh v xss ((q : Int) / 4 % 2) ((q : Int) / 2 % 2) ((q : Int) % 2) ((c : Int) / 4 % 2) ((c : Int) / 2 % 2) ((c : Int) % 2) q c W (hx.below hW) (shape_of hok.1) (by omega) (by omega) (by omega) (by omega) (by omega) (by omega) (by omega) (by omega))
  have HN1 := Lib.hid (fun (W : World) (hW : Below w.heap.size w W) => number_g wh' v' yss ((q : Int) / 4 % 2) ((q : Int) / 2 % 2) ((q : Int) % 2) ((c : Int) / 4 % 2) ((c : Int) / 2 % 2) ((c : Int) % 2) q c W (hy.below hW) (shape_of hok.2) (by omega) (by omega) (by omega) (by omega) (by omega) (by omega) (by omega) (by omega))
  obtain ⟨va, vn, vc, rfl⟩ := hx.shape
  obtain ⟨ua, un, uc, rfl⟩ := hy.shape
  obtain ⟨W0, hW0⟩ : ∃ W, W = (w.alloc (.cells #[.int .i64 ((q : Int) / 4 % 2), .int .i64 ((q : Int) / 2 % 2), .int .i64 ((q : Int) % 2)] 76)).alloc (.cells #[.int .i64 ((c : Int) / 4 % 2), .int .i64 ((c : Int) / 2 % 2), .int .i64 ((c : Int) % 2)] 76) := ⟨_, rfl⟩
  have Kq : Hid (Blk W0 w.heap.size 76 #[.int .i64 ((q : Int) / 4 % 2), .int .i64 ((q : Int) / 2 % 2), .int .i64 ((q : Int) % 2)]) := Lib.hid (by rw [hW0]; exact (Blk.new _ _ _).alloc _)
  have Kk : Hid (Blk W0 (w.heap.size + 1) 76 #[.int .i64 ((c : Int) / 4 % 2), .int .i64 ((c : Int) / 2 % 2), .int .i64 ((c : Int) % 2)]) := Lib.hid (by
    rw [hW0]
    have := Blk.new (w.alloc (.cells #[.int .i64 ((q : Int) / 4 % 2), .int .i64 ((q : Int) / 2 % 2), .int .i64 ((q : Int) % 2)] 76)) 76 #[.int .i64 ((c : Int) / 4 % 2), .int .i64 ((c : Int) / 2 % 2), .int .i64 ((c : Int) % 2)]
    simpa using this)
  have B0 : Hid (Below w.heap.size w W0) := Lib.hid (by rw [hW0]; exact below_al (below_al (Below.refl _ _) _) _)
  have HX := Lib.hid (And.intro (below_cell B0.out _ _ h0) (And.intro (below_cell B0.out _ _ h1) (And.intro (below_cell B0.out _ _ h2) (below_cell B0.out _ _ h3))))
  clear h0 h1 h2 h3 hx hy hok
  go_enter Try.func77, Try.ntmps77
  go_wp2_with fail
  rw [← hW0]
  clear hW0
  obtain ⟨q0, q1, q2, _⟩ := three_cells Kq.out
  obtain ⟨k0, k1, k2, _⟩ := three_cells Kk.out
  obtain ⟨x0, x1, x2, x3⟩ := HX.out
  go_region_held3 (fun w' => w'.cell? ⟨w.heap.size, 0, none⟩ = some (.int .i64 ((q : Int) / 4 % 2)) ∧ w'.cell? ⟨w.heap.size, 1, none⟩ = some (.int .i64 ((q : Int) / 2 % 2)) ∧ w'.cell? ⟨w.heap.size, 2, none⟩ = some (.int .i64 ((q : Int) % 2)) ∧ w'.cell? ⟨w.heap.size + 1, 0, none⟩ = some (.int .i64 ((c : Int) / 4 % 2)) ∧ w'.cell? ⟨w.heap.size + 1, 1, none⟩ = some (.int .i64 ((c : Int) / 2 % 2)) ∧ w'.cell? ⟨w.heap.size + 1, 2, none⟩ = some (.int .i64 ((c : Int) % 2)) ∧ w'.cell? ⟨p0, 0, none⟩ = some (.int .i64 wh) ∧ w'.cell? ⟨p0, 1, none⟩ = some (.slice va vn vc) ∧ w'.cell? ⟨p1, 0, none⟩ = some (.int .i64 wh') ∧ w'.cell? ⟨p1, 1, none⟩ = some (.slice ua un uc) ∧ Below W0.heap.size W0 w')
    ((refine hld.held10 rfl q0 q1 q2 k0 k1 k2 x0 x1 x2 x3 ?_; repeat (first | (with_reducible exact Below.refl _ _) | (with_reducible refine below_dr ?_) | (with_reducible refine below_tr ?_ (by assumption)))))
    (first | (go_at_call 78; (with_reducible refine (HN0.out _ (below_tr B0.out (by repeat (first | (with_reducible exact Below.refl _ _) | (with_reducible refine below_dr ?_) | (with_reducible refine below_tr ?_ (by assumption)))))).mono ?_); rintro e w1 ⟨rfl, hb1⟩) | (go_at_call 78; (with_reducible refine (HN1.out _ (below_tr B0.out (by repeat (first | (with_reducible exact Below.refl _ _) | (with_reducible refine below_dr ?_) | (with_reducible refine below_tr ?_ (by assumption)))))).mono ?_); rintro e w2 ⟨rfl, hb2⟩))
  go_wp2_with fail
  go_ret
  exact ⟨rfl, below_tr B0.out (below_tr (below_tr (below_dr (Below.refl _ _)) hb1) hb2)⟩

set_option maxHeartbeats 4000000 in
theorem impl_any (wh : Int) (v : Value) (xss : List (List Int)) (wh' : Int) (v' : Value) (yss : List (List Int)) (w : World) (h : IRows w v xss) (h' : IRows w v' yss) (hn : total xss ≤ 1048576) (hn' : total yss ≤ 1048576) :
    Calls Try.prog 34 #[.agg #[.int .i64 wh, v], .agg #[.int .i64 wh', v']] w fun e w' => ∃ u, e = .returned (.tuple #[.agg #[.int .i64 (resM wh xss wh' yss).wh, u], .bool (resM wh xss wh' yss).ok]) ∧ OwnRows w' w.heap.size w'.heap.size u (resM wh xss wh' yss).rows ∧ Below w.heap.size w w' := by
  obtain ⟨va, vn, vc, rfl⟩ := h.shape
  obtain ⟨ua, un, uc, rfl⟩ := h'.shape
  obtain ⟨W0, hW0⟩ : ∃ W, W = ((w.alloc (.cells #[.int .i64 wh, .slice va vn vc] 27)).alloc (.cells #[.int .i64 wh', .slice ua un uc] 27)).alloc (.cells #[.int .i64 0, .slice none 0 0] 27) := ⟨_, rfl⟩
  have Ka : Hid (Blk W0 w.heap.size 27 #[.int .i64 wh, .slice va vn vc]) := Lib.hid (by rw [hW0]; exact ((Blk.new _ _ _).alloc _).alloc _)
  have Kb : Hid (Blk W0 (w.heap.size + 1) 27 #[.int .i64 wh', .slice ua un uc]) := Lib.hid (by
    rw [hW0]
    have := (Blk.new (w.alloc (.cells #[.int .i64 wh, .slice va vn vc] 27)) 27 #[.int .i64 wh', .slice ua un uc]).alloc (.cells #[.int .i64 0, .slice none 0 0] 27)
    simpa using this)
  have Kr : Hid (Blk W0 (w.heap.size + 1 + 1) 27 #[.int .i64 0, .slice none 0 0]) := Lib.hid (by
    rw [hW0]
    have := Blk.new ((w.alloc (.cells #[.int .i64 wh, .slice va vn vc] 27)).alloc (.cells #[.int .i64 wh', .slice ua un uc] 27)) 27 #[.int .i64 0, .slice none 0 0]
    simpa using this)
  have B0 : Hid (Below w.heap.size w W0) := Lib.hid (by rw [hW0]; exact below_al (below_al (below_al (Below.refl _ _) _) _) _)
  have HA := Lib.hid (h.below B0.out)
  have HB := Lib.hid (h'.below B0.out)
  obtain ⟨a0, a1, _⟩ := two_cells Ka.out
  rw [hW0] at a0 a1
  clear h h'
  have HT := trv.impl_any wh _ xss W0 HA.out hn
  by_cases hA : okTrio wh xss
  · rw [trioB_yes hA] at HT
    have HT1 := Lib.hid HT
    have HT2 := Lib.hid (fun (W : World) (hW : Below W0.heap.size W0 W) => trv.impl_any wh' _ yss W (HB.out.below hW) hn')
    clear HT
    by_cases hB : okTrio wh' yss
    · rw [trioB_yes hB] at HT2
      have HOK := Lib.hid (show both wh xss wh' yss from ⟨hA, hB⟩)
      clear hA hB
      go_enter Try.func34, Try.ntmps34
      go_wp2_with fail
      rw [← hW0]
      clear hW0 a0 a1
      refine HT1.out.mono ?_
      rintro e w1 ⟨rfl, hb⟩
      have E1 := Lib.hid hb
      obtain ⟨b0, b1, _⟩ := two_cells (Kb.out.below hb)
      clear hb HT1
      go_wp2_with fail
      refine (HT2.out w1 E1.out).mono ?_
      rintro e w2 ⟨rfl, hb⟩
      have E2 := Lib.hid (below_tr E1.out hb)
      clear hb HT2 E1 b0 b1
      obtain ⟨a0, a1, _⟩ := two_cells (Ka.out.below E2.out)
      obtain ⟨b0, b1, _⟩ := two_cells (Kb.out.below E2.out)
      have hwz : IntKind.i64.wrap (wh + wh') = wh + wh' := IntWalk.i64_in _ (by have h1 := HOK.out.1.1; have h2 := HOK.out.2.1; omega)
      have HM := Lib.hid (makes w.heap.size (w.heap.size + 1) (wh + wh') (NM xss yss) w2 (fun q c W hq hc hW => closure w.heap.size (w.heap.size + 1) wh wh' _ _ xss yss q c W hq hc (below_cell hW _ _ a0) (below_cell hW _ _ a1) (below_cell hW _ _ b0) (below_cell hW _ _ b1) ((HA.out.below E2.out).below hW) ((HB.out.below E2.out).below hW) HOK.out))
      go_wp2_with fail
      refine HM.out.mono ?_
      rintro e w3 ⟨u, rfl, hu, hb⟩
      obtain ⟨xa, xn, xc, rfl⟩ := hu.rows.shape
      have Z1 : Hid (w.heap.size + 1 + 1 < w2.heap.size) := Lib.hid (Kr.out.below E2.out).lt
      by_cases hv : okTrio (wh + wh') (rows8 (NM xss yss))
      · have HV := Lib.hid (tvk.valid_yes (wh + wh') _ _ w3 hu.rows (tot_rows8 _) hv)
        have HR := Lib.hid (resM_yes ⟨HOK.out, hv⟩)
        have U1 := Lib.hid hu
        have E3 := Lib.hid (below_tr E2.out hb)
        clear hu hb HM hv a0 a1 b0 b1
        go_wp2_with fail
        refine HV.out.mono ?_
        rintro e w4 ⟨rfl, hb⟩
        have K1 := Lib.hid (Kr.out.below (below_tr E3.out hb))
        have U2 := Lib.hid (U1.out.keep hb)
        have B1 := Lib.hid (below_tr B0.out (below_tr E3.out hb))
        have Z2 : Hid (w3.heap.size ≤ w4.heap.size) := Lib.hid hb.size
        obtain ⟨r0, r1, rl⟩ := two_cells K1.out
        have rf : ∀ k, w4.frozen? ⟨w.heap.size + 1 + 1, k, none⟩ = false := fun k => Joins.unfrozen_of_block K1.out k
        clear hb HV U1
        go_wp2_with fail
        refine bodyPost_ret (v := .tuple #[.agg #[.int .i64 (wh + wh'), .slice xa xn xc], .bool true]) (by simp [results, Try.results34, go_sem, r0, r1]) rfl ?_
        rw [HR.out]
        refine ⟨_, rfl, ?_, ?_⟩
        · have hw : Wrote (fun p => p.block = w.heap.size + 1 + 1) w4 ((w4.setCell ⟨w.heap.size + 1 + 1, 0, none⟩ (.int .i64 (wh + wh'))).setCell ⟨w.heap.size + 1 + 1, 1, none⟩ (.slice xa xn xc)) := Wrote.setCell (S := fun p => p.block = w.heap.size + 1 + 1) (Wrote.setCell (S := fun p => p.block = w.heap.size + 1 + 1) (Wrote.refl _ _) rfl _) rfl _
          exact (U2.out.wrote hw (fun p hp => .inl (by have e : p.block = w.heap.size + 1 + 1 := hp; have := Z1.out; omega))).mono (by have := Z1.out; omega) (by have := Z2.out; simp [World.setCell]; omega)
        · exact Below.setCell (Below.setCell B1.out (show w.heap.size ≤ w.heap.size + 1 + 1 by omega) _) (show w.heap.size ≤ w.heap.size + 1 + 1 by omega) _
      · have HV := Lib.hid (tvk.valid_no (wh + wh') _ _ w3 hu.rows (tot_rows8 _) hv)
        have HR := Lib.hid (resM_no (fun h => hv h.2))
        have E3 := Lib.hid (below_tr E2.out hb)
        clear hu hb HM hv a0 a1 b0 b1
        go_wp2_with fail
        refine HV.out.mono ?_
        rintro e w4 ⟨rfl, hb⟩
        have K1 := Lib.hid (Kr.out.below (below_tr E3.out hb))
        have B1 := Lib.hid (below_tr B0.out (below_tr E3.out hb))
        obtain ⟨r0, r1, rl⟩ := two_cells K1.out
        have rf : ∀ k, w4.frozen? ⟨w.heap.size + 1 + 1, k, none⟩ = false := fun k => Joins.unfrozen_of_block K1.out k
        go_wp2_with fail
        refine bodyPost_ret (v := .tuple #[.agg #[.int .i64 0, .slice none 0 0], .bool false]) (by simp [results, Try.results34, go_sem, r0, r1]) rfl ?_
        rw [HR.out]
        refine ⟨_, rfl, OwnRows.nil _ _ _, ?_⟩
        exact Below.setCell (Below.setCell B1.out (show w.heap.size ≤ w.heap.size + 1 + 1 by omega) _) (show w.heap.size ≤ w.heap.size + 1 + 1 by omega) _
    · rw [trioB_no hB] at HT2
      rw [resM_no (fun h => hB h.1.2)]
      clear hA hB
      go_enter Try.func34, Try.ntmps34
      go_wp2_with fail
      rw [← hW0]
      clear hW0 a0 a1
      refine HT1.out.mono ?_
      rintro e w1 ⟨rfl, hb⟩
      have E1 := Lib.hid hb
      obtain ⟨b0, b1, _⟩ := two_cells (Kb.out.below hb)
      clear hb HT1
      go_wp2_with fail
      refine (HT2.out w1 E1.out).mono ?_
      rintro e w2 ⟨rfl, hb⟩
      have K1 := Lib.hid (Kr.out.below (below_tr E1.out hb))
      have B1 := Lib.hid (below_tr B0.out (below_tr E1.out hb))
      obtain ⟨r0, r1, rl⟩ := two_cells K1.out
      have rf : ∀ k, w2.frozen? ⟨w.heap.size + 1 + 1, k, none⟩ = false := fun k => Joins.unfrozen_of_block K1.out k
      go_wp2_with fail
      refine bodyPost_ret (v := .tuple #[.agg #[.int .i64 0, .slice none 0 0], .bool false]) (by simp [results, Try.results34, go_sem, r0, r1]) rfl ⟨_, rfl, OwnRows.nil _ _ _, ?_⟩
      exact Below.setCell (Below.setCell B1.out (show w.heap.size ≤ w.heap.size + 1 + 1 by omega) _) (show w.heap.size ≤ w.heap.size + 1 + 1 by omega) _
  · rw [trioB_no hA] at HT
    have HT1 := Lib.hid HT
    rw [resM_no (fun h => hA h.1.1)]
    clear HT hA
    go_enter Try.func34, Try.ntmps34
    go_wp2_with fail
    rw [← hW0]
    clear hW0 a0 a1
    refine HT1.out.mono ?_
    rintro e w1 ⟨rfl, hb⟩
    have K1 := Lib.hid (Kr.out.below hb)
    have B1 := Lib.hid (below_tr B0.out hb)
    obtain ⟨r0, r1, rl⟩ := two_cells K1.out
    have rf : ∀ k, w1.frozen? ⟨w.heap.size + 1 + 1, k, none⟩ = false := fun k => Joins.unfrozen_of_block K1.out k
    go_wp2_with fail
    refine bodyPost_ret (v := .tuple #[.agg #[.int .i64 0, .slice none 0 0], .bool false]) (by simp [results, Try.results34, go_sem, r0, r1]) rfl ⟨_, rfl, OwnRows.nil _ _ _, ?_⟩
    exact Below.setCell (Below.setCell B1.out (show w.heap.size ≤ w.heap.size + 1 + 1 by omega) _) (show w.heap.size ≤ w.heap.size + 1 + 1 by omega) _

/-! ### the model -/
/-- rows that lie behind B, or none -/
def LowT (w : World) (B : Nat) (v : Value) (xss : List (List Int)) : Prop := (∃ k D, built.Apart w B v k D ∧ xss = (List.range k).map D) ∨ (v = .slice none 0 0 ∧ xss = [])
theorem LowT.nil (w : World) (B : Nat) : LowT w B (.slice none 0 0) [] := .inr ⟨rfl, rfl⟩
theorem LowT.rows {w : World} {B : Nat} {v : Value} {xss : List (List Int)} (h : LowT w B v xss) : IRows w v xss := by
  rcases h with ⟨k, D, h, rfl⟩ | ⟨rfl, rfl⟩
  · exact h.rows
  · exact IRows.nil _
theorem LowT.low {w w' : World} {B : Nat} {v : Value} {xss : List (List Int)} (h : LowT w B v xss) (hw : Wrote (fun p => p.block < B) w w') : LowT w' B v xss := by
  rcases h with ⟨k, D, h, rfl⟩ | ⟨rfl, rfl⟩
  · exact .inl ⟨k, D, h.low hw, rfl⟩
  · exact LowT.nil _ _

def DM (xss yss : List (List Int)) (q : Nat) : List Int := (List.range 8).map fun k => NM xss yss q k
theorem dm_take (xss yss : List (List Int)) {q c : Nat} (hc : c < 8) : (DM xss yss q).take (c + 1) = (DM xss yss q).take c ++ [NM xss yss q c] := by
  have hl : c < (DM xss yss q).length := by simp [DM]; omega
  rw [List.take_succ_eq_append_getElem hl]
  simp [DM]
theorem len_dm (xss yss : List (List Int)) (q : Nat) : (DM xss yss q).length = 8 := by simp [DM]
theorem rows_dm (xss yss : List (List Int)) : rows8 (NM xss yss) = (List.range 8).map (DM xss yss) := rfl
theorem held6b {b w' : World} {p1 p2 p3 p4 p5 p6 : Addr} {u1 u2 u3 u4 u5 u6 : Value} (h1 : b.cell? p1 = some u1) (h2 : b.cell? p2 = some u2) (h3 : b.cell? p3 = some u3) (h4 : b.cell? p4 = some u4) (h5 : b.cell? p5 = some u5) (h6 : b.cell? p6 = some u6) (hb : Below b.heap.size b w') :
    w'.cell? p1 = some u1 ∧ w'.cell? p2 = some u2 ∧ w'.cell? p3 = some u3 ∧ w'.cell? p4 = some u4 ∧ w'.cell? p5 = some u5 ∧ w'.cell? p6 = some u6 ∧ Below b.heap.size b w' :=
  ⟨below_cell hb _ _ h1, below_cell hb _ _ h2, below_cell hb _ _ h3, below_cell hb _ _ h4, below_cell hb _ _ h5, below_cell hb _ _ h6, hb⟩
set_option maxRecDepth 100000 in
set_option maxHeartbeats 8000000 in
theorem l11mix (wh : Int) (v : Value) (xss : List (List Int)) (wh' : Int) (v' : Value) (yss : List (List Int)) (w : World) (h : IRows w v xss) (h' : IRows w v' yss) (hok : both wh xss wh' yss) :
    Calls Try.prog 76 #[.agg #[.int .i64 wh, v], .agg #[.int .i64 wh', v']] w fun e w' => ∃ u, e = .returned (.agg #[.int .i64 (wh + wh'), u]) ∧ built.Apart w' w.heap.size u 8 (DM xss yss) ∧ Below w.heap.size w w' := by
  obtain ⟨i0, hi, hz0, hz1, hz2⟩ := info_parts infoInt
  obtain ⟨s0, si, sz0, sz1, sz2⟩ := info_parts infoInts
  obtain ⟨bA, oA, cA, rbA, roA, rcA, rfl, g1, g2⟩ := forms h (shape_of hok.1)
  obtain ⟨bB, oB, cB, rbB, roB, rcB, rfl, g3, g4⟩ := forms h' (shape_of hok.2)
  have hwz : IntKind.i64.wrap (wh + wh') = wh + wh' := IntWalk.i64_in _ (by have h1 := hok.1.1; have h2 := hok.2.1; omega)
  have HWR := Lib.hid (fun (q k : Nat) (hq : q < 8) (hk : k < 8) => nm_wrap hok hq hk)
  obtain ⟨wb, hwb⟩ : ∃ wb, wb = (w.alloc (.cells #[.int .i64 wh, .slice (some ⟨bA, oA, none⟩) 8 cA] 27)).alloc (.cells #[.int .i64 wh', .slice (some ⟨bB, oB, none⟩) 8 cB] 27) := ⟨_, rfl⟩
  have HZB : Hid (w.heap.size + 1 + 1 = wb.heap.size) := Lib.hid (by rw [hwb]; simp)
  have BB : Hid (Below w.heap.size w wb) := Lib.hid (by rw [hwb]; exact below_al (below_al (Below.refl _ _) _) _)
  have Ka : Hid (Blk wb w.heap.size 27 #[.int .i64 wh, .slice (some ⟨bA, oA, none⟩) 8 cA]) := Lib.hid (by rw [hwb]; exact (Blk.new _ _ _).alloc _)
  have Kb : Hid (Blk wb (w.heap.size + 1) 27 #[.int .i64 wh', .slice (some ⟨bB, oB, none⟩) 8 cB]) := Lib.hid (by
    rw [hwb]
    have := Blk.new (w.alloc (.cells #[.int .i64 wh, .slice (some ⟨bA, oA, none⟩) 8 cA] 27)) 27 #[.int .i64 wh', .slice (some ⟨bB, oB, none⟩) 8 cB]
    simpa using this)
  have HX := Lib.hid (fun (q k : Nat) (hq : q < 8) (hk : k < 8) => And.intro (below_cell BB.out _ _ (g1 q hq)) (And.intro (below_cell BB.out _ _ (g2 q hq k hk)) (And.intro (below_cell BB.out _ _ (g3 q hq)) (below_cell BB.out _ _ (g4 q hq k hk)))))
  clear h h' g1 g2 g3 g4 hok
  obtain ⟨W0, hW0⟩ : ∃ W, W = ((wb.alloc (.cells #[.int .i64 0, .slice none 0 0] 27)).alloc (.cells #[] 33)).alloc (.cells #[.int .i64 (wh + wh'), .slice (some ⟨wb.heap.size + 1, 0, none⟩) 0 0] 27) := ⟨_, rfl⟩
  have HW0 : Hid (tbl.Built wb W0 (wb.heap.size + 1) (wb.heap.size + 1 + 1) wb.heap.size (wh + wh') 0 W0.heap.size (.slice (some ⟨wb.heap.size + 1, 0, none⟩) 0 0) [] (DM xss yss)) := Lib.hid (by
    rw [hW0]
    refine ⟨below_al (below_al (below_al (Below.refl _ _) _) _) _, by omega, ⟨by omega, by omega⟩, ?_, ?_, ?_, fun r u hu => by simp at hu, by simp <;> omega, Nat.le_refl _⟩
    · have := Blk.new ((wb.alloc (.cells #[.int .i64 0, .slice none 0 0] 27)).alloc (.cells #[] 33)) 27 #[.int .i64 (wh + wh'), .slice (some ⟨wb.heap.size + 1, 0, none⟩) 0 0]
      simpa using this
    · exact ((Blk.new wb 27 #[.int .i64 0, .slice none 0 0]).alloc _).alloc _
    · have := World.ownsRow_made (base := wb.heap.size + 1) (e := 33) (size := 1) (wb.alloc (.cells #[.int .i64 0, .slice none 0 0] 27)) #[] 0 (by simp) (Nat.zero_le _) rfl
      have := this.alloc (.cells #[.int .i64 (wh + wh'), .slice (some ⟨wb.heap.size + 1, 0, none⟩) 0 0] 27)
      simpa using this)
  have HZW : Hid (w.heap.size ≤ wb.heap.size) := Lib.hid BB.out.size
  obtain ⟨a0, a1, _⟩ := two_cells Ka.out
  obtain ⟨b0, b1, _⟩ := two_cells Kb.out
  rw [hwb] at a0 a1 b0 b1
  go_enter Try.func76, Try.ntmps76
  go_wp2_with fail
  rw [← hwb]
  have hz := HZB.out
  simp only [hz]
  rw [← hW0]
  clear hW0 a0 a1 b0 b1 hwb hz
  go_loopw [6] (fun i wr => ∃ q : Nat, q ≤ 8 ∧ i = .int .i64 q ∧ ∃ v vals m, Hid (tbl.Built wb wr (wb.heap.size + 1) (wb.heap.size + 1 + 1) wb.heap.size (wh + wh') q m v vals (DM xss yss))) (fun i _ => 8 - (intOf i).toNat)
  case atStart => exact ⟨0, Nat.zero_le _, rfl, _, _, _, HW0⟩
  case round =>
    obtain ⟨q, hq, rfl, v, vals, m, hW⟩ := hrel
    clear HW0
    obtain ⟨wo, rfl⟩ : ∃ wo : World, wo = wr := ⟨_, rfl⟩
    by_cases hlt : q < 8
    · have hqz : (q : Int) < 8 := by omega
      have W1 := Lib.hid (hW.out.fresh.keep (below_al (Below.refl _ _) (.cells #[] 3)))
      have hq0 : Hid ((wo.alloc (.cells #[] 3)).ownsRow wo.heap.size 3 1 (.slice (some ⟨wo.heap.size, 0, none⟩) 0 0) 0 (i64s ((DM xss yss q).take 0))) := Lib.hid (by
        have := World.ownsRow_made (base := wo.heap.size) (e := 3) (size := 1) wo #[] 0 (by simp) (Nat.zero_le _) rfl
        simpa [i64s] using this)
      have HMB : Hid (wb.heap.size + 1 ≤ wo.heap.size) := Lib.hid (by have := hW.out.blk.lt; omega)
      go_wp2_with fail
      generalize (wo.alloc (.cells #[] 3)) = W2 at *
      generalize wo.heap.size = mm at *
      go_loopw [7, 8] (fun u j wi => ∃ c : Nat, c ≤ 8 ∧ j = .int .i64 c ∧ Hid (wi.ownsRow mm 3 1 u c (i64s ((DM xss yss q).take c))) ∧ Hid (tbl.Built wb wi (wb.heap.size + 1) (wb.heap.size + 1 + 1) wb.heap.size (wh + wh') q mm v vals (DM xss yss))) (fun _ j _ => 8 - (intOf j).toNat)
      case atStart => exact ⟨0, by omega, rfl, hq0, W1⟩
      case round =>
        obtain ⟨c, hc, rfl, hQ, hW1⟩ := hrel
        clear W1 hq0 hW
        obtain ⟨wj, rfl⟩ : ∃ wo : World, wo = wr := ⟨_, rfl⟩
        by_cases hlc : c < 8
        · have hcz : (c : Int) < 8 := by omega
          obtain ⟨_, a1, _⟩ := two_cells Ka.out
          obtain ⟨_, b1, _⟩ := two_cells Kb.out
          obtain ⟨x1, x2, y1, y2⟩ := HX.out q c hlt hlc
          have hw := HWR.out q c hlt hlc
          have HDT := Lib.hid (dm_take xss yss (q := q) hlc)
          generalize NM xss yss q c = nm at *
          have hsz := hW1.out.below.size
          have hszm := hW1.out.le
          obtain ⟨qa, ql, qc, rfl⟩ := make.shape hQ.out
          go_wp2_with fail
          refine last.start (S := fun w' => w'.cell? ⟨w.heap.size, 1, none⟩ = some (.slice (some ⟨bA, oA, none⟩) 8 cA) ∧ w'.cell? ⟨bA, oA + q, none⟩ = some (.slice (some ⟨rbA q, roA q, none⟩) 8 (rcA q)) ∧ w'.cell? ⟨rbA q, roA q + c, none⟩ = some (.int .i64 (tc xss q c)) ∧ w'.cell? ⟨w.heap.size + 1, 1, none⟩ = some (.slice (some ⟨bB, oB, none⟩) 8 cB) ∧ w'.cell? ⟨bB, oB + q, none⟩ = some (.slice (some ⟨rbB q, roB q, none⟩) 8 (rcB q)) ∧ w'.cell? ⟨rbB q, roB q + c, none⟩ = some (.int .i64 (tc yss q c)) ∧ Below wb.heap.size wb w') (L := 20) (by kernel_rfl) ?_
          have hHeld := held6b a1 x1 x2 b1 y1 y2 (hW1.out.below.drew)
          have OQ : Hid (((wj.alloc (.cells #[.int .i64 nm] 3)).drew).ownsRow mm 3 1 (.slice qa ql qc) c (i64s ((DM xss yss q).take c))) := Lib.hid (app.owns_below hQ.out (below_al (Below.refl wj.heap.size wj) (.cells #[.int .i64 nm] 3)).drew)
          have HWA : Hid (tbl.Built wb ((wj.alloc (.cells #[.int .i64 nm] 3)).drew) (wb.heap.size + 1) (wb.heap.size + 1 + 1) wb.heap.size (wh + wh') q mm v vals (DM xss yss)) := Lib.hid (hW1.out.keep (below_al (Below.refl wj.heap.size wj) (.cells #[.int .i64 nm] 3)).drew)
          refine last.take (i := 0) (oi := { dst := some 25, op := Op.move (Operand.tmp 7), type := 33, pos := "l11_three.go:159", after := #[], guard := none }) (v := ?v0) rfl (by kernel_rfl) (by kernel_rfl) (by kernel_rfl) (by kernel_rfl) (by decide) (fun _ _ _ h => h) (Or.inl ⟨by rfl, ?y0⟩) hHeld ?r0
          case y0 => (intro w hSw; (try dsimp only at hSw); go_simp; try with_reducible rfl)
          try simp only [Act.put, List.setIfInBounds_toArray, List.set_cons_zero, List.set_cons_succ]
          refine last.take (i := 1) (oi := { dst := some 26, op := Op.fieldAddr 27 (Operand.tmp 2) 1, type := 0, pos := "l11_three.go:159", after := #[], guard := none }) (v := ?v1) rfl (by kernel_rfl) (by kernel_rfl) (by kernel_rfl) (by kernel_rfl) (by decide) (fun _ _ _ h => h) (Or.inl ⟨by rfl, ?y1⟩) hHeld ?r1
          case y1 => (intro w hSw; (try dsimp only at hSw); go_simp; try with_reducible rfl)
          try simp only [Act.put, List.setIfInBounds_toArray, List.set_cons_zero, List.set_cons_succ]
          refine last.take (i := 2) (oi := { dst := some 27, op := Op.load 22 (Operand.tmp 26), type := 22, pos := "l11_three.go:159", after := #[{ on := 1, ground := Ground.data }], guard := none }) (v := ?v2) rfl (by kernel_rfl) (by kernel_rfl) (by kernel_rfl) (by kernel_rfl) (by decide) (fun _ _ _ h => h) (Or.inl ⟨by rfl, ?y2⟩) hHeld ?r2
          case y2 => (intro w hSw; (try dsimp only at hSw); go_simp; try with_reducible rfl)
          try simp only [Act.put, List.setIfInBounds_toArray, List.set_cons_zero, List.set_cons_succ]
          refine last.take (i := 3) (oi := { dst := some 28, op := Op.move (Operand.tmp 6), type := 3, pos := "l11_three.go:159", after := #[], guard := none }) (v := ?v3) rfl (by kernel_rfl) (by kernel_rfl) (by kernel_rfl) (by kernel_rfl) (by decide) (fun _ _ _ h => h) (Or.inl ⟨by rfl, ?y3⟩) hHeld ?r3
          case y3 => (intro w hSw; (try dsimp only at hSw); go_simp; try with_reducible rfl)
          try simp only [Act.put, List.setIfInBounds_toArray, List.set_cons_zero, List.set_cons_succ]
          refine last.take (i := 4) (oi := { dst := some 29, op := Op.indexAddr 22 (Operand.tmp 27) (Operand.tmp 28), type := 0, pos := "l11_three.go:159", after := #[{ on := 2, ground := Ground.data }, { on := 3, ground := Ground.data }], guard := none }) (v := ?v4) rfl (by kernel_rfl) (by kernel_rfl) (by kernel_rfl) (by kernel_rfl) (by decide) (fun _ _ _ h => h) (Or.inl ⟨by rfl, ?y4⟩) hHeld ?r4
          case y4 => (intro w hSw; (try dsimp only at hSw); go_simp; try with_reducible rfl)
          try simp only [Act.put, List.setIfInBounds_toArray, List.set_cons_zero, List.set_cons_succ]
          refine last.take (i := 5) (oi := { dst := some 30, op := Op.load 33 (Operand.tmp 29), type := 33, pos := "l11_three.go:159", after := #[{ on := 4, ground := Ground.data }], guard := none }) (v := ?v5) rfl (by kernel_rfl) (by kernel_rfl) (by kernel_rfl) (by kernel_rfl) (by decide) (fun _ _ _ h => h) (Or.inl ⟨by rfl, ?y5⟩) hHeld ?r5
          case y5 => (intro w hSw; (try dsimp only at hSw); go_simp; try with_reducible rfl)
          try simp only [Act.put, List.setIfInBounds_toArray, List.set_cons_zero, List.set_cons_succ]
          refine last.take (i := 6) (oi := { dst := some 31, op := Op.move (Operand.tmp 8), type := 3, pos := "l11_three.go:159", after := #[], guard := none }) (v := ?v6) rfl (by kernel_rfl) (by kernel_rfl) (by kernel_rfl) (by kernel_rfl) (by decide) (fun _ _ _ h => h) (Or.inl ⟨by rfl, ?y6⟩) hHeld ?r6
          case y6 => (intro w hSw; (try dsimp only at hSw); go_simp; try with_reducible rfl)
          try simp only [Act.put, List.setIfInBounds_toArray, List.set_cons_zero, List.set_cons_succ]
          refine last.take (i := 7) (oi := { dst := some 32, op := Op.indexAddr 33 (Operand.tmp 30) (Operand.tmp 31), type := 0, pos := "l11_three.go:159", after := #[{ on := 5, ground := Ground.data }, { on := 6, ground := Ground.data }], guard := none }) (v := ?v7) rfl (by kernel_rfl) (by kernel_rfl) (by kernel_rfl) (by kernel_rfl) (by decide) (fun _ _ _ h => h) (Or.inl ⟨by rfl, ?y7⟩) hHeld ?r7
          case y7 => (intro w hSw; (try dsimp only at hSw); go_simp; try with_reducible rfl)
          try simp only [Act.put, List.setIfInBounds_toArray, List.set_cons_zero, List.set_cons_succ]
          refine last.take (i := 8) (oi := { dst := some 33, op := Op.load 3 (Operand.tmp 32), type := 3, pos := "l11_three.go:159", after := #[{ on := 7, ground := Ground.data }], guard := none }) (v := ?v8) rfl (by kernel_rfl) (by kernel_rfl) (by kernel_rfl) (by kernel_rfl) (by decide) (fun _ _ _ h => h) (Or.inl ⟨by rfl, ?y8⟩) hHeld ?r8
          case y8 => (intro w hSw; (try dsimp only at hSw); go_simp; try with_reducible rfl)
          try simp only [Act.put, List.setIfInBounds_toArray, List.set_cons_zero, List.set_cons_succ]
          refine last.take (i := 9) (oi := { dst := some 34, op := Op.fieldAddr 27 (Operand.tmp 3) 1, type := 0, pos := "l11_three.go:159", after := #[], guard := none }) (v := ?v9) rfl (by kernel_rfl) (by kernel_rfl) (by kernel_rfl) (by kernel_rfl) (by decide) (fun _ _ _ h => h) (Or.inl ⟨by rfl, ?y9⟩) hHeld ?r9
          case y9 => (intro w hSw; (try dsimp only at hSw); go_simp; try with_reducible rfl)
          try simp only [Act.put, List.setIfInBounds_toArray, List.set_cons_zero, List.set_cons_succ]
          refine last.take (i := 10) (oi := { dst := some 35, op := Op.load 22 (Operand.tmp 34), type := 22, pos := "l11_three.go:159", after := #[{ on := 9, ground := Ground.data }], guard := none }) (v := ?v10) rfl (by kernel_rfl) (by kernel_rfl) (by kernel_rfl) (by kernel_rfl) (by decide) (fun _ _ _ h => h) (Or.inl ⟨by rfl, ?y10⟩) hHeld ?r10
          case y10 => (intro w hSw; (try dsimp only at hSw); go_simp; try with_reducible rfl)
          try simp only [Act.put, List.setIfInBounds_toArray, List.set_cons_zero, List.set_cons_succ]
          refine last.take (i := 11) (oi := { dst := some 36, op := Op.move (Operand.tmp 6), type := 3, pos := "l11_three.go:159", after := #[], guard := none }) (v := ?v11) rfl (by kernel_rfl) (by kernel_rfl) (by kernel_rfl) (by kernel_rfl) (by decide) (fun _ _ _ h => h) (Or.inl ⟨by rfl, ?y11⟩) hHeld ?r11
          case y11 => (intro w hSw; (try dsimp only at hSw); go_simp; try with_reducible rfl)
          try simp only [Act.put, List.setIfInBounds_toArray, List.set_cons_zero, List.set_cons_succ]
          refine last.take (i := 12) (oi := { dst := some 37, op := Op.indexAddr 22 (Operand.tmp 35) (Operand.tmp 36), type := 0, pos := "l11_three.go:159", after := #[{ on := 10, ground := Ground.data }, { on := 11, ground := Ground.data }], guard := none }) (v := ?v12) rfl (by kernel_rfl) (by kernel_rfl) (by kernel_rfl) (by kernel_rfl) (by decide) (fun _ _ _ h => h) (Or.inl ⟨by rfl, ?y12⟩) hHeld ?r12
          case y12 => (intro w hSw; (try dsimp only at hSw); go_simp; try with_reducible rfl)
          try simp only [Act.put, List.setIfInBounds_toArray, List.set_cons_zero, List.set_cons_succ]
          refine last.take (i := 13) (oi := { dst := some 38, op := Op.load 33 (Operand.tmp 37), type := 33, pos := "l11_three.go:159", after := #[{ on := 12, ground := Ground.data }], guard := none }) (v := ?v13) rfl (by kernel_rfl) (by kernel_rfl) (by kernel_rfl) (by kernel_rfl) (by decide) (fun _ _ _ h => h) (Or.inl ⟨by rfl, ?y13⟩) hHeld ?r13
          case y13 => (intro w hSw; (try dsimp only at hSw); go_simp; try with_reducible rfl)
          try simp only [Act.put, List.setIfInBounds_toArray, List.set_cons_zero, List.set_cons_succ]
          refine last.take (i := 14) (oi := { dst := some 39, op := Op.move (Operand.tmp 8), type := 3, pos := "l11_three.go:159", after := #[], guard := none }) (v := ?v14) rfl (by kernel_rfl) (by kernel_rfl) (by kernel_rfl) (by kernel_rfl) (by decide) (fun _ _ _ h => h) (Or.inl ⟨by rfl, ?y14⟩) hHeld ?r14
          case y14 => (intro w hSw; (try dsimp only at hSw); go_simp; try with_reducible rfl)
          try simp only [Act.put, List.setIfInBounds_toArray, List.set_cons_zero, List.set_cons_succ]
          refine last.take (i := 15) (oi := { dst := some 40, op := Op.indexAddr 33 (Operand.tmp 38) (Operand.tmp 39), type := 0, pos := "l11_three.go:159", after := #[{ on := 13, ground := Ground.data }, { on := 14, ground := Ground.data }], guard := none }) (v := ?v15) rfl (by kernel_rfl) (by kernel_rfl) (by kernel_rfl) (by kernel_rfl) (by decide) (fun _ _ _ h => h) (Or.inl ⟨by rfl, ?y15⟩) hHeld ?r15
          case y15 => (intro w hSw; (try dsimp only at hSw); go_simp; try with_reducible rfl)
          try simp only [Act.put, List.setIfInBounds_toArray, List.set_cons_zero, List.set_cons_succ]
          refine last.take (i := 16) (oi := { dst := some 41, op := Op.load 3 (Operand.tmp 40), type := 3, pos := "l11_three.go:159", after := #[{ on := 15, ground := Ground.data }], guard := none }) (v := ?v16) rfl (by kernel_rfl) (by kernel_rfl) (by kernel_rfl) (by kernel_rfl) (by decide) (fun _ _ _ h => h) (Or.inl ⟨by rfl, ?y16⟩) hHeld ?r16
          case y16 => (intro w hSw; (try dsimp only at hSw); go_simp; try with_reducible rfl)
          try simp only [Act.put, List.setIfInBounds_toArray, List.set_cons_zero, List.set_cons_succ]
          refine last.take (i := 17) (oi := { dst := some 42, op := Op.binOp BinOp.add 3 (Operand.tmp 33) (Operand.tmp 41) 3, type := 3, pos := "l11_three.go:159", after := #[{ on := 8, ground := Ground.data }, { on := 16, ground := Ground.data }], guard := none }) (v := ?v17) rfl (by kernel_rfl) (by kernel_rfl) (by kernel_rfl) (by kernel_rfl) (by decide) (fun _ _ _ h => h) (Or.inl ⟨by rfl, ?y17⟩) hHeld ?r17
          case y17 => (intro w hSw; (try dsimp only at hSw); go_simp; try with_reducible rfl)
          try simp only [Act.put, List.setIfInBounds_toArray, List.set_cons_zero, List.set_cons_succ]
          refine last.one (i := 18) (o := { dst := some 43, op := Op.buildSlice 33 1 #[(0, Operand.tmp 42)], type := 33, pos := "l11_three.go:159", after := #[{ on := 17, ground := Ground.data }], guard := none }) (by kernel_rfl) rfl (fun K hK => ?_)
          go_simp
          
          refine hK.out _ _ ?s18 (fun hHeld => ?_)
          case s18 => (try dsimp only); (refine held6b a1 x1 x2 b1 y1 y2 ?_; first | exact B3 | exact HWA.out.below | exact hW1.out.below.drew)
          clear hK K
          try simp only [Act.put, List.setIfInBounds_toArray, List.set_cons_zero, List.set_cons_succ]
          refine last.one (i := 19) (o := { dst := some 44, op := Op.call { callee := Callee.builtin Builtin.append, args := #[Operand.tmp 25, Operand.tmp 43], argTypes := #[33, 33] }, type := 33, pos := "l11_three.go:159", after := #[{ on := 0, ground := Ground.data }, { on := 18, ground := Ground.data }], guard := none }) (by kernel_rfl) rfl (fun K hK => ?_)
          refine step.own rfl (.tmp 25) (.tmp 43) 33 rfl 3 i0 (.int .i64 0) 1 8 Try.underlying33 hi hz0 hz1 hz2 rfl (by decide) mm _ c (i64s ((DM xss yss q).take c)) (by exact OQ.out) (by simp [Act.eval, Act.put]) ⟨wj.heap.size, 0, none⟩ 1 1 [.int .i64 nm] (by simp [Act.eval, Act.put]) rfl (by intro j u hj; match j, hj with | 0, hj => (simp at hj; subst hj; simp [Addr.add])) (by intro u hu; simp at hu; subst hu; rfl) (by unfold maxLen; omega) (by omega) (by simp; omega) ?_
          intro v' w3 hown' hgrow
          have W3 := Lib.hid ((HWA.out).inner OQ.out hgrow)
          have B3 := W3.out.below
          refine hK.out _ _ ?s19 (fun hHeld => ?_)
          case s19 => (try dsimp only); (refine held6b a1 x1 x2 b1 y1 y2 ?_; first | exact B3 | exact HWA.out.below | exact hW1.out.below.drew)
          clear hK K
          try simp only [Act.put, List.setIfInBounds_toArray, List.set_cons_zero, List.set_cons_succ]
          have Q3 : Hid (w3.ownsRow mm 3 1 v' (c + 1) (i64s ((DM xss yss q).take (c + 1)))) := Lib.hid (by rw [HDT.out, ← app.i64s_snoc]; exact hown')
          clear hown' hgrow hQ hW1 a1 b1 x1 x2 y1 y2 OQ HWA
          refine last.final (o := { dst := some 7, op := Op.assign (Operand.tmp 44), type := 33, pos := "l11_three.go:159", after := #[{ on := 19, ground := Ground.data }, { on := 19, ground := Ground.chain }, { on := 0, ground := Ground.phase }, { on := 1, ground := Ground.phase }, { on := 2, ground := Ground.phase }, { on := 3, ground := Ground.phase }, { on := 4, ground := Ground.phase }, { on := 5, ground := Ground.phase }, { on := 6, ground := Ground.phase }, { on := 7, ground := Ground.phase }, { on := 8, ground := Ground.phase }, { on := 9, ground := Ground.phase }, { on := 10, ground := Ground.phase }, { on := 11, ground := Ground.phase }, { on := 12, ground := Ground.phase }, { on := 13, ground := Ground.phase }, { on := 14, ground := Ground.phase }, { on := 15, ground := Ground.phase }, { on := 16, ground := Ground.phase }, { on := 17, ground := Ground.phase }, { on := 18, ground := Ground.phase }, { on := 19, ground := Ground.phase }], guard := none }) (by kernel_rfl) rfl (fun K hK => ?_)
          go_simp
          refine hK.out _ _ ?_
          clear hK K
          try simp only [Act.put, List.setIfInBounds_toArray, List.set_cons_zero, List.set_cons_succ]
          refine last.done (by kernel_rfl) ?_ _
          go_wp2_with fail
          go_roundw
          case rel => exact ⟨c + 1, by omega, by go_num, Q3, W3⟩
          case measure => simp [intOf]; omega
        · have hcz : ¬ (c : Int) < 8 := by omega
          obtain rfl : c = 8 := by omega
          obtain ⟨qa, ql, qc, rfl⟩ := make.shape hQ.out
          have Q4 : Hid (wj.ownsRow mm 3 1 (.slice qa ql qc) (DM xss yss q).length (i64s (DM xss yss q))) := Lib.hid (by
            have := hQ.out
            rw [List.take_of_length_le (by rw [len_dm]; omega)] at this
            rw [len_dm]; exact this)
          obtain ⟨f0, f1, fl⟩ := two_cells hW1.out.blk
          have f1' := fun (o1 : Obj) => below_cell (below_al (Below.refl _ _) o1) _ _ f1
          have hsz := hW1.out.below.size
          have hszm := hW1.out.le
          have hge := hW1.out.ge
          have hbz := hW1.out.blk.lt
          clear hQ
          go_wp2_with (at_builtin; go_must (refine wpList_append_own _ rfl (.tmp 46) (.tmp 48) 22 rfl (wb.heap.size + 1) 33 s0 (.slice none 0 0) 1 24 Try.underlying22 si sz0 sz1 sz2 rfl (by decide) _ _ _ rfl ((hW1.out.owns).alloc _) ⟨wj.heap.size, 0, none⟩ 1 1 [.slice qa ql qc] rfl rfl ?d1x0 ?d2x0 ?d3x0 ?d4x0 ?d5x0 ?_))
          try (case d1x0 => first | exact app.one_at _ _ _ | (have := app.one_at wj (.slice qa ql qc) 33; simpa using this))
          case d2x0 => first | rfl | (intro u hu; simp at hu; subst hu; rfl) | simp
          case d3x0 => unfold maxLen; omega
          case d4x0 => omega
          try (case d5x0 => first | omega | (simp; omega))
          intro v' w3 hown' hgrow _
          have HG := Lib.hid (hW1.out.keep (below_al (Below.refl _ _) (.cells #[.slice qa ql qc] 33)))
          obtain ⟨e1, e2⟩ := HG.out.field hgrow
          have W4 := Lib.hid (HG.out.grow (Q4.out.alloc (.cells #[.slice qa ql qc] 33)) HMB.out hown' hgrow)
          obtain ⟨xa, xl, xc, rfl⟩ := make.shape hown'
          clear hown' hgrow hW1 HG Q4 f0 f1 fl f1'
          go_wp2_with fail
          go_roundw
          case rel => exact ⟨q + 1, by omega, by go_num, _, _, _, W4⟩
          case measure => simp [intOf]; omega
    · have hqz : ¬ (q : Int) < 8 := by omega
      obtain rfl : q = 8 := by omega
      obtain ⟨xa, xl, xc, rfl⟩ := make.shape hW.out.owns
      obtain ⟨f0, f1, fl⟩ := two_cells hW.out.blk
      obtain ⟨r0, r1, rl⟩ := two_cells hW.out.res
      have rf : ∀ k, wo.frozen? ⟨wb.heap.size, k, none⟩ = false := fun k => Joins.unfrozen_of_block hW.out.res k
      have HW := hW
      clear hW
      go_wp2_with fail
      refine bodyPost_ret (v := .agg #[.int .i64 (wh + wh'), .slice xa xl xc]) (by simp [results, Try.results76, go_sem, r0, r1]) rfl ⟨_, rfl, ?_, ?_⟩
      · have hw : Wrote (fun p => p.block = wb.heap.size) wo ((wo.setCell ⟨wb.heap.size, 0, none⟩ (.int .i64 (wh + wh'))).setCell ⟨wb.heap.size, 1, none⟩ (.slice xa xl xc)) := Wrote.setCell (S := fun p => p.block = wb.heap.size) (Wrote.setCell (S := fun p => p.block = wb.heap.size) (Wrote.refl _ _) rfl _) rfl _
        exact (HW.out.apart hw).mono (by have := HZW.out; omega)
      · have hzw := HZW.out
        exact Below.setCell (Below.setCell (below_tr BB.out HW.out.below) (show w.heap.size ≤ wb.heap.size by omega) _) (show w.heap.size ≤ wb.heap.size by omega) _
set_option maxHeartbeats 4000000 in
theorem spec_low (wh : Int) (v : Value) (xss : List (List Int)) (wh' : Int) (v' : Value) (yss : List (List Int)) (w : World) (h : IRows w v xss) (h' : IRows w v' yss) (hn : total xss ≤ 1048576) (hn' : total yss ≤ 1048576) :
    Calls Try.prog 33 #[.agg #[.int .i64 wh, v], .agg #[.int .i64 wh', v']] w fun e w' => ∃ u, e = .returned (.tuple #[.agg #[.int .i64 (resM wh xss wh' yss).wh, u], .bool (resM wh xss wh' yss).ok]) ∧ LowT w' w.heap.size u (resM wh xss wh' yss).rows ∧ Below w.heap.size w w' := by
  obtain ⟨va, vn, vc, rfl⟩ := h.shape
  obtain ⟨ua, un, uc, rfl⟩ := h'.shape
  obtain ⟨W0, hW0⟩ : ∃ W, W = ((w.alloc (.cells #[.int .i64 wh, .slice va vn vc] 27)).alloc (.cells #[.int .i64 wh', .slice ua un uc] 27)).alloc (.cells #[.int .i64 0, .slice none 0 0] 27) := ⟨_, rfl⟩
  have Ka : Hid (Blk W0 w.heap.size 27 #[.int .i64 wh, .slice va vn vc]) := Lib.hid (by rw [hW0]; exact ((Blk.new _ _ _).alloc _).alloc _)
  have Kb : Hid (Blk W0 (w.heap.size + 1) 27 #[.int .i64 wh', .slice ua un uc]) := Lib.hid (by
    rw [hW0]
    have := (Blk.new (w.alloc (.cells #[.int .i64 wh, .slice va vn vc] 27)) 27 #[.int .i64 wh', .slice ua un uc]).alloc (.cells #[.int .i64 0, .slice none 0 0] 27)
    simpa using this)
  have Kr : Hid (Blk W0 (w.heap.size + 1 + 1) 27 #[.int .i64 0, .slice none 0 0]) := Lib.hid (by
    rw [hW0]
    have := Blk.new ((w.alloc (.cells #[.int .i64 wh, .slice va vn vc] 27)).alloc (.cells #[.int .i64 wh', .slice ua un uc] 27)) 27 #[.int .i64 0, .slice none 0 0]
    simpa using this)
  have B0 : Hid (Below w.heap.size w W0) := Lib.hid (by rw [hW0]; exact below_al (below_al (below_al (Below.refl _ _) _) _) _)
  have HA := Lib.hid (h.below B0.out)
  have HB := Lib.hid (h'.below B0.out)
  obtain ⟨a0, a1, _⟩ := two_cells Ka.out
  rw [hW0] at a0 a1
  clear h h'
  have HT := trv.spec_any wh _ xss W0 HA.out hn
  by_cases hA : okTrio wh xss
  · rw [trioB_yes hA] at HT
    have HT1 := Lib.hid HT
    have HT2 := Lib.hid (fun (W : World) (hW : Below W0.heap.size W0 W) => trv.spec_any wh' _ yss W (HB.out.below hW) hn')
    clear HT
    by_cases hB : okTrio wh' yss
    · rw [trioB_yes hB] at HT2
      have HOK := Lib.hid (show both wh xss wh' yss from ⟨hA, hB⟩)
      clear hA hB
      go_enter Try.func33, Try.ntmps33
      go_wp2_with fail
      rw [← hW0]
      clear hW0 a0 a1
      refine HT1.out.mono ?_
      rintro e w1 ⟨rfl, hb⟩
      have E1 := Lib.hid hb
      obtain ⟨b0, b1, _⟩ := two_cells (Kb.out.below hb)
      clear hb HT1
      go_wp2_with fail
      refine (HT2.out w1 E1.out).mono ?_
      rintro e w2 ⟨rfl, hb⟩
      have E2 := Lib.hid (below_tr E1.out hb)
      clear hb HT2 E1 b0 b1
      obtain ⟨a0, a1, _⟩ := two_cells (Ka.out.below E2.out)
      obtain ⟨b0, b1, _⟩ := two_cells (Kb.out.below E2.out)
      have HM := Lib.hid (l11mix wh _ xss wh' _ yss w2 (HA.out.below E2.out) (HB.out.below E2.out) HOK.out)
      go_wp2_with fail
      refine HM.out.mono ?_
      rintro e w3 ⟨u, rfl, hu, hb⟩
      obtain ⟨xa, xn, xc, rfl⟩ := hu.rows.shape
      have Z1 : Hid (w.heap.size + 1 + 1 < w2.heap.size) := Lib.hid (Kr.out.below E2.out).lt
      by_cases hv : okTrio (wh + wh') (rows8 (NM xss yss))
      · have HV := Lib.hid (tvk.kept_yes (wh + wh') _ _ w3 hu.rows (tot_rows8 _) hv)
        have HR := Lib.hid (resM_yes ⟨HOK.out, hv⟩)
        have U1 := Lib.hid hu
        have E3 := Lib.hid (below_tr E2.out hb)
        clear hu hb HM hv a0 a1 b0 b1
        go_wp2_with fail
        refine HV.out.mono ?_
        rintro e w4 ⟨rfl, hb⟩
        have K1 := Lib.hid (Kr.out.below (below_tr E3.out hb))
        have U2 := Lib.hid (U1.out.below hb)
        have B1 := Lib.hid (below_tr B0.out (below_tr E3.out hb))
        obtain ⟨r0, r1, rl⟩ := two_cells K1.out
        have rf : ∀ k, w4.frozen? ⟨w.heap.size + 1 + 1, k, none⟩ = false := fun k => Joins.unfrozen_of_block K1.out k
        clear hb HV U1
        go_wp2_with fail
        refine bodyPost_ret (v := .tuple #[.agg #[.int .i64 (wh + wh'), .slice xa xn xc], .bool true]) (by simp [results, Try.results33, go_sem, r0, r1]) rfl ?_
        rw [HR.out]
        refine ⟨_, rfl, ?_, ?_⟩
        · have hw : Wrote (fun p => p.block < w2.heap.size) w4 ((w4.setCell ⟨w.heap.size + 1 + 1, 0, none⟩ (.int .i64 (wh + wh'))).setCell ⟨w.heap.size + 1 + 1, 1, none⟩ (.slice xa xn xc)) := Wrote.setCell (S := fun p => p.block < w2.heap.size) (Wrote.setCell (S := fun p => p.block < w2.heap.size) (Wrote.refl _ _) Z1.out _) Z1.out _
          exact .inl ⟨8, DM xss yss, (U2.out.low hw).mono (by have := Z1.out; omega), rfl⟩
        · exact Below.setCell (Below.setCell B1.out (show w.heap.size ≤ w.heap.size + 1 + 1 by omega) _) (show w.heap.size ≤ w.heap.size + 1 + 1 by omega) _
      · have HV := Lib.hid (tvk.kept_no (wh + wh') _ _ w3 hu.rows (tot_rows8 _) hv)
        have HR := Lib.hid (resM_no (fun h => hv h.2))
        have E3 := Lib.hid (below_tr E2.out hb)
        clear hu hb HM hv a0 a1 b0 b1
        go_wp2_with fail
        refine HV.out.mono ?_
        rintro e w4 ⟨rfl, hb⟩
        have K1 := Lib.hid (Kr.out.below (below_tr E3.out hb))
        have B1 := Lib.hid (below_tr B0.out (below_tr E3.out hb))
        obtain ⟨r0, r1, rl⟩ := two_cells K1.out
        have rf : ∀ k, w4.frozen? ⟨w.heap.size + 1 + 1, k, none⟩ = false := fun k => Joins.unfrozen_of_block K1.out k
        go_wp2_with fail
        refine bodyPost_ret (v := .tuple #[.agg #[.int .i64 0, .slice none 0 0], .bool false]) (by simp [results, Try.results33, go_sem, r0, r1]) rfl ?_
        rw [HR.out]
        refine ⟨_, rfl, LowT.nil _ _, ?_⟩
        exact Below.setCell (Below.setCell B1.out (show w.heap.size ≤ w.heap.size + 1 + 1 by omega) _) (show w.heap.size ≤ w.heap.size + 1 + 1 by omega) _
    · rw [trioB_no hB] at HT2
      rw [resM_no (fun h => hB h.1.2)]
      clear hA hB
      go_enter Try.func33, Try.ntmps33
      go_wp2_with fail
      rw [← hW0]
      clear hW0 a0 a1
      refine HT1.out.mono ?_
      rintro e w1 ⟨rfl, hb⟩
      have E1 := Lib.hid hb
      obtain ⟨b0, b1, _⟩ := two_cells (Kb.out.below hb)
      clear hb HT1
      go_wp2_with fail
      refine (HT2.out w1 E1.out).mono ?_
      rintro e w2 ⟨rfl, hb⟩
      have K1 := Lib.hid (Kr.out.below (below_tr E1.out hb))
      have B1 := Lib.hid (below_tr B0.out (below_tr E1.out hb))
      obtain ⟨r0, r1, rl⟩ := two_cells K1.out
      have rf : ∀ k, w2.frozen? ⟨w.heap.size + 1 + 1, k, none⟩ = false := fun k => Joins.unfrozen_of_block K1.out k
      go_wp2_with fail
      refine bodyPost_ret (v := .tuple #[.agg #[.int .i64 0, .slice none 0 0], .bool false]) (by simp [results, Try.results33, go_sem, r0, r1]) rfl ⟨_, rfl, LowT.nil _ _, ?_⟩
      exact Below.setCell (Below.setCell B1.out (show w.heap.size ≤ w.heap.size + 1 + 1 by omega) _) (show w.heap.size ≤ w.heap.size + 1 + 1 by omega) _
  · rw [trioB_no hA] at HT
    have HT1 := Lib.hid HT
    rw [resM_no (fun h => hA h.1.1)]
    clear HT hA
    go_enter Try.func33, Try.ntmps33
    go_wp2_with fail
    rw [← hW0]
    clear hW0 a0 a1
    refine HT1.out.mono ?_
    rintro e w1 ⟨rfl, hb⟩
    have K1 := Lib.hid (Kr.out.below hb)
    have B1 := Lib.hid (below_tr B0.out hb)
    obtain ⟨r0, r1, rl⟩ := two_cells K1.out
    have rf : ∀ k, w1.frozen? ⟨w.heap.size + 1 + 1, k, none⟩ = false := fun k => Joins.unfrozen_of_block K1.out k
    go_wp2_with fail
    refine bodyPost_ret (v := .tuple #[.agg #[.int .i64 0, .slice none 0 0], .bool false]) (by simp [results, Try.results33, go_sem, r0, r1]) rfl ⟨_, rfl, LowT.nil _ _, ?_⟩
    exact Below.setCell (Below.setCell B1.out (show w.heap.size ≤ w.heap.size + 1 + 1 by omega) _) (show w.heap.size ≤ w.heap.size + 1 + 1 by omega) _

end Go.Proofs.Ytomofmmecpdalaa.tmx
