/- TurnTrio: both sides. -/
import Derived.Test.YtomofmmecpdalaaGrd
import Derived.Test.YtomofmmecpdalaaTvk
import Derived.Test.YtomofmmecpdalaaTra
import Derived.Test.YtomofmmecpdalaaLast
namespace Go.Proofs.Ytomofmmecpdalaa.trt
open Go.RowKit Go.Deep Go.Proofs.Ytomofmmecpdalaa.base
open Go.Proofs.Ytomofmmecpdalaa.rws (total)
open Go.Proofs.Ytomofmmecpdalaa.tri (two_cells)
open Go.Proofs.Ytomofmmecpdalaa.grd
open Go.Proofs.Ytomofmmecpdalaa.tvk (Res)
open Go.Proofs.Ytomofmmecpdalaa.trn (tc forms shape_of)
open Go.Proofs.Ytomofmmecpdalaa.trv (okTrio trioB trioB_yes trioB_no)

def bt (k : Nat) : Nat := 2 * (k % 4) + k / 4
def stn (k : Nat) : Nat := k / 2 + k % 2 * 4
theorem bt_stn {k : Nat} (h : k < 8) : bt (stn k) = k := by unfold bt stn; omega
theorem stn_bt {k : Nat} (h : k < 8) : stn (bt k) = k := by unfold bt stn; omega
theorem stn_lt {k : Nat} (h : k < 8) : stn k < 8 := by unfold stn; omega
theorem bt_lt {k : Nat} (h : k < 8) : bt k < 8 := by unfold bt; omega
def NT (xss : List (List Int)) (q k : Nat) : Int := tc xss (bt q) (bt k)
open Classical in
noncomputable def resT (wh : Int) (xss : List (List Int)) : Res := if okTrio wh xss then ⟨wh, rows8 (NT xss), true⟩ else Res.zero
theorem resT_yes {wh : Int} {xss : List (List Int)} (h : okTrio wh xss) : resT wh xss = ⟨wh, rows8 (NT xss), true⟩ := if_pos h
theorem resT_no {wh : Int} {xss : List (List Int)} (h : ¬ okTrio wh xss) : resT wh xss = Res.zero := if_neg h
theorem tot_resT (wh : Int) (xss : List (List Int)) : rws.total (resT wh xss).rows ≤ 1048576 := by
  by_cases h : okTrio wh xss
  · rw [resT_yes h]; exact tot_rows8 _
  · rw [resT_no h]; simp [Res.zero, rws.total]

theorem held2f {B : Nat} {w w' : World} {p1 p2 : Addr} {u1 u2 : Value} (hB : B = w.heap.size) (h1 : w.cell? p1 = some u1) (h2 : w.cell? p2 = some u2) (hf : w.frozen? p2 = false) (hb : Below B w w') :
    w'.cell? p1 = some u1 ∧ w'.cell? p2 = some u2 ∧ w'.frozen? p2 = false ∧ Below B w w' := by
  subst hB
  exact ⟨below_cell hb _ _ h1, below_cell hb _ _ h2, (hb.frozen (World.block_lt_of_cell? _ _ h2)).trans hf, hb⟩
theorem at3z (k : Nat) (hk : k < 8) (w : World) : Calls Try.prog 80 #[.int .i64 (k : Int)] w fun e w' => e = .returned (.agg #[.int .i64 ((k : Int) / 4 % 2), .int .i64 ((k : Int) / 2 % 2), .int .i64 ((k : Int) % 2)]) ∧ Below w.heap.size w w' := by
  have := trb.at3 k hk w
  simpa [trb.tb, trb.b3] using this

set_option maxHeartbeats 8000000 in
theorem makes (tv : Value) (wh : Int) (N : Nat → Nat → Int) (w : World)
    (hnum : ∀ (q c : Nat) (W : World), q < 8 → c < 8 → Below w.heap.size w W → Calls Try.prog 85 #[tv, .agg #[.int .i64 ((q : Int) / 4 % 2), .int .i64 ((q : Int) / 2 % 2), .int .i64 ((q : Int) % 2)], .agg #[.int .i64 ((c : Int) / 4 % 2), .int .i64 ((c : Int) / 2 % 2), .int .i64 ((c : Int) % 2)]] W fun e w' => e = .returned (.int .i64 (N q c)) ∧ Below W.heap.size W w') :
    Calls Try.prog 71 #[.int .i64 wh, .func (.func 85) #[tv] #[]] w fun e w' => ∃ u, e = .returned (.agg #[.int .i64 wh, u]) ∧ OwnRows w' w.heap.size w'.heap.size u (rows8 N) ∧ Below w.heap.size w w' := by
  have hmk : ∀ W : World, (Instr.makeSlice 33 (.int .i64 8) (.int .i64 8)).run Try.prog W = .ok (.slice (some ⟨W.heap.size, 0, none⟩) 8 8) (W.alloc (.cells (madeCells #[.int .i64 0] 8) 3)) := fun W => by kernel_rfl
  have hmr : ∀ W : World, (Instr.makeSlice 22 (.int .i64 8) (.int .i64 8)).run Try.prog W = .ok (.slice (some ⟨W.heap.size, 0, none⟩) 8 8) (W.alloc (.cells (madeCells #[.slice none 0 0] 8) 33)) := fun W => by kernel_rfl
  have HN := Lib.hid hnum
  clear hnum
  obtain ⟨W0, hW0⟩ : ∃ W, W = (w.alloc (.cells #[.int .i64 0, .slice none 0 0] 27)).alloc (.cells (madeCells #[.slice none 0 0] 8) 33) := ⟨_, rfl⟩
  have K0 : Hid (Blk W0 w.heap.size 27 #[.int .i64 0, .slice none 0 0]) := Lib.hid (by rw [hW0]; exact (Blk.new _ _ _).alloc _)
  have G0 : Hid (Grd w W0 (w.heap.size + 1) (up 0) (fun _ => 0) (Fq N 0 0)) := Lib.hid (by
    have hr : W0.rowIs (w.heap.size + 1) 33 8 (fun _ => .slice none 0 0) := by
      rw [hW0]
      have := World.rowIs_made (w.alloc (.cells #[.int .i64 0, .slice none 0 0] 27)) (.slice none 0 0) 8 33
      simpa using this
    refine ⟨by rw [hW0]; exact below_al (below_al (Below.refl _ _) _) _, by omega, hr.congr (fun i _ => by simp [outer, up]), fun i _ ho => by simp [up] at ho, fun i _ ho => by simp [up] at ho, fun i j _ _ ho => by simp [up] at ho⟩)
  go_enter Try.func71, Try.ntmps71
  go_wp2_with fail
  rw [← hW0]
  clear hW0 hmr
  go_loopw [11] (fun s wr => ∃ q : Nat, q ≤ 8 ∧ s = .int .i64 q ∧ ∃ gs, Hid (Grd w wr (w.heap.size + 1) (up q) gs (Fq N q 0)) ∧ Hid (Blk wr w.heap.size 27 #[.int .i64 0, .slice none 0 0])) (fun s _ => 8 - (intOf s).toNat)
  case atStart => exact ⟨0, by omega, rfl, _, G0, K0⟩
  case round =>
    obtain ⟨q, hq, rfl, gs, hG, hK⟩ := hrel
    clear G0 K0
    obtain ⟨wo, rfl⟩ : ∃ wo : World, wo = wr := ⟨_, rfl⟩
    by_cases hlt : q < 8
    · have hqz : (q : Int) < 8 := by omega
      have al := below_al (Below.refl wo.heap.size wo) (.cells (madeCells #[.int .i64 0] 8) 3)
      have G1 := hG.out.keep al
      have c1 := G1.out.cell hlt
      have f1 := G1.out.frozen q
      have eo : outer (up q) gs q = .slice none 0 0 := by simp [outer, up]
      rw [eo] at c1
      have G2 : Hid (Grd w ((wo.alloc (.cells (madeCells #[.int .i64 0] 8) 3)).setCell ⟨w.heap.size + 1, q, none⟩ (.slice (some ⟨wo.heap.size, 0, none⟩) 8 8)) (w.heap.size + 1) (up (q + 1)) (fun i => if i = q then wo.heap.size else gs i) (Fq N q 0)) := Lib.hid (by
        rw [← upd_up q]
        refine G1.put hlt (by simp [up]) ((World.rowIs_made wo (.int .i64 0) 8 3).congr (fun j _ => by simp only [Fq_zero])) hG.out.out.lt (fun i hi ho => ?_) (fun _ _ _ _ _ => rfl)
        have := (hG.out.row i hi ho).lt
        show gs i ≠ wo.heap.size
        omega)
      have K2 : Hid (Blk ((wo.alloc (.cells (madeCells #[.int .i64 0] 8) 3)).setCell ⟨w.heap.size + 1, q, none⟩ (.slice (some ⟨wo.heap.size, 0, none⟩) 8 8)) w.heap.size 27 #[.int .i64 0, .slice none 0 0]) := Lib.hid ((hK.out.alloc _).belowB (B := w.heap.size + 1) (Below.setCell (Below.refl _ _) (show w.heap.size + 1 ≤ (⟨w.heap.size + 1, q, none⟩ : Addr).block from Nat.le_refl _) _) (by omega))
      have c2 := G2.out.out.cell hlt
      have eo2 : outer (up (q + 1)) (fun i => if i = q then wo.heap.size else gs i) q = .slice (some ⟨wo.heap.size, 0, none⟩) 8 8 := by simp [outer, up]
      rw [eo2] at c2
      clear eo eo2 al G1 hG hK
      go_wp2_with fail
      generalize (wo.alloc (.cells (madeCells #[.int .i64 0] 8) 3)).setCell ⟨w.heap.size + 1, q, none⟩ (.slice (some ⟨wo.heap.size, 0, none⟩) 8 8) = W2 at *
      obtain ⟨gt, hgt⟩ : ∃ gt : Nat → Nat, gt = fun i => if i = q then wo.heap.size else gs i := ⟨_, rfl⟩
      have hgq : wo.heap.size = gt q := by rw [hgt]; simp
      rw [← hgt] at G2
      rw [hgq]
      rw [hgq] at c2
      clear c1 f1 hgt hgq
      go_loopw [23] (fun s wr => ∃ c : Nat, c ≤ 8 ∧ s = .int .i64 c ∧ Hid (Grd w wr (w.heap.size + 1) (up (q + 1)) gt (Fq N q c)) ∧ Hid (Blk wr w.heap.size 27 #[.int .i64 0, .slice none 0 0])) (fun s _ => 8 - (intOf s).toNat)
      case atStart => exact ⟨0, by omega, rfl, G2, K2⟩
      case round =>
        obtain ⟨c, hc, rfl, hG, hK⟩ := hrel
        clear G2 K2 c2
        obtain ⟨wj, rfl⟩ : ∃ wo : World, wo = wr := ⟨_, rfl⟩
        by_cases hlc : c < 8
        · have hcz : (c : Int) < 8 := by omega
          have hon : up (q + 1) q = true := by simp [up]
          have x1 := hG.out.out.cell hlt
          have eo : outer (up (q + 1)) gt q = .slice (some ⟨gt q, 0, none⟩) 8 8 := by simp [outer, hon]
          rw [eo] at x1
          have x2 := (hG.out.row q hlt hon).cell hlc
          have ez : Fq N q c q c = 0 := by simp [Fq]
          simp only [ez] at x2
          have f2 := (hG.out.row q hlt hon).frozen c
          have HA := Lib.hid (fun W => at3z q hlt W)
          have HB := Lib.hid (fun W => at3z c hlc W)
          have HC := Lib.hid (fun (W : World) (hW : Below wj.heap.size wj W) => HN.out q c W hlt hlc (below_tr hG.out.below hW))
          clear eo ez
          go_wp2_with fail
          refine last.start (S := fun w' => w'.cell? ⟨w.heap.size + 1, q, none⟩ = some (.slice (some ⟨gt q, 0, none⟩) 8 8) ∧ w'.cell? ⟨gt q, c, none⟩ = some (.int .i64 0) ∧ w'.frozen? ⟨gt q, c, none⟩ = false ∧ Below wj.heap.size wj w') (L := 12) (by kernel_rfl) ?_
          have hHeld := held2f rfl x1 x2 f2 (below_dr (Below.refl _ _))
          refine last.take (i := 0) (oi := { dst := some 26, op := Op.move (Operand.tmp 5), type := 22, pos := "l11_three.go:122", after := #[], guard := none }) (v := ?v0) rfl (by kernel_rfl) (by kernel_rfl) (by kernel_rfl) (by kernel_rfl) (by decide) (fun _ _ _ h => h) (Or.inl ⟨by rfl, ?y0⟩) hHeld ?r0
          case y0 => (intro w hSw; (try dsimp only at hSw); go_simp; try with_reducible rfl)
          try simp only [Act.put, List.setIfInBounds_toArray, List.set_cons_zero, List.set_cons_succ]
          refine last.take (i := 1) (oi := { dst := some 27, op := Op.move (Operand.tmp 6), type := 3, pos := "l11_three.go:122", after := #[], guard := none }) (v := ?v1) rfl (by kernel_rfl) (by kernel_rfl) (by kernel_rfl) (by kernel_rfl) (by decide) (fun _ _ _ h => h) (Or.inl ⟨by rfl, ?y1⟩) hHeld ?r1
          case y1 => (intro w hSw; (try dsimp only at hSw); go_simp; try with_reducible rfl)
          try simp only [Act.put, List.setIfInBounds_toArray, List.set_cons_zero, List.set_cons_succ]
          refine last.take (i := 2) (oi := { dst := some 28, op := Op.indexAddr 22 (Operand.tmp 26) (Operand.tmp 27), type := 0, pos := "l11_three.go:122", after := #[{ on := 0, ground := Ground.data }, { on := 1, ground := Ground.data }], guard := none }) (v := ?v2) rfl (by kernel_rfl) (by kernel_rfl) (by kernel_rfl) (by kernel_rfl) (by decide) (fun _ _ _ h => h) (Or.inl ⟨by rfl, ?y2⟩) hHeld ?r2
          case y2 => (intro w hSw; (try dsimp only at hSw); go_simp; try with_reducible rfl)
          try simp only [Act.put, List.setIfInBounds_toArray, List.set_cons_zero, List.set_cons_succ]
          refine last.take (i := 3) (oi := { dst := some 29, op := Op.load 33 (Operand.tmp 28), type := 33, pos := "l11_three.go:122", after := #[{ on := 2, ground := Ground.data }], guard := none }) (v := ?v3) rfl (by kernel_rfl) (by kernel_rfl) (by kernel_rfl) (by kernel_rfl) (by decide) (fun _ _ _ h => h) (Or.inl ⟨by rfl, ?y3⟩) hHeld ?r3
          case y3 => (intro w hSw; (try dsimp only at hSw); go_simp; try with_reducible rfl)
          try simp only [Act.put, List.setIfInBounds_toArray, List.set_cons_zero, List.set_cons_succ]
          refine last.take (i := 4) (oi := { dst := some 30, op := Op.move (Operand.tmp 7), type := 3, pos := "l11_three.go:122", after := #[], guard := none }) (v := ?v4) rfl (by kernel_rfl) (by kernel_rfl) (by kernel_rfl) (by kernel_rfl) (by decide) (fun _ _ _ h => h) (Or.inl ⟨by rfl, ?y4⟩) hHeld ?r4
          case y4 => (intro w hSw; (try dsimp only at hSw); go_simp; try with_reducible rfl)
          try simp only [Act.put, List.setIfInBounds_toArray, List.set_cons_zero, List.set_cons_succ]
          refine last.take (i := 5) (oi := { dst := some 31, op := Op.move (Operand.tmp 1), type := 78, pos := "l11_three.go:122", after := #[], guard := none }) (v := ?v5) rfl (by kernel_rfl) (by kernel_rfl) (by kernel_rfl) (by kernel_rfl) (by decide) (fun _ _ _ h => h) (Or.inl ⟨by rfl, ?y5⟩) hHeld ?r5
          case y5 => (intro w hSw; (try dsimp only at hSw); go_simp; try with_reducible rfl)
          try simp only [Act.put, List.setIfInBounds_toArray, List.set_cons_zero, List.set_cons_succ]
          refine last.take (i := 6) (oi := { dst := some 32, op := Op.move (Operand.tmp 6), type := 3, pos := "l11_three.go:122", after := #[], guard := none }) (v := ?v6) rfl (by kernel_rfl) (by kernel_rfl) (by kernel_rfl) (by kernel_rfl) (by decide) (fun _ _ _ h => h) (Or.inl ⟨by rfl, ?y6⟩) hHeld ?r6
          case y6 => (intro w hSw; (try dsimp only at hSw); go_simp; try with_reducible rfl)
          try simp only [Act.put, List.setIfInBounds_toArray, List.set_cons_zero, List.set_cons_succ]
          refine last.take (i := 8) (oi := { dst := some 34, op := Op.move (Operand.tmp 7), type := 3, pos := "l11_three.go:122", after := #[], guard := none }) (v := ?v8) rfl (by kernel_rfl) (by kernel_rfl) (by kernel_rfl) (by kernel_rfl) (by decide) (fun _ _ _ h => h) (Or.inl ⟨by rfl, ?y8⟩) hHeld ?r8
          case y8 => (intro w hSw; (try dsimp only at hSw); go_simp; try with_reducible rfl)
          try simp only [Act.put, List.setIfInBounds_toArray, List.set_cons_zero, List.set_cons_succ]
          refine last.one (i := 7) (o := { dst := some 33, op := Op.call { callee := Callee.value (Operand.func 80), args := #[Operand.tmp 32], argTypes := #[3] }, type := 76, pos := "l11_three.go:122", after := #[{ on := 6, ground := Ground.data }], guard := none }) (by kernel_rfl) rfl (fun K hK => ?_)
          go_simp
          (go_at_call 80; (with_reducible refine (HA.out _).mono ?_); rintro e y0 ⟨rfl, hy0⟩)
          refine hK.out _ _ ?s7 (fun hHeld => ?_)
          case s7 => (try dsimp only); (refine held2f rfl x1 x2 f2 ?_; repeat (first | (with_reducible exact Below.refl _ _) | (with_reducible refine below_dr ?_) | (with_reducible refine below_tr ?_ (by assumption))))
          clear hK K
          try simp only [Act.put, List.setIfInBounds_toArray, List.set_cons_zero, List.set_cons_succ]
          refine last.one (i := 9) (o := { dst := some 35, op := Op.call { callee := Callee.value (Operand.func 80), args := #[Operand.tmp 34], argTypes := #[3] }, type := 76, pos := "l11_three.go:122", after := #[{ on := 8, ground := Ground.data }, { on := 7, ground := Ground.chain }], guard := none }) (by kernel_rfl) rfl (fun K hK => ?_)
          go_simp
          (go_at_call 80; (with_reducible refine (HB.out _).mono ?_); rintro e y1 ⟨rfl, hy1⟩)
          refine hK.out _ _ ?s9 (fun hHeld => ?_)
          case s9 => (try dsimp only); (refine held2f rfl x1 x2 f2 ?_; repeat (first | (with_reducible exact Below.refl _ _) | (with_reducible refine below_dr ?_) | (with_reducible refine below_tr ?_ (by assumption))))
          clear hK K
          try simp only [Act.put, List.setIfInBounds_toArray, List.set_cons_zero, List.set_cons_succ]
          refine last.one (i := 10) (o := { dst := some 36, op := Op.call { callee := Callee.value (Operand.tmp 31), args := #[Operand.tmp 33, Operand.tmp 35], argTypes := #[76, 76] }, type := 3, pos := "l11_three.go:122", after := #[{ on := 5, ground := Ground.data }, { on := 7, ground := Ground.data }, { on := 9, ground := Ground.data }, { on := 9, ground := Ground.chain }], guard := none }) (by kernel_rfl) rfl (fun K hK => ?_)
          go_simp
          (go_at_call 85; (with_reducible refine (HC.out _ (by repeat (first | (with_reducible exact Below.refl _ _) | (with_reducible refine below_dr ?_) | (with_reducible refine below_tr ?_ (by assumption))))).mono ?_); rintro e y2 ⟨rfl, hy2⟩)
          refine hK.out _ _ ?s10 (fun hHeld => ?_)
          case s10 => (try dsimp only); (refine held2f rfl x1 x2 f2 ?_; repeat (first | (with_reducible exact Below.refl _ _) | (with_reducible refine below_dr ?_) | (with_reducible refine below_tr ?_ (by assumption))))
          clear hK K
          try simp only [Act.put, List.setIfInBounds_toArray, List.set_cons_zero, List.set_cons_succ]
          refine last.take (i := 11) (oi := { dst := some 37, op := Op.indexAddr 33 (Operand.tmp 29) (Operand.tmp 30), type := 0, pos := "l11_three.go:122", after := #[{ on := 3, ground := Ground.data }, { on := 4, ground := Ground.data }, { on := 0, ground := Ground.phase }, { on := 1, ground := Ground.phase }, { on := 2, ground := Ground.phase }, { on := 3, ground := Ground.phase }, { on := 4, ground := Ground.phase }, { on := 5, ground := Ground.phase }, { on := 6, ground := Ground.phase }, { on := 7, ground := Ground.phase }, { on := 8, ground := Ground.phase }, { on := 9, ground := Ground.phase }, { on := 10, ground := Ground.phase }], guard := none }) (v := ?v11) rfl (by kernel_rfl) (by kernel_rfl) (by kernel_rfl) (by kernel_rfl) (by decide) (fun _ _ _ h => h) (Or.inl ⟨by rfl, ?y11⟩) hHeld ?r11
          case y11 => (intro w hSw; (try dsimp only at hSw); go_simp; try with_reducible rfl)
          try simp only [Act.put, List.setIfInBounds_toArray, List.set_cons_zero, List.set_cons_succ]
          have E9 : Below wj.heap.size wj y2 := below_tr (below_tr (below_tr (below_dr (Below.refl _ _)) hy0) hy1) hy2
          have G9 := Lib.hid (hG.out.keep E9)
          have K9 := Lib.hid (hK.out.below E9)
          obtain ⟨_, q9, f9, _⟩ := hHeld
          have G10 := Lib.hid (G9.out.store hlt hon (N q c) (F' := Fq N q (c + 1)) (fun i j _ _ _ => Fq_step N q c i j))
          have K10 : Hid (Blk (y2.setCell ⟨gt q, c, none⟩ (.int .i64 (N q c))) w.heap.size 27 #[.int .i64 0, .slice none 0 0]) := Lib.hid (K9.out.belowB (B := w.heap.size + 1) (Below.setCell (Below.refl _ _) (show w.heap.size + 1 ≤ (⟨gt q, c, none⟩ : Addr).block from Nat.le_of_lt (G9.out.ge q hlt hon)) _) (by omega))
          clear x1 x2 f2 hy0 hy1 hy2 E9 G9 K9 hG hK HA HB HC
          refine last.final (o := { dst := none, op := Op.store 3 (Operand.tmp 37) (Operand.tmp 36), type := 0, pos := "l11_three.go:122", after := #[{ on := 11, ground := Ground.data }, { on := 10, ground := Ground.data }, { on := 10, ground := Ground.chain }, { on := 0, ground := Ground.phase }, { on := 1, ground := Ground.phase }, { on := 2, ground := Ground.phase }, { on := 3, ground := Ground.phase }, { on := 4, ground := Ground.phase }, { on := 5, ground := Ground.phase }, { on := 6, ground := Ground.phase }, { on := 7, ground := Ground.phase }, { on := 8, ground := Ground.phase }, { on := 9, ground := Ground.phase }, { on := 10, ground := Ground.phase }], guard := none }) (by kernel_rfl) rfl (fun K hK => ?_)
          go_simp
          refine hK.out _ _ ?_
          clear hK K
          try simp only [Act.put, List.setIfInBounds_toArray, List.set_cons_zero, List.set_cons_succ]
          refine last.done (by kernel_rfl) ?_ _
          generalize y2.setCell ⟨gt q, c, none⟩ (.int .i64 (N q c)) = w5 at *
          go_wp2_with fail
          go_roundw
          case rel => exact ⟨c + 1, by omega, by go_num, G10, K10⟩
          case measure => simp [intOf]; omega
        · have hcz : ¬ (c : Int) < 8 := by omega
          obtain rfl : c = 8 := by omega
          go_wp2_with fail
          go_roundw
          case rel => exact ⟨q + 1, by omega, by go_num, gt, Lib.hid (hG.out.congr (fun i j _ hj ho => Fq_next N q i j hj (by simpa [up] using ho))), hK⟩
          case measure => simp [intOf]; omega
    · have hqz : ¬ (q : Int) < 8 := by omega
      obtain rfl : q = 8 := by omega
      have HO := Lib.hid (hG.out.done (fun i hi => by simpa [up] using hi))
      rw [rows8_congr (fun i j hi _ => Fq_all N i j hi)] at HO
      have HB := Lib.hid hG.out.below
      obtain ⟨r0, r1, rl⟩ := two_cells hK.out
      have rf : ∀ k, wo.frozen? ⟨w.heap.size, k, none⟩ = false := fun k => Joins.unfrozen_of_block hK.out k
      clear hG
      go_wp2_with fail
      refine bodyPost_ret (v := .agg #[.int .i64 wh, .slice (some ⟨w.heap.size + 1, 0, none⟩) 8 8]) (by simp [results, Try.results71, go_sem, r0, r1]) rfl ⟨_, rfl, ?_, ?_⟩
      · have hw : Wrote (fun p => p.block = w.heap.size) wo ((wo.setCell ⟨w.heap.size, 0, none⟩ (.int .i64 wh)).setCell ⟨w.heap.size, 1, none⟩ (.slice (some ⟨w.heap.size + 1, 0, none⟩) 8 8)) := Wrote.setCell (S := fun p => p.block = w.heap.size) (Wrote.setCell (S := fun p => p.block = w.heap.size) (Wrote.refl _ _) rfl _) rfl _
        exact (HO.out.wrote hw (fun p hp => .inl (by have e : p.block = w.heap.size := hp; omega))).mono (by omega) (by simp [World.setCell])
      · exact Below.setCell (Below.setCell HB.out (Nat.le_refl _) _) (Nat.le_refl _) _

set_option maxHeartbeats 4000000 in
theorem impl_any (wh : Int) (v : Value) (xss : List (List Int)) (w : World) (h : IRows w v xss) (hn : total xss ≤ 1048576) :
    Calls Try.prog 43 #[.agg #[.int .i64 wh, v]] w fun e w' => ∃ u, e = .returned (.tuple #[.agg #[.int .i64 (resT wh xss).wh, u], .bool (resT wh xss).ok]) ∧ OwnRows w' w.heap.size w'.heap.size u (resT wh xss).rows ∧ Below w.heap.size w w' := by
  obtain ⟨va, vn, vc, rfl⟩ := h.shape
  obtain ⟨W0, hW0⟩ : ∃ W, W = (w.alloc (.cells #[.int .i64 wh, .slice va vn vc] 27)).alloc (.cells #[.int .i64 0, .slice none 0 0] 27) := ⟨_, rfl⟩
  have Kt : Hid (Blk W0 w.heap.size 27 #[.int .i64 wh, .slice va vn vc]) := Lib.hid (by rw [hW0]; exact (Blk.new _ _ _).alloc _)
  have Kr : Hid (Blk W0 (w.heap.size + 1) 27 #[.int .i64 0, .slice none 0 0]) := Lib.hid (by
    rw [hW0]
    have := Blk.new (w.alloc (.cells #[.int .i64 wh, .slice va vn vc] 27)) 27 #[.int .i64 0, .slice none 0 0]
    simpa using this)
  have B0 : Hid (Below w.heap.size w W0) := Lib.hid (by rw [hW0]; exact below_al (below_al (Below.refl _ _) _) _)
  have HI := Lib.hid (h.below B0.out)
  have HT := trv.impl_any wh _ xss W0 HI.out hn
  obtain ⟨t0, t1, _⟩ := two_cells Kt.out
  rw [hW0] at t0 t1
  clear h
  by_cases hok : okTrio wh xss
  · rw [trioB_yes hok] at HT
    rw [resT_yes hok]
    have HT' := Lib.hid HT
    have HM := Lib.hid (fun (W1 : World) (hW1 : Below W0.heap.size W0 W1) => makes (.agg #[.int .i64 wh, .slice va vn vc]) wh (NT xss) W1 (fun q c W hq hc hW => trn.turned_g wh _ xss ((q : Int) / 4 % 2) ((q : Int) / 2 % 2) ((q : Int) % 2) ((c : Int) / 4 % 2) ((c : Int) / 2 % 2) ((c : Int) % 2) (bt q) (bt c) W ((HI.out.below hW1).below hW) (shape_of hok) (by omega) (by omega) (by omega) (by omega) (by omega) (by omega) (by unfold bt; omega) (by unfold bt; omega)))
    clear HT hok
    go_enter Try.func43, Try.ntmps43
    go_wp2_with fail
    rw [← hW0]
    clear hW0 t0 t1
    refine HT'.out.mono ?_
    rintro e w1 ⟨rfl, hb⟩
    have HB := Lib.hid hb
    obtain ⟨t0, t1, _⟩ := two_cells (Kt.out.below hb)
    clear hb HT'
    go_wp2_with fail
    refine (HM.out w1 HB.out).mono ?_
    rintro e w2 ⟨u, rfl, hu, hb⟩
    obtain ⟨ua, un, uc, rfl⟩ := hu.rows.shape
    have K1 := Lib.hid (Kr.out.below (below_tr HB.out hb))
    have U1 := Lib.hid hu
    have B1 := Lib.hid (below_tr B0.out (below_tr HB.out hb))
    have Z1 : Hid (w.heap.size + 1 < w1.heap.size) := Lib.hid (Kr.out.below HB.out).lt
    obtain ⟨r0, r1, rl⟩ := two_cells K1.out
    have rf : ∀ k, w2.frozen? ⟨w.heap.size + 1, k, none⟩ = false := fun k => Joins.unfrozen_of_block K1.out k
    clear hu hb HM t0 t1
    go_wp2_with fail
    refine bodyPost_ret (v := .tuple #[.agg #[.int .i64 wh, .slice ua un uc], .bool true]) (by simp [results, Try.results43, go_sem, r0, r1]) rfl ⟨_, rfl, ?_, ?_⟩
    · have hw : Wrote (fun p => p.block = w.heap.size + 1) w2 ((w2.setCell ⟨w.heap.size + 1, 0, none⟩ (.int .i64 wh)).setCell ⟨w.heap.size + 1, 1, none⟩ (.slice ua un uc)) := Wrote.setCell (S := fun p => p.block = w.heap.size + 1) (Wrote.setCell (S := fun p => p.block = w.heap.size + 1) (Wrote.refl _ _) rfl _) rfl _
      exact (U1.out.wrote hw (fun p hp => .inl (by have e : p.block = w.heap.size + 1 := hp; have := Z1.out; omega))).mono (by have := Z1.out; omega) (by simp [World.setCell])
    · exact Below.setCell (Below.setCell B1.out (show w.heap.size ≤ w.heap.size + 1 by omega) _) (show w.heap.size ≤ w.heap.size + 1 by omega) _
  · rw [trioB_no hok] at HT
    rw [resT_no hok]
    have HT' := Lib.hid HT
    clear HT hok
    go_enter Try.func43, Try.ntmps43
    go_wp2_with fail
    rw [← hW0]
    clear hW0 t0 t1
    refine HT'.out.mono ?_
    rintro e w1 ⟨rfl, hb⟩
    have K1 := Lib.hid (Kr.out.below hb)
    have B1 := Lib.hid (below_tr B0.out hb)
    obtain ⟨r0, r1, rl⟩ := two_cells K1.out
    have rf : ∀ k, w1.frozen? ⟨w.heap.size + 1, k, none⟩ = false := fun k => Joins.unfrozen_of_block K1.out k
    go_wp2_with fail
    refine bodyPost_ret (v := .tuple #[.agg #[.int .i64 0, .slice none 0 0], .bool false]) (by simp [results, Try.results43, go_sem, r0, r1]) rfl ⟨_, rfl, OwnRows.nil _ _ _, ?_⟩
    exact Below.setCell (Below.setCell B1.out (show w.heap.size ≤ w.heap.size + 1 by omega) _) (show w.heap.size ≤ w.heap.size + 1 by omega) _

theorem held4f {B : Nat} {w w' : World} {p1 p2 p3 p4 : Addr} {u1 u2 u3 u4 : Value} (hB : B = w.heap.size) (h1 : w.cell? p1 = some u1) (h2 : w.cell? p2 = some u2) (h3 : w.cell? p3 = some u3) (h4 : w.cell? p4 = some u4) (hf : w.frozen? p4 = false) (hb : Below B w w') :
    w'.cell? p1 = some u1 ∧ w'.cell? p2 = some u2 ∧ w'.cell? p3 = some u3 ∧ w'.cell? p4 = some u4 ∧ w'.frozen? p4 = false ∧ Below B w w' := by
  subst hB
  exact ⟨below_cell hb _ _ h1, below_cell hb _ _ h2, below_cell hb _ _ h3, below_cell hb _ _ h4, (hb.frozen (World.block_lt_of_cell? _ _ h4)).trans hf, hb⟩

/-! ### the model -/
theorem turned_q (k : Nat) (hk : k < 8) (w : World) : Calls Try.prog 84 #[.int .i64 (k : Int)] w fun e w' => e = .returned (.int .i64 (stn k : Int)) ∧ w = w' := tra.sturn k hk w
/-- the rows that are stored, the numbers of a row that are stored -/
def onq (q : Nat) : Nat → Bool := fun i => decide (i < 8 ∧ bt i < q)
def row1 (xss : List (List Int)) (q k i : Nat) : Int := if bt i < k then tc xss q (bt i) else 0
theorem upd_onq {q : Nat} (hq : q < 8) : upd (onq q) (stn q) = onq (q + 1) := by
  funext i
  unfold upd onq
  by_cases e : i = stn q
  · subst e; simp [bt_stn hq, stn_lt hq]
  · by_cases h8 : i < 8
    · have : bt i ≠ q := fun h => e (by rw [← h, stn_bt h8])
      have : (bt i < q + 1) = (bt i < q) := by apply propext; omega
      simp [e, this]
    · simp [e, h8]
theorem off_onq {q : Nat} (hq : q < 8) : onq q (stn q) = false := by simp [onq, bt_stn hq]
theorem row1_set {xss : List (List Int)} {q k i : Nat} (hk : k < 8) (hi : i < 8) : (if i = stn k then tc xss q k else row1 xss q k i) = row1 xss q (k + 1) i := by
  unfold row1
  by_cases e : i = stn k
  · subst e; simp [bt_stn hk]
  · have : bt i ≠ k := fun h => e (by rw [← h, stn_bt hi])
    have : (bt i < k + 1) = (bt i < k) := by apply propext; omega
    simp [e, this]
/-- the Trio under way: its own block T, the rows' block R -/
structure TW (w W : World) (T R : Nat) (wh : Int) (on : Nat → Bool) (gs : Nat → Nat) (F : Nat → Nat → Int) : Prop where
  grd : Grd w W R on gs F
  blk : Blk W T 27 #[.int .i64 wh, .slice (some ⟨R, 0, none⟩) 8 8]
  tge : w.heap.size ≤ T
  tne : T ≠ R
theorem TW.keep {w W W' : World} {T R : Nat} {wh : Int} {on : Nat → Bool} {gs : Nat → Nat} {F : Nat → Nat → Int} (h : TW w W T R wh on gs F) (hb : Below W.heap.size W W') : TW w W' T R wh on gs F := ⟨h.grd.keep hb, h.blk.below hb, h.tge, h.tne⟩
set_option maxRecDepth 100000 in
set_option maxHeartbeats 8000000 in
theorem spec_any (wh : Int) (v : Value) (xss : List (List Int)) (w : World) (h : IRows w v xss) (hn : total xss ≤ 1048576) :
    Calls Try.prog 42 #[.agg #[.int .i64 wh, v]] w fun e w' => ∃ u, e = .returned (.tuple #[.agg #[.int .i64 (resT wh xss).wh, u], .bool (resT wh xss).ok]) ∧ IRows w' u (resT wh xss).rows ∧ Below w.heap.size w w' := by
  have hmk : ∀ W : World, (Instr.makeSlice 33 (.int .i64 8) (.int .i64 8)).run Try.prog W = .ok (.slice (some ⟨W.heap.size, 0, none⟩) 8 8) (W.alloc (.cells (madeCells #[.int .i64 0] 8) 3)) := fun W => by kernel_rfl
  have hmr : ∀ W : World, (Instr.makeSlice 22 (.int .i64 8) (.int .i64 8)).run Try.prog W = .ok (.slice (some ⟨W.heap.size, 0, none⟩) 8 8) (W.alloc (.cells (madeCells #[.slice none 0 0] 8) 33)) := fun W => by kernel_rfl
  obtain ⟨va, vn, vc, rfl⟩ := h.shape
  obtain ⟨W0, hW0⟩ : ∃ W, W = (w.alloc (.cells #[.int .i64 wh, .slice va vn vc] 27)).alloc (.cells #[.int .i64 0, .slice none 0 0] 27) := ⟨_, rfl⟩
  have Kt : Hid (Blk W0 w.heap.size 27 #[.int .i64 wh, .slice va vn vc]) := Lib.hid (by rw [hW0]; exact (Blk.new _ _ _).alloc _)
  have Kr : Hid (Blk W0 (w.heap.size + 1) 27 #[.int .i64 0, .slice none 0 0]) := Lib.hid (by
    rw [hW0]
    have := Blk.new (w.alloc (.cells #[.int .i64 wh, .slice va vn vc] 27)) 27 #[.int .i64 0, .slice none 0 0]
    simpa using this)
  have B0 : Hid (Below w.heap.size w W0) := Lib.hid (by rw [hW0]; exact below_al (below_al (Below.refl _ _) _) _)
  have HI := Lib.hid (h.below B0.out)
  have HT := trv.spec_any wh _ xss W0 HI.out hn
  obtain ⟨t0, t1, _⟩ := two_cells Kt.out
  rw [hW0] at t0 t1
  by_cases hok : okTrio wh xss
  · rw [trioB_yes hok] at HT
    rw [resT_yes hok]
    have HT' := Lib.hid HT
    obtain ⟨B, o, cap, rb, ro, rc, hv, h1, h2⟩ := forms h (shape_of hok)
    injection hv with hv1 hv2 hv3
    subst hv1 hv2 hv3
    have H1 := Lib.hid h1
    have H2 := Lib.hid h2
    clear HT hok h1 h2 h HI
    go_enter Try.func42, Try.ntmps42
    go_wp2_with fail
    rw [← hW0]
    clear hW0 t0 t1
    refine HT'.out.mono ?_
    rintro e w1 ⟨rfl, hb⟩
    have Kt := Lib.hid (Kt.out.below hb)
    have Kr := Lib.hid (Kr.out.below hb)
    have B1 := Lib.hid (below_tr B0.out hb)
    obtain ⟨t0, t1, _⟩ := two_cells Kt.out
    clear hb HT' B0
    go_wp2_with fail
    go_region

    · skip
      have HW : Hid (TW w1 (((w1.alloc (.cells (madeCells #[.slice none 0 0] 8) 33)).alloc (.cells #[.int .i64 wh, .slice (some ⟨w1.heap.size, 0, none⟩) 8 8] 27)).drew) (w1.heap.size + 1) w1.heap.size wh (onq 0) (fun _ => 0) (NT xss)) := Lib.hid (by
        have hr : (((w1.alloc (.cells (madeCells #[.slice none 0 0] 8) 33)).alloc (.cells #[.int .i64 wh, .slice (some ⟨w1.heap.size, 0, none⟩) 8 8] 27)).drew).rowIs w1.heap.size 33 8 (fun _ => .slice none 0 0) := ((World.rowIs_made w1 (.slice none 0 0) 8 33).alloc _).drew
        have hk : Blk (((w1.alloc (.cells (madeCells #[.slice none 0 0] 8) 33)).alloc (.cells #[.int .i64 wh, .slice (some ⟨w1.heap.size, 0, none⟩) 8 8] 27)).drew) (w1.heap.size + 1) 27 #[.int .i64 wh, .slice (some ⟨w1.heap.size, 0, none⟩) 8 8] := (show Blk ((w1.alloc (.cells (madeCells #[.slice none 0 0] 8) 33)).alloc (.cells #[.int .i64 wh, .slice (some ⟨w1.heap.size, 0, none⟩) 8 8] 27)) (w1.heap.size + 1) 27 #[.int .i64 wh, .slice (some ⟨w1.heap.size, 0, none⟩) 8 8] from by have := Blk.new (w1.alloc (.cells (madeCells #[.slice none 0 0] 8) 33)) 27 #[.int .i64 wh, .slice (some ⟨w1.heap.size, 0, none⟩) 8 8]; simpa using this)
        exact ⟨⟨(below_al (below_al (Below.refl _ _) _) _).drew, by omega, hr.congr (fun i _ => by simp [outer, onq]), fun i _ ho => by simp [onq] at ho, fun i _ ho => by simp [onq] at ho, fun i j _ _ ho => by simp [onq] at ho⟩, hk, by omega, by omega⟩)
      have HZ : Hid (w.heap.size + 1 < w1.heap.size ∧ w.heap.size + 1 < (w1.heap.size + 1)) := Lib.hid (by have := Kr.out.lt; omega)
      clear t0 t1 hmr
      generalize (((w1.alloc (.cells (madeCells #[.slice none 0 0] 8) 33)).alloc (.cells #[.int .i64 wh, .slice (some ⟨w1.heap.size, 0, none⟩) 8 8] 27)).drew) = W1 at *
      generalize w1.heap.size + 1 = T at *
      generalize w1.heap.size = R at *
      go_wp2_with fail
      go_loopw [5] (fun i wr => ∃ q : Nat, q ≤ 8 ∧ i = .int .i64 q ∧ ∃ gs, Hid (TW w1 wr T R wh (onq q) gs (NT xss))) (fun i _ => 8 - (intOf i).toNat)
      case atStart => exact ⟨0, by omega, rfl, _, HW⟩
      case round =>
        obtain ⟨q, hq, rfl, gs, hW⟩ := hrel
        clear HW
        obtain ⟨wo, rfl⟩ : ∃ wo : World, wo = wr := ⟨_, rfl⟩
        by_cases hlt : q < 8
        · have hqz : (q : Int) < 8 := by omega
          have hB0 : Hid (Below wo.heap.size wo (wo.alloc (.cells (madeCells #[.int .i64 0] 8) 3))) := Lib.hid (below_al (Below.refl _ _) _)
          have hR0 : Hid ((wo.alloc (.cells (madeCells #[.int .i64 0] 8) 3)).rowIs wo.heap.size 3 8 (fun i => .int .i64 (row1 xss q 0 i))) := Lib.hid ((World.rowIs_made wo (.int .i64 0) 8 3).congr (fun i _ => by simp [row1]))
          go_wp2_with fail
          generalize (wo.alloc (.cells (madeCells #[.int .i64 0] 8) 3)) = W2 at *
          go_loopw [7] (fun i wi => ∃ k : Nat, k ≤ 8 ∧ i = .int .i64 k ∧ Hid (Below wo.heap.size wo wi) ∧ Hid (wi.rowIs wo.heap.size 3 8 (fun i => .int .i64 (row1 xss q k i)))) (fun i _ => 8 - (intOf i).toNat)
          case atStart => exact ⟨0, by omega, rfl, hB0, hR0⟩
          case round =>
            obtain ⟨k, hk, rfl, hB, hR⟩ := hrel
            clear hB0 hR0
            obtain ⟨wi, rfl⟩ : ∃ wo : World, wo = wr := ⟨_, rfl⟩
            by_cases hlk : k < 8
            · have hkz : (k : Int) < 8 := by omega
              have EB := below_tr hW.out.grd.below hB.out
              obtain ⟨_, t1, _⟩ := two_cells (Kt.out.below EB)
              have x1 := below_cell (below_tr B1.out EB) _ _ (H1.out q hlt)
              have x2 := below_cell (below_tr B1.out EB) _ _ (H2.out q hlt k hlk)
              have hs8 := stn_lt hlk
              have sz8 : (stn k : Int) < 8 := by omega
              have r1 := hR.out.cell hs8
              have f1 := hR.out.frozen (stn k)
              have R2 := Lib.hid (((hR.out.set (stn k) (.int .i64 (tc xss q k))).drew).congr (g := fun i => .int .i64 (row1 xss q (k + 1) i)) (fun i hi => by
                rw [← row1_set hlk hi]
                by_cases e : i = stn k <;> simp [e]))
              have B2 := Lib.hid (Below.setCell hB.out (show wo.heap.size ≤ (⟨wo.heap.size, stn k, none⟩ : Addr).block from Nat.le_refl _) (.int .i64 (tc xss q k)) |>.drew)
              have HQ := Lib.hid (fun W => turned_q k hlk W)
              generalize row1 xss q k (stn k) = old at *
              generalize stn k = sk at *
              clear EB hs8
              go_wp2_with fail
              refine last.start (S := fun w' => w'.cell? ⟨w.heap.size, 1, none⟩ = some (.slice (some ⟨B, o, none⟩) 8 vc) ∧ w'.cell? ⟨B, o + q, none⟩ = some (.slice (some ⟨rb q, ro q, none⟩) 8 (rc q)) ∧ w'.cell? ⟨rb q, ro q + k, none⟩ = some (.int .i64 (tc xss q k)) ∧ w'.cell? ⟨wo.heap.size, sk, none⟩ = some (.int .i64 old) ∧ w'.frozen? ⟨wo.heap.size, sk, none⟩ = false ∧ Below wi.heap.size wi w') (L := 12) (by kernel_rfl) ?_
              have hHeld := held4f rfl t1 x1 x2 r1 f1 (below_dr (Below.refl _ _))
              refine last.take (i := 0) (oi := { dst := some 25, op := Op.move (Operand.tmp 6), type := 33, pos := "l11_three.go:258", after := #[], guard := none }) (v := ?v0aA) rfl (by kernel_rfl) (by kernel_rfl) (by kernel_rfl) (by kernel_rfl) (by decide) (fun _ _ _ h => h) (Or.inl ⟨by rfl, ?y0aA⟩) hHeld ?r0aA
              case y0aA => (intro w hSw; (try dsimp only at hSw); go_simp; try with_reducible rfl)
              try simp only [Act.put, List.setIfInBounds_toArray, List.set_cons_zero, List.set_cons_succ]
              refine last.take (i := 1) (oi := { dst := some 26, op := Op.move (Operand.tmp 7), type := 3, pos := "l11_three.go:258", after := #[], guard := none }) (v := ?v1aA) rfl (by kernel_rfl) (by kernel_rfl) (by kernel_rfl) (by kernel_rfl) (by decide) (fun _ _ _ h => h) (Or.inl ⟨by rfl, ?y1aA⟩) hHeld ?r1aA
              case y1aA => (intro w hSw; (try dsimp only at hSw); go_simp; try with_reducible rfl)
              try simp only [Act.put, List.setIfInBounds_toArray, List.set_cons_zero, List.set_cons_succ]
              refine last.take (i := 3) (oi := { dst := some 28, op := Op.fieldAddr 27 (Operand.tmp 1) 1, type := 0, pos := "l11_three.go:258", after := #[], guard := none }) (v := ?v3aA) rfl (by kernel_rfl) (by kernel_rfl) (by kernel_rfl) (by kernel_rfl) (by decide) (fun _ _ _ h => h) (Or.inl ⟨by rfl, ?y3aA⟩) hHeld ?r3aA
              case y3aA => (intro w hSw; (try dsimp only at hSw); go_simp; try with_reducible rfl)
              try simp only [Act.put, List.setIfInBounds_toArray, List.set_cons_zero, List.set_cons_succ]
              refine last.take (i := 4) (oi := { dst := some 29, op := Op.load 22 (Operand.tmp 28), type := 22, pos := "l11_three.go:258", after := #[{ on := 3, ground := Ground.data }], guard := none }) (v := ?v4aA) rfl (by kernel_rfl) (by kernel_rfl) (by kernel_rfl) (by kernel_rfl) (by decide) (fun _ _ _ h => h) (Or.inl ⟨by rfl, ?y4aA⟩) hHeld ?r4aA
              case y4aA => (intro w hSw; (try dsimp only at hSw); go_simp; try with_reducible rfl)
              try simp only [Act.put, List.setIfInBounds_toArray, List.set_cons_zero, List.set_cons_succ]
              refine last.take (i := 5) (oi := { dst := some 30, op := Op.move (Operand.tmp 5), type := 3, pos := "l11_three.go:258", after := #[], guard := none }) (v := ?v5aA) rfl (by kernel_rfl) (by kernel_rfl) (by kernel_rfl) (by kernel_rfl) (by decide) (fun _ _ _ h => h) (Or.inl ⟨by rfl, ?y5aA⟩) hHeld ?r5aA
              case y5aA => (intro w hSw; (try dsimp only at hSw); go_simp; try with_reducible rfl)
              try simp only [Act.put, List.setIfInBounds_toArray, List.set_cons_zero, List.set_cons_succ]
              refine last.take (i := 6) (oi := { dst := some 31, op := Op.indexAddr 22 (Operand.tmp 29) (Operand.tmp 30), type := 0, pos := "l11_three.go:258", after := #[{ on := 4, ground := Ground.data }, { on := 5, ground := Ground.data }], guard := none }) (v := ?v6aA) rfl (by kernel_rfl) (by kernel_rfl) (by kernel_rfl) (by kernel_rfl) (by decide) (fun _ _ _ h => h) (Or.inl ⟨by rfl, ?y6aA⟩) hHeld ?r6aA
              case y6aA => (intro w hSw; (try dsimp only at hSw); go_simp; try with_reducible rfl)
              try simp only [Act.put, List.setIfInBounds_toArray, List.set_cons_zero, List.set_cons_succ]
              refine last.take (i := 7) (oi := { dst := some 32, op := Op.load 33 (Operand.tmp 31), type := 33, pos := "l11_three.go:258", after := #[{ on := 6, ground := Ground.data }], guard := none }) (v := ?v7aA) rfl (by kernel_rfl) (by kernel_rfl) (by kernel_rfl) (by kernel_rfl) (by decide) (fun _ _ _ h => h) (Or.inl ⟨by rfl, ?y7aA⟩) hHeld ?r7aA
              case y7aA => (intro w hSw; (try dsimp only at hSw); go_simp; try with_reducible rfl)
              try simp only [Act.put, List.setIfInBounds_toArray, List.set_cons_zero, List.set_cons_succ]
              refine last.take (i := 8) (oi := { dst := some 33, op := Op.move (Operand.tmp 7), type := 3, pos := "l11_three.go:258", after := #[], guard := none }) (v := ?v8aA) rfl (by kernel_rfl) (by kernel_rfl) (by kernel_rfl) (by kernel_rfl) (by decide) (fun _ _ _ h => h) (Or.inl ⟨by rfl, ?y8aA⟩) hHeld ?r8aA
              case y8aA => (intro w hSw; (try dsimp only at hSw); go_simp; try with_reducible rfl)
              try simp only [Act.put, List.setIfInBounds_toArray, List.set_cons_zero, List.set_cons_succ]
              refine last.take (i := 9) (oi := { dst := some 34, op := Op.indexAddr 33 (Operand.tmp 32) (Operand.tmp 33), type := 0, pos := "l11_three.go:258", after := #[{ on := 7, ground := Ground.data }, { on := 8, ground := Ground.data }], guard := none }) (v := ?v9aA) rfl (by kernel_rfl) (by kernel_rfl) (by kernel_rfl) (by kernel_rfl) (by decide) (fun _ _ _ h => h) (Or.inl ⟨by rfl, ?y9aA⟩) hHeld ?r9aA
              case y9aA => (intro w hSw; (try dsimp only at hSw); go_simp; try with_reducible rfl)
              try simp only [Act.put, List.setIfInBounds_toArray, List.set_cons_zero, List.set_cons_succ]
              refine last.take (i := 10) (oi := { dst := some 35, op := Op.load 3 (Operand.tmp 34), type := 3, pos := "l11_three.go:258", after := #[{ on := 9, ground := Ground.data }], guard := none }) (v := ?v10aA) rfl (by kernel_rfl) (by kernel_rfl) (by kernel_rfl) (by kernel_rfl) (by decide) (fun _ _ _ h => h) (Or.inl ⟨by rfl, ?y10aA⟩) hHeld ?r10aA
              case y10aA => (intro w hSw; (try dsimp only at hSw); go_simp; try with_reducible rfl)
              try simp only [Act.put, List.setIfInBounds_toArray, List.set_cons_zero, List.set_cons_succ]
              refine last.one (i := 2) (o := { dst := some 27, op := Op.call { callee := Callee.value (Operand.func 84), args := #[Operand.tmp 26], argTypes := #[3] }, type := 3, pos := "l11_three.go:258", after := #[{ on := 1, ground := Ground.data }], guard := none }) (by kernel_rfl) rfl (fun K hK => ?_)
              go_simp
              (go_at_call 84; (with_reducible refine (HQ.out _).mono ?_); rintro e w8 ⟨rfl, rfl⟩)
              refine hK.out _ _ ?s2aA (fun hHeld => ?_)
              case s2aA => (try dsimp only); (refine held4f rfl t1 x1 x2 r1 f1 ?_; repeat (first | (with_reducible exact Below.refl _ _) | (with_reducible refine below_dr ?_) | (with_reducible refine below_tr ?_ (by assumption))))
              clear hK K
              try simp only [Act.put, List.setIfInBounds_toArray, List.set_cons_zero, List.set_cons_succ]
              refine last.take (i := 11) (oi := { dst := some 36, op := Op.indexAddr 33 (Operand.tmp 25) (Operand.tmp 27), type := 0, pos := "l11_three.go:258", after := #[{ on := 0, ground := Ground.data }, { on := 2, ground := Ground.data }, { on := 0, ground := Ground.phase }, { on := 1, ground := Ground.phase }, { on := 2, ground := Ground.phase }, { on := 3, ground := Ground.phase }, { on := 4, ground := Ground.phase }, { on := 5, ground := Ground.phase }, { on := 6, ground := Ground.phase }, { on := 7, ground := Ground.phase }, { on := 8, ground := Ground.phase }, { on := 9, ground := Ground.phase }, { on := 10, ground := Ground.phase }], guard := none }) (v := ?v11aA) rfl (by kernel_rfl) (by kernel_rfl) (by kernel_rfl) (by kernel_rfl) (by decide) (fun _ _ _ h => h) (Or.inl ⟨by rfl, ?y11aA⟩) hHeld ?r11aA
              case y11aA => (intro w hSw; (try dsimp only at hSw); go_simp; try with_reducible rfl)
              try simp only [Act.put, List.setIfInBounds_toArray, List.set_cons_zero, List.set_cons_succ]
              obtain ⟨_, _, _, q9, f9, _⟩ := hHeld
              clear t1 x1 x2 r1 f1 HQ hB hR
              refine last.final (o := { dst := none, op := Op.store 3 (Operand.tmp 36) (Operand.tmp 35), type := 0, pos := "l11_three.go:258", after := #[{ on := 11, ground := Ground.data }, { on := 10, ground := Ground.data }, { on := 2, ground := Ground.chain }, { on := 0, ground := Ground.phase }, { on := 1, ground := Ground.phase }, { on := 2, ground := Ground.phase }, { on := 3, ground := Ground.phase }, { on := 4, ground := Ground.phase }, { on := 5, ground := Ground.phase }, { on := 6, ground := Ground.phase }, { on := 7, ground := Ground.phase }, { on := 8, ground := Ground.phase }, { on := 9, ground := Ground.phase }, { on := 10, ground := Ground.phase }], guard := none }) (by kernel_rfl) rfl (fun K hK => ?_)
              go_simp
              refine hK.out _ _ ?_
              clear hK K
              try simp only [Act.put, List.setIfInBounds_toArray, List.set_cons_zero, List.set_cons_succ]
              refine last.done (by kernel_rfl) ?_ _
              generalize (wi.setCell ⟨wo.heap.size, sk, none⟩ (.int .i64 (tc xss q k))).drew = w5 at *
              go_wp2_with fail
              go_roundw
              case rel => exact ⟨k + 1, by omega, by go_num, B2, R2⟩
              case measure => simp [intOf]; omega
            · have hkz : ¬ (k : Int) < 8 := by omega
              obtain rfl : k = 8 := by omega
              have V := hW.out.keep hB.out
              obtain ⟨_, y1, _⟩ := two_cells V.blk
              have hs8 := stn_lt hlt
              have sz8 : (stn q : Int) < 8 := by omega
              have z1 := V.grd.out.cell hs8
              have ez : outer (onq q) gs (stn q) = .slice none 0 0 := by simp [outer, off_onq hlt]
              rw [ez] at z1
              have f1 := V.grd.out.frozen (stn q)
              have HV : Hid (TW w1 (wi.setCell ⟨R, stn q, none⟩ (.slice (some ⟨wo.heap.size, 0, none⟩) 8 8)).drew T R wh (onq (q + 1)) (fun i => if i = stn q then wo.heap.size else gs i) (NT xss)) := Lib.hid (by
                have V2 := V.keep (below_dr (Below.refl wi.heap.size wi))
                refine ⟨?_, ?_, V.tge, V.tne⟩
                · rw [← upd_onq hlt]
                  refine V2.grd.put hs8 (off_onq hlt) (hR.out.drew.congr (fun j hj => by simp only [row1, bt_lt hj, if_true, NT, bt_stn hlt])) hW.out.grd.out.lt (fun i hi ho => ?_) (fun _ _ _ _ _ => rfl)
                  have := (hW.out.grd.row i hi ho).lt
                  show gs i ≠ wo.heap.size
                  omega
                · have hne := V.tne
                  exact (Below.heap_setCell _ _ _ _ (by show T ≠ R; exact hne)).trans V2.blk)
              have HQ := Lib.hid (fun W => turned_q q hlt W)
              obtain ⟨sq, hsq⟩ : ∃ s, s = stn q := ⟨_, rfl⟩
              rw [← hsq] at sz8 z1 f1 HQ
              rw [← hsq] at HV
              clear hs8 ez V hB hR hW hsq
              go_wp2_with fail
              refine last.start (S := fun w' => w'.cell? ⟨T, 1, none⟩ = some (.slice (some ⟨R, 0, none⟩) 8 8) ∧ w'.cell? ⟨R, sq, none⟩ = some (.slice none 0 0) ∧ w'.frozen? ⟨R, sq, none⟩ = false ∧ Below wi.heap.size wi w') (L := 6) (by kernel_rfl) ?_
              have hHeld := held2f rfl y1 z1 f1 (below_dr (Below.refl _ _))
              refine last.take (i := 0) (oi := { dst := some 37, op := Op.fieldAddr 27 (Operand.tmp 4) 1, type := 0, pos := "l11_three.go:260", after := #[], guard := none }) (v := ?v0bA) rfl (by kernel_rfl) (by kernel_rfl) (by kernel_rfl) (by kernel_rfl) (by decide) (fun _ _ _ h => h) (Or.inl ⟨by rfl, ?y0bA⟩) hHeld ?r0bA
              case y0bA => (intro w hSw; (try dsimp only at hSw); go_simp; try with_reducible rfl)
              try simp only [Act.put, List.setIfInBounds_toArray, List.set_cons_zero, List.set_cons_succ]
              refine last.take (i := 1) (oi := { dst := some 38, op := Op.load 22 (Operand.tmp 37), type := 22, pos := "l11_three.go:260", after := #[{ on := 0, ground := Ground.data }], guard := none }) (v := ?v1bA) rfl (by kernel_rfl) (by kernel_rfl) (by kernel_rfl) (by kernel_rfl) (by decide) (fun _ _ _ h => h) (Or.inl ⟨by rfl, ?y1bA⟩) hHeld ?r1bA
              case y1bA => (intro w hSw; (try dsimp only at hSw); go_simp; try with_reducible rfl)
              try simp only [Act.put, List.setIfInBounds_toArray, List.set_cons_zero, List.set_cons_succ]
              refine last.take (i := 2) (oi := { dst := some 39, op := Op.move (Operand.tmp 5), type := 3, pos := "l11_three.go:260", after := #[], guard := none }) (v := ?v2bA) rfl (by kernel_rfl) (by kernel_rfl) (by kernel_rfl) (by kernel_rfl) (by decide) (fun _ _ _ h => h) (Or.inl ⟨by rfl, ?y2bA⟩) hHeld ?r2bA
              case y2bA => (intro w hSw; (try dsimp only at hSw); go_simp; try with_reducible rfl)
              try simp only [Act.put, List.setIfInBounds_toArray, List.set_cons_zero, List.set_cons_succ]
              refine last.take (i := 4) (oi := { dst := some 41, op := Op.move (Operand.tmp 6), type := 33, pos := "l11_three.go:260", after := #[], guard := none }) (v := ?v4bA) rfl (by kernel_rfl) (by kernel_rfl) (by kernel_rfl) (by kernel_rfl) (by decide) (fun _ _ _ h => h) (Or.inl ⟨by rfl, ?y4bA⟩) hHeld ?r4bA
              case y4bA => (intro w hSw; (try dsimp only at hSw); go_simp; try with_reducible rfl)
              try simp only [Act.put, List.setIfInBounds_toArray, List.set_cons_zero, List.set_cons_succ]
              refine last.one (i := 3) (o := { dst := some 40, op := Op.call { callee := Callee.value (Operand.func 84), args := #[Operand.tmp 39], argTypes := #[3] }, type := 3, pos := "l11_three.go:260", after := #[{ on := 2, ground := Ground.data }], guard := none }) (by kernel_rfl) rfl (fun K hK => ?_)
              go_simp
              (go_at_call 84; (with_reducible refine (HQ.out _).mono ?_); rintro e w8 ⟨rfl, rfl⟩)
              refine hK.out _ _ ?s3bA (fun hHeld => ?_)
              case s3bA => (try dsimp only); (refine held2f rfl y1 z1 f1 ?_; repeat (first | (with_reducible exact Below.refl _ _) | (with_reducible refine below_dr ?_) | (with_reducible refine below_tr ?_ (by assumption))))
              clear hK K
              try simp only [Act.put, List.setIfInBounds_toArray, List.set_cons_zero, List.set_cons_succ]
              refine last.take (i := 5) (oi := { dst := some 42, op := Op.indexAddr 22 (Operand.tmp 38) (Operand.tmp 40), type := 0, pos := "l11_three.go:260", after := #[{ on := 1, ground := Ground.data }, { on := 3, ground := Ground.data }, { on := 0, ground := Ground.phase }, { on := 1, ground := Ground.phase }, { on := 2, ground := Ground.phase }, { on := 3, ground := Ground.phase }, { on := 4, ground := Ground.phase }], guard := none }) (v := ?v5bA) rfl (by kernel_rfl) (by kernel_rfl) (by kernel_rfl) (by kernel_rfl) (by decide) (fun _ _ _ h => h) (Or.inl ⟨by rfl, ?y5bA⟩) hHeld ?r5bA
              case y5bA => (intro w hSw; (try dsimp only at hSw); go_simp; try with_reducible rfl)
              try simp only [Act.put, List.setIfInBounds_toArray, List.set_cons_zero, List.set_cons_succ]
              obtain ⟨_, q9, f9, _⟩ := hHeld
              clear y1 z1 f1 HQ
              refine last.final (o := { dst := none, op := Op.store 33 (Operand.tmp 42) (Operand.tmp 41), type := 0, pos := "l11_three.go:260", after := #[{ on := 5, ground := Ground.data }, { on := 4, ground := Ground.data }, { on := 3, ground := Ground.chain }, { on := 0, ground := Ground.phase }, { on := 1, ground := Ground.phase }, { on := 2, ground := Ground.phase }, { on := 3, ground := Ground.phase }, { on := 4, ground := Ground.phase }], guard := none }) (by kernel_rfl) rfl (fun K hK => ?_)
              go_simp
              refine hK.out _ _ ?_
              clear hK K
              try simp only [Act.put, List.setIfInBounds_toArray, List.set_cons_zero, List.set_cons_succ]
              refine last.done (by kernel_rfl) ?_ _
              generalize (wi.setCell ⟨R, sq, none⟩ (.slice (some ⟨wo.heap.size, 0, none⟩) 8 8)).drew = w5 at *
              go_wp2_with fail
              go_roundw
              case rel => exact ⟨q + 1, by omega, by go_num, _, HV⟩
              case measure => simp [intOf]; omega
        · have hqz : ¬ (q : Int) < 8 := by omega
          obtain rfl : q = 8 := by omega
          have U1 := Lib.hid (hW.out.grd.done (fun i hi => by simp [onq, hi, bt_lt hi]))
          have BE := Lib.hid (below_tr B1.out hW.out.grd.below)
          obtain ⟨y0, y1, _⟩ := two_cells hW.out.blk
          have K1 := Lib.hid (Kr.out.below hW.out.grd.below)
          obtain ⟨r0, r1, rl⟩ := two_cells K1.out
          have rf : ∀ k, wo.frozen? ⟨w.heap.size + 1, k, none⟩ = false := fun k => Joins.unfrozen_of_block K1.out k
          clear hW
          go_wp2_with fail
          refine bodyPost_ret (v := .tuple #[.agg #[.int .i64 wh, .slice (some ⟨R, 0, none⟩) 8 8], .bool true]) (by simp [results, Try.results42, go_sem, r0, r1]) rfl ⟨_, rfl, ?_, ?_⟩
          · have hw : Wrote (fun p => p.block = w.heap.size + 1) wo ((wo.setCell ⟨w.heap.size + 1, 0, none⟩ (.int .i64 wh)).setCell ⟨w.heap.size + 1, 1, none⟩ (.slice (some ⟨R, 0, none⟩) 8 8)) := Wrote.setCell (S := fun p => p.block = w.heap.size + 1) (Wrote.setCell (S := fun p => p.block = w.heap.size + 1) (Wrote.refl _ _) rfl _) rfl _
            exact (U1.out.wrote hw (fun p hp => .inl (by have e : p.block = w.heap.size + 1 := hp; have := HZ.out.1; omega))).rows
          · exact Below.setCell (Below.setCell BE.out (show w.heap.size ≤ w.heap.size + 1 by omega) _) (show w.heap.size ≤ w.heap.size + 1 by omega) _
    · skip
      have HW : Hid (TW w1 (((w1.alloc (.cells #[.int .i64 wh, .slice (some ⟨w1.heap.size + 1, 0, none⟩) 8 8] 27)).alloc (.cells (madeCells #[.slice none 0 0] 8) 33)).drew) w1.heap.size (w1.heap.size + 1) wh (onq 0) (fun _ => 0) (NT xss)) := Lib.hid (by
        have hr : (((w1.alloc (.cells #[.int .i64 wh, .slice (some ⟨w1.heap.size + 1, 0, none⟩) 8 8] 27)).alloc (.cells (madeCells #[.slice none 0 0] 8) 33)).drew).rowIs (w1.heap.size + 1) 33 8 (fun _ => .slice none 0 0) := (show ((w1.alloc (.cells #[.int .i64 wh, .slice (some ⟨w1.heap.size + 1, 0, none⟩) 8 8] 27)).alloc (.cells (madeCells #[.slice none 0 0] 8) 33)).rowIs (w1.heap.size + 1) 33 8 (fun _ => .slice none 0 0) from by have := World.rowIs_made (w1.alloc (.cells #[.int .i64 wh, .slice (some ⟨w1.heap.size + 1, 0, none⟩) 8 8] 27)) (.slice none 0 0) 8 33; simpa using this).drew
        have hk : Blk (((w1.alloc (.cells #[.int .i64 wh, .slice (some ⟨w1.heap.size + 1, 0, none⟩) 8 8] 27)).alloc (.cells (madeCells #[.slice none 0 0] 8) 33)).drew) w1.heap.size 27 #[.int .i64 wh, .slice (some ⟨w1.heap.size + 1, 0, none⟩) 8 8] := (Blk.new w1 _ _).alloc _
        exact ⟨⟨(below_al (below_al (Below.refl _ _) _) _).drew, by omega, hr.congr (fun i _ => by simp [outer, onq]), fun i _ ho => by simp [onq] at ho, fun i _ ho => by simp [onq] at ho, fun i j _ _ ho => by simp [onq] at ho⟩, hk, by omega, by omega⟩)
      have HZ : Hid (w.heap.size + 1 < (w1.heap.size + 1) ∧ w.heap.size + 1 < w1.heap.size) := Lib.hid (by have := Kr.out.lt; omega)
      clear t0 t1 hmr
      generalize (((w1.alloc (.cells #[.int .i64 wh, .slice (some ⟨w1.heap.size + 1, 0, none⟩) 8 8] 27)).alloc (.cells (madeCells #[.slice none 0 0] 8) 33)).drew) = W1 at *
      generalize w1.heap.size + 1 = R at *
      generalize w1.heap.size = T at *
      go_wp2_with fail
      go_loopw [5] (fun i wr => ∃ q : Nat, q ≤ 8 ∧ i = .int .i64 q ∧ ∃ gs, Hid (TW w1 wr T R wh (onq q) gs (NT xss))) (fun i _ => 8 - (intOf i).toNat)
      case atStart => exact ⟨0, by omega, rfl, _, HW⟩
      case round =>
        obtain ⟨q, hq, rfl, gs, hW⟩ := hrel
        clear HW
        obtain ⟨wo, rfl⟩ : ∃ wo : World, wo = wr := ⟨_, rfl⟩
        by_cases hlt : q < 8
        · have hqz : (q : Int) < 8 := by omega
          have hB0 : Hid (Below wo.heap.size wo (wo.alloc (.cells (madeCells #[.int .i64 0] 8) 3))) := Lib.hid (below_al (Below.refl _ _) _)
          have hR0 : Hid ((wo.alloc (.cells (madeCells #[.int .i64 0] 8) 3)).rowIs wo.heap.size 3 8 (fun i => .int .i64 (row1 xss q 0 i))) := Lib.hid ((World.rowIs_made wo (.int .i64 0) 8 3).congr (fun i _ => by simp [row1]))
          go_wp2_with fail
          generalize (wo.alloc (.cells (madeCells #[.int .i64 0] 8) 3)) = W2 at *
          go_loopw [7] (fun i wi => ∃ k : Nat, k ≤ 8 ∧ i = .int .i64 k ∧ Hid (Below wo.heap.size wo wi) ∧ Hid (wi.rowIs wo.heap.size 3 8 (fun i => .int .i64 (row1 xss q k i)))) (fun i _ => 8 - (intOf i).toNat)
          case atStart => exact ⟨0, by omega, rfl, hB0, hR0⟩
          case round =>
            obtain ⟨k, hk, rfl, hB, hR⟩ := hrel
            clear hB0 hR0
            obtain ⟨wi, rfl⟩ : ∃ wo : World, wo = wr := ⟨_, rfl⟩
            by_cases hlk : k < 8
            · have hkz : (k : Int) < 8 := by omega
              have EB := below_tr hW.out.grd.below hB.out
              obtain ⟨_, t1, _⟩ := two_cells (Kt.out.below EB)
              have x1 := below_cell (below_tr B1.out EB) _ _ (H1.out q hlt)
              have x2 := below_cell (below_tr B1.out EB) _ _ (H2.out q hlt k hlk)
              have hs8 := stn_lt hlk
              have sz8 : (stn k : Int) < 8 := by omega
              have r1 := hR.out.cell hs8
              have f1 := hR.out.frozen (stn k)
              have R2 := Lib.hid (((hR.out.set (stn k) (.int .i64 (tc xss q k))).drew).congr (g := fun i => .int .i64 (row1 xss q (k + 1) i)) (fun i hi => by
                rw [← row1_set hlk hi]
                by_cases e : i = stn k <;> simp [e]))
              have B2 := Lib.hid (Below.setCell hB.out (show wo.heap.size ≤ (⟨wo.heap.size, stn k, none⟩ : Addr).block from Nat.le_refl _) (.int .i64 (tc xss q k)) |>.drew)
              have HQ := Lib.hid (fun W => turned_q k hlk W)
              generalize row1 xss q k (stn k) = old at *
              generalize stn k = sk at *
              clear EB hs8
              go_wp2_with fail
              refine last.start (S := fun w' => w'.cell? ⟨w.heap.size, 1, none⟩ = some (.slice (some ⟨B, o, none⟩) 8 vc) ∧ w'.cell? ⟨B, o + q, none⟩ = some (.slice (some ⟨rb q, ro q, none⟩) 8 (rc q)) ∧ w'.cell? ⟨rb q, ro q + k, none⟩ = some (.int .i64 (tc xss q k)) ∧ w'.cell? ⟨wo.heap.size, sk, none⟩ = some (.int .i64 old) ∧ w'.frozen? ⟨wo.heap.size, sk, none⟩ = false ∧ Below wi.heap.size wi w') (L := 12) (by kernel_rfl) ?_
              have hHeld := held4f rfl t1 x1 x2 r1 f1 (below_dr (Below.refl _ _))
              refine last.take (i := 0) (oi := { dst := some 25, op := Op.move (Operand.tmp 6), type := 33, pos := "l11_three.go:258", after := #[], guard := none }) (v := ?v0aB) rfl (by kernel_rfl) (by kernel_rfl) (by kernel_rfl) (by kernel_rfl) (by decide) (fun _ _ _ h => h) (Or.inl ⟨by rfl, ?y0aB⟩) hHeld ?r0aB
              case y0aB => (intro w hSw; (try dsimp only at hSw); go_simp; try with_reducible rfl)
              try simp only [Act.put, List.setIfInBounds_toArray, List.set_cons_zero, List.set_cons_succ]
              refine last.take (i := 1) (oi := { dst := some 26, op := Op.move (Operand.tmp 7), type := 3, pos := "l11_three.go:258", after := #[], guard := none }) (v := ?v1aB) rfl (by kernel_rfl) (by kernel_rfl) (by kernel_rfl) (by kernel_rfl) (by decide) (fun _ _ _ h => h) (Or.inl ⟨by rfl, ?y1aB⟩) hHeld ?r1aB
              case y1aB => (intro w hSw; (try dsimp only at hSw); go_simp; try with_reducible rfl)
              try simp only [Act.put, List.setIfInBounds_toArray, List.set_cons_zero, List.set_cons_succ]
              refine last.take (i := 3) (oi := { dst := some 28, op := Op.fieldAddr 27 (Operand.tmp 1) 1, type := 0, pos := "l11_three.go:258", after := #[], guard := none }) (v := ?v3aB) rfl (by kernel_rfl) (by kernel_rfl) (by kernel_rfl) (by kernel_rfl) (by decide) (fun _ _ _ h => h) (Or.inl ⟨by rfl, ?y3aB⟩) hHeld ?r3aB
              case y3aB => (intro w hSw; (try dsimp only at hSw); go_simp; try with_reducible rfl)
              try simp only [Act.put, List.setIfInBounds_toArray, List.set_cons_zero, List.set_cons_succ]
              refine last.take (i := 4) (oi := { dst := some 29, op := Op.load 22 (Operand.tmp 28), type := 22, pos := "l11_three.go:258", after := #[{ on := 3, ground := Ground.data }], guard := none }) (v := ?v4aB) rfl (by kernel_rfl) (by kernel_rfl) (by kernel_rfl) (by kernel_rfl) (by decide) (fun _ _ _ h => h) (Or.inl ⟨by rfl, ?y4aB⟩) hHeld ?r4aB
              case y4aB => (intro w hSw; (try dsimp only at hSw); go_simp; try with_reducible rfl)
              try simp only [Act.put, List.setIfInBounds_toArray, List.set_cons_zero, List.set_cons_succ]
              refine last.take (i := 5) (oi := { dst := some 30, op := Op.move (Operand.tmp 5), type := 3, pos := "l11_three.go:258", after := #[], guard := none }) (v := ?v5aB) rfl (by kernel_rfl) (by kernel_rfl) (by kernel_rfl) (by kernel_rfl) (by decide) (fun _ _ _ h => h) (Or.inl ⟨by rfl, ?y5aB⟩) hHeld ?r5aB
              case y5aB => (intro w hSw; (try dsimp only at hSw); go_simp; try with_reducible rfl)
              try simp only [Act.put, List.setIfInBounds_toArray, List.set_cons_zero, List.set_cons_succ]
              refine last.take (i := 6) (oi := { dst := some 31, op := Op.indexAddr 22 (Operand.tmp 29) (Operand.tmp 30), type := 0, pos := "l11_three.go:258", after := #[{ on := 4, ground := Ground.data }, { on := 5, ground := Ground.data }], guard := none }) (v := ?v6aB) rfl (by kernel_rfl) (by kernel_rfl) (by kernel_rfl) (by kernel_rfl) (by decide) (fun _ _ _ h => h) (Or.inl ⟨by rfl, ?y6aB⟩) hHeld ?r6aB
              case y6aB => (intro w hSw; (try dsimp only at hSw); go_simp; try with_reducible rfl)
              try simp only [Act.put, List.setIfInBounds_toArray, List.set_cons_zero, List.set_cons_succ]
              refine last.take (i := 7) (oi := { dst := some 32, op := Op.load 33 (Operand.tmp 31), type := 33, pos := "l11_three.go:258", after := #[{ on := 6, ground := Ground.data }], guard := none }) (v := ?v7aB) rfl (by kernel_rfl) (by kernel_rfl) (by kernel_rfl) (by kernel_rfl) (by decide) (fun _ _ _ h => h) (Or.inl ⟨by rfl, ?y7aB⟩) hHeld ?r7aB
              case y7aB => (intro w hSw; (try dsimp only at hSw); go_simp; try with_reducible rfl)
              try simp only [Act.put, List.setIfInBounds_toArray, List.set_cons_zero, List.set_cons_succ]
              refine last.take (i := 8) (oi := { dst := some 33, op := Op.move (Operand.tmp 7), type := 3, pos := "l11_three.go:258", after := #[], guard := none }) (v := ?v8aB) rfl (by kernel_rfl) (by kernel_rfl) (by kernel_rfl) (by kernel_rfl) (by decide) (fun _ _ _ h => h) (Or.inl ⟨by rfl, ?y8aB⟩) hHeld ?r8aB
              case y8aB => (intro w hSw; (try dsimp only at hSw); go_simp; try with_reducible rfl)
              try simp only [Act.put, List.setIfInBounds_toArray, List.set_cons_zero, List.set_cons_succ]
              refine last.take (i := 9) (oi := { dst := some 34, op := Op.indexAddr 33 (Operand.tmp 32) (Operand.tmp 33), type := 0, pos := "l11_three.go:258", after := #[{ on := 7, ground := Ground.data }, { on := 8, ground := Ground.data }], guard := none }) (v := ?v9aB) rfl (by kernel_rfl) (by kernel_rfl) (by kernel_rfl) (by kernel_rfl) (by decide) (fun _ _ _ h => h) (Or.inl ⟨by rfl, ?y9aB⟩) hHeld ?r9aB
              case y9aB => (intro w hSw; (try dsimp only at hSw); go_simp; try with_reducible rfl)
              try simp only [Act.put, List.setIfInBounds_toArray, List.set_cons_zero, List.set_cons_succ]
              refine last.take (i := 10) (oi := { dst := some 35, op := Op.load 3 (Operand.tmp 34), type := 3, pos := "l11_three.go:258", after := #[{ on := 9, ground := Ground.data }], guard := none }) (v := ?v10aB) rfl (by kernel_rfl) (by kernel_rfl) (by kernel_rfl) (by kernel_rfl) (by decide) (fun _ _ _ h => h) (Or.inl ⟨by rfl, ?y10aB⟩) hHeld ?r10aB
              case y10aB => (intro w hSw; (try dsimp only at hSw); go_simp; try with_reducible rfl)
              try simp only [Act.put, List.setIfInBounds_toArray, List.set_cons_zero, List.set_cons_succ]
              refine last.one (i := 2) (o := { dst := some 27, op := Op.call { callee := Callee.value (Operand.func 84), args := #[Operand.tmp 26], argTypes := #[3] }, type := 3, pos := "l11_three.go:258", after := #[{ on := 1, ground := Ground.data }], guard := none }) (by kernel_rfl) rfl (fun K hK => ?_)
              go_simp
              (go_at_call 84; (with_reducible refine (HQ.out _).mono ?_); rintro e w8 ⟨rfl, rfl⟩)
              refine hK.out _ _ ?s2aB (fun hHeld => ?_)
              case s2aB => (try dsimp only); (refine held4f rfl t1 x1 x2 r1 f1 ?_; repeat (first | (with_reducible exact Below.refl _ _) | (with_reducible refine below_dr ?_) | (with_reducible refine below_tr ?_ (by assumption))))
              clear hK K
              try simp only [Act.put, List.setIfInBounds_toArray, List.set_cons_zero, List.set_cons_succ]
              refine last.take (i := 11) (oi := { dst := some 36, op := Op.indexAddr 33 (Operand.tmp 25) (Operand.tmp 27), type := 0, pos := "l11_three.go:258", after := #[{ on := 0, ground := Ground.data }, { on := 2, ground := Ground.data }, { on := 0, ground := Ground.phase }, { on := 1, ground := Ground.phase }, { on := 2, ground := Ground.phase }, { on := 3, ground := Ground.phase }, { on := 4, ground := Ground.phase }, { on := 5, ground := Ground.phase }, { on := 6, ground := Ground.phase }, { on := 7, ground := Ground.phase }, { on := 8, ground := Ground.phase }, { on := 9, ground := Ground.phase }, { on := 10, ground := Ground.phase }], guard := none }) (v := ?v11aB) rfl (by kernel_rfl) (by kernel_rfl) (by kernel_rfl) (by kernel_rfl) (by decide) (fun _ _ _ h => h) (Or.inl ⟨by rfl, ?y11aB⟩) hHeld ?r11aB
              case y11aB => (intro w hSw; (try dsimp only at hSw); go_simp; try with_reducible rfl)
              try simp only [Act.put, List.setIfInBounds_toArray, List.set_cons_zero, List.set_cons_succ]
              obtain ⟨_, _, _, q9, f9, _⟩ := hHeld
              clear t1 x1 x2 r1 f1 HQ hB hR
              refine last.final (o := { dst := none, op := Op.store 3 (Operand.tmp 36) (Operand.tmp 35), type := 0, pos := "l11_three.go:258", after := #[{ on := 11, ground := Ground.data }, { on := 10, ground := Ground.data }, { on := 2, ground := Ground.chain }, { on := 0, ground := Ground.phase }, { on := 1, ground := Ground.phase }, { on := 2, ground := Ground.phase }, { on := 3, ground := Ground.phase }, { on := 4, ground := Ground.phase }, { on := 5, ground := Ground.phase }, { on := 6, ground := Ground.phase }, { on := 7, ground := Ground.phase }, { on := 8, ground := Ground.phase }, { on := 9, ground := Ground.phase }, { on := 10, ground := Ground.phase }], guard := none }) (by kernel_rfl) rfl (fun K hK => ?_)
              go_simp
              refine hK.out _ _ ?_
              clear hK K
              try simp only [Act.put, List.setIfInBounds_toArray, List.set_cons_zero, List.set_cons_succ]
              refine last.done (by kernel_rfl) ?_ _
              generalize (wi.setCell ⟨wo.heap.size, sk, none⟩ (.int .i64 (tc xss q k))).drew = w5 at *
              go_wp2_with fail
              go_roundw
              case rel => exact ⟨k + 1, by omega, by go_num, B2, R2⟩
              case measure => simp [intOf]; omega
            · have hkz : ¬ (k : Int) < 8 := by omega
              obtain rfl : k = 8 := by omega
              have V := hW.out.keep hB.out
              obtain ⟨_, y1, _⟩ := two_cells V.blk
              have hs8 := stn_lt hlt
              have sz8 : (stn q : Int) < 8 := by omega
              have z1 := V.grd.out.cell hs8
              have ez : outer (onq q) gs (stn q) = .slice none 0 0 := by simp [outer, off_onq hlt]
              rw [ez] at z1
              have f1 := V.grd.out.frozen (stn q)
              have HV : Hid (TW w1 (wi.setCell ⟨R, stn q, none⟩ (.slice (some ⟨wo.heap.size, 0, none⟩) 8 8)).drew T R wh (onq (q + 1)) (fun i => if i = stn q then wo.heap.size else gs i) (NT xss)) := Lib.hid (by
                have V2 := V.keep (below_dr (Below.refl wi.heap.size wi))
                refine ⟨?_, ?_, V.tge, V.tne⟩
                · rw [← upd_onq hlt]
                  refine V2.grd.put hs8 (off_onq hlt) (hR.out.drew.congr (fun j hj => by simp only [row1, bt_lt hj, if_true, NT, bt_stn hlt])) hW.out.grd.out.lt (fun i hi ho => ?_) (fun _ _ _ _ _ => rfl)
                  have := (hW.out.grd.row i hi ho).lt
                  show gs i ≠ wo.heap.size
                  omega
                · have hne := V.tne
                  exact (Below.heap_setCell _ _ _ _ (by show T ≠ R; exact hne)).trans V2.blk)
              have HQ := Lib.hid (fun W => turned_q q hlt W)
              obtain ⟨sq, hsq⟩ : ∃ s, s = stn q := ⟨_, rfl⟩
              rw [← hsq] at sz8 z1 f1 HQ
              rw [← hsq] at HV
              clear hs8 ez V hB hR hW hsq
              go_wp2_with fail
              refine last.start (S := fun w' => w'.cell? ⟨T, 1, none⟩ = some (.slice (some ⟨R, 0, none⟩) 8 8) ∧ w'.cell? ⟨R, sq, none⟩ = some (.slice none 0 0) ∧ w'.frozen? ⟨R, sq, none⟩ = false ∧ Below wi.heap.size wi w') (L := 6) (by kernel_rfl) ?_
              have hHeld := held2f rfl y1 z1 f1 (below_dr (Below.refl _ _))
              refine last.take (i := 0) (oi := { dst := some 37, op := Op.fieldAddr 27 (Operand.tmp 4) 1, type := 0, pos := "l11_three.go:260", after := #[], guard := none }) (v := ?v0bB) rfl (by kernel_rfl) (by kernel_rfl) (by kernel_rfl) (by kernel_rfl) (by decide) (fun _ _ _ h => h) (Or.inl ⟨by rfl, ?y0bB⟩) hHeld ?r0bB
              case y0bB => (intro w hSw; (try dsimp only at hSw); go_simp; try with_reducible rfl)
              try simp only [Act.put, List.setIfInBounds_toArray, List.set_cons_zero, List.set_cons_succ]
              refine last.take (i := 1) (oi := { dst := some 38, op := Op.load 22 (Operand.tmp 37), type := 22, pos := "l11_three.go:260", after := #[{ on := 0, ground := Ground.data }], guard := none }) (v := ?v1bB) rfl (by kernel_rfl) (by kernel_rfl) (by kernel_rfl) (by kernel_rfl) (by decide) (fun _ _ _ h => h) (Or.inl ⟨by rfl, ?y1bB⟩) hHeld ?r1bB
              case y1bB => (intro w hSw; (try dsimp only at hSw); go_simp; try with_reducible rfl)
              try simp only [Act.put, List.setIfInBounds_toArray, List.set_cons_zero, List.set_cons_succ]
              refine last.take (i := 2) (oi := { dst := some 39, op := Op.move (Operand.tmp 5), type := 3, pos := "l11_three.go:260", after := #[], guard := none }) (v := ?v2bB) rfl (by kernel_rfl) (by kernel_rfl) (by kernel_rfl) (by kernel_rfl) (by decide) (fun _ _ _ h => h) (Or.inl ⟨by rfl, ?y2bB⟩) hHeld ?r2bB
              case y2bB => (intro w hSw; (try dsimp only at hSw); go_simp; try with_reducible rfl)
              try simp only [Act.put, List.setIfInBounds_toArray, List.set_cons_zero, List.set_cons_succ]
              refine last.take (i := 4) (oi := { dst := some 41, op := Op.move (Operand.tmp 6), type := 33, pos := "l11_three.go:260", after := #[], guard := none }) (v := ?v4bB) rfl (by kernel_rfl) (by kernel_rfl) (by kernel_rfl) (by kernel_rfl) (by decide) (fun _ _ _ h => h) (Or.inl ⟨by rfl, ?y4bB⟩) hHeld ?r4bB
              case y4bB => (intro w hSw; (try dsimp only at hSw); go_simp; try with_reducible rfl)
              try simp only [Act.put, List.setIfInBounds_toArray, List.set_cons_zero, List.set_cons_succ]
              refine last.one (i := 3) (o := { dst := some 40, op := Op.call { callee := Callee.value (Operand.func 84), args := #[Operand.tmp 39], argTypes := #[3] }, type := 3, pos := "l11_three.go:260", after := #[{ on := 2, ground := Ground.data }], guard := none }) (by kernel_rfl) rfl (fun K hK => ?_)
              go_simp
              (go_at_call 84; (with_reducible refine (HQ.out _).mono ?_); rintro e w8 ⟨rfl, rfl⟩)
              refine hK.out _ _ ?s3bB (fun hHeld => ?_)
              case s3bB => (try dsimp only); (refine held2f rfl y1 z1 f1 ?_; repeat (first | (with_reducible exact Below.refl _ _) | (with_reducible refine below_dr ?_) | (with_reducible refine below_tr ?_ (by assumption))))
              clear hK K
              try simp only [Act.put, List.setIfInBounds_toArray, List.set_cons_zero, List.set_cons_succ]
              refine last.take (i := 5) (oi := { dst := some 42, op := Op.indexAddr 22 (Operand.tmp 38) (Operand.tmp 40), type := 0, pos := "l11_three.go:260", after := #[{ on := 1, ground := Ground.data }, { on := 3, ground := Ground.data }, { on := 0, ground := Ground.phase }, { on := 1, ground := Ground.phase }, { on := 2, ground := Ground.phase }, { on := 3, ground := Ground.phase }, { on := 4, ground := Ground.phase }], guard := none }) (v := ?v5bB) rfl (by kernel_rfl) (by kernel_rfl) (by kernel_rfl) (by kernel_rfl) (by decide) (fun _ _ _ h => h) (Or.inl ⟨by rfl, ?y5bB⟩) hHeld ?r5bB
              case y5bB => (intro w hSw; (try dsimp only at hSw); go_simp; try with_reducible rfl)
              try simp only [Act.put, List.setIfInBounds_toArray, List.set_cons_zero, List.set_cons_succ]
              obtain ⟨_, q9, f9, _⟩ := hHeld
              clear y1 z1 f1 HQ
              refine last.final (o := { dst := none, op := Op.store 33 (Operand.tmp 42) (Operand.tmp 41), type := 0, pos := "l11_three.go:260", after := #[{ on := 5, ground := Ground.data }, { on := 4, ground := Ground.data }, { on := 3, ground := Ground.chain }, { on := 0, ground := Ground.phase }, { on := 1, ground := Ground.phase }, { on := 2, ground := Ground.phase }, { on := 3, ground := Ground.phase }, { on := 4, ground := Ground.phase }], guard := none }) (by kernel_rfl) rfl (fun K hK => ?_)
              go_simp
              refine hK.out _ _ ?_
              clear hK K
              try simp only [Act.put, List.setIfInBounds_toArray, List.set_cons_zero, List.set_cons_succ]
              refine last.done (by kernel_rfl) ?_ _
              generalize (wi.setCell ⟨R, sq, none⟩ (.slice (some ⟨wo.heap.size, 0, none⟩) 8 8)).drew = w5 at *
              go_wp2_with fail
              go_roundw
              case rel => exact ⟨q + 1, by omega, by go_num, _, HV⟩
              case measure => simp [intOf]; omega
        · have hqz : ¬ (q : Int) < 8 := by omega
          obtain rfl : q = 8 := by omega
          have U1 := Lib.hid (hW.out.grd.done (fun i hi => by simp [onq, hi, bt_lt hi]))
          have BE := Lib.hid (below_tr B1.out hW.out.grd.below)
          obtain ⟨y0, y1, _⟩ := two_cells hW.out.blk
          have K1 := Lib.hid (Kr.out.below hW.out.grd.below)
          obtain ⟨r0, r1, rl⟩ := two_cells K1.out
          have rf : ∀ k, wo.frozen? ⟨w.heap.size + 1, k, none⟩ = false := fun k => Joins.unfrozen_of_block K1.out k
          clear hW
          go_wp2_with fail
          refine bodyPost_ret (v := .tuple #[.agg #[.int .i64 wh, .slice (some ⟨R, 0, none⟩) 8 8], .bool true]) (by simp [results, Try.results42, go_sem, r0, r1]) rfl ⟨_, rfl, ?_, ?_⟩
          · have hw : Wrote (fun p => p.block = w.heap.size + 1) wo ((wo.setCell ⟨w.heap.size + 1, 0, none⟩ (.int .i64 wh)).setCell ⟨w.heap.size + 1, 1, none⟩ (.slice (some ⟨R, 0, none⟩) 8 8)) := Wrote.setCell (S := fun p => p.block = w.heap.size + 1) (Wrote.setCell (S := fun p => p.block = w.heap.size + 1) (Wrote.refl _ _) rfl _) rfl _
            exact (U1.out.wrote hw (fun p hp => .inl (by have e : p.block = w.heap.size + 1 := hp; have := HZ.out.1; omega))).rows
          · exact Below.setCell (Below.setCell BE.out (show w.heap.size ≤ w.heap.size + 1 by omega) _) (show w.heap.size ≤ w.heap.size + 1 by omega) _
  · rw [trioB_no hok] at HT
    rw [resT_no hok]
    have HT' := Lib.hid HT
    clear HT hok h
    go_enter Try.func42, Try.ntmps42
    go_wp2_with fail
    rw [← hW0]
    clear hW0 t0 t1
    refine HT'.out.mono ?_
    rintro e w1 ⟨rfl, hb⟩
    have K1 := Lib.hid (Kr.out.below hb)
    have B1 := Lib.hid (below_tr B0.out hb)
    obtain ⟨r0, r1, rl⟩ := two_cells K1.out
    have rf : ∀ k, w1.frozen? ⟨w.heap.size + 1, k, none⟩ = false := fun k => Joins.unfrozen_of_block K1.out k
    go_wp2_with fail
    refine bodyPost_ret (v := .tuple #[.agg #[.int .i64 0, .slice none 0 0], .bool false]) (by simp [results, Try.results42, go_sem, r0, r1]) rfl ⟨_, rfl, IRows.nil _, ?_⟩
    exact Below.setCell (Below.setCell B1.out (show w.heap.size ≤ w.heap.size + 1 by omega) _) (show w.heap.size ≤ w.heap.size + 1 by omega) _
end Go.Proofs.Ytomofmmecpdalaa.trt
