/- GroupTrio of the model. -/
import Derived.Test.YtomofmmecpdalaaTgf
import Derived.Test.YtomofmmecpdalaaTpn
import Derived.Test.YtomofmmecpdalaaApl
import Derived.Test.YtomofmmecpdalaaLast
namespace Go.Proofs.Ytomofmmecpdalaa.tgm
open Go.RowKit Go.Deep Go.Proofs.Ytomofmmecpdalaa.base
open Go.Proofs.Ytomofmmecpdalaa.ints (infoInt infoInts)
open Go.Proofs.Ytomofmmecpdalaa.tri (two_cells)
open Go.Proofs.Ytomofmmecpdalaa.trb (three_cells)
open Go.Proofs.Ytomofmmecpdalaa.grd
open Go.Proofs.Ytomofmmecpdalaa.tvk (Res)
open Go.Proofs.Ytomofmmecpdalaa.tto (ND ok_told sl l11of)
open Go.Proofs.Ytomofmmecpdalaa.ttf (pb pb_bit)
open Go.Proofs.Ytomofmmecpdalaa.play (within withinB withinB_yes withinB_no)
open Go.Proofs.Ytomofmmecpdalaa.tps (digits others)
open Go.Proofs.Ytomofmmecpdalaa.tgf

def spg (p : Nat) (os js : List Int) (n : Nat) : List Int := (List.range n).map fun q => (sg p os js q : Int)
theorem len_spg (p : Nat) (os js : List Int) (n : Nat) : (spg p os js n).length = n := by simp [spg]
theorem spg_succ (p : Nat) (os js : List Int) (n : Nat) : spg p os js (n + 1) = spg p os js n ++ [(sg p os js n : Int)] := by simp [spg, List.range_succ]
theorem spg_at (p : Nat) (os js : List Int) {q : Nat} (hq : q < 8) : (spg p os js 8).getD q 0 = (sg p os js q : Int) := by simp [spg, List.getD, hq]
theorem offs2 {R : Nat} {w w' : World} {p0 p1 : Addr} {u0 u1 : Value} {X : Prop} (h0 : w.cell? p0 = some u0) (h1 : w.cell? p1 = some u1) (n0 : p0.block ≠ R) (n1 : p1.block ≠ R) (h : step.Off R w w') (hx : X) : w'.cell? p0 = some u0 ∧ w'.cell? p1 = some u1 ∧ X :=
  ⟨(h.2 _ n0 (World.block_lt_of_cell? _ _ h0)).trans h0, (h.2 _ n1 (World.block_lt_of_cell? _ _ h1)).trans h1, hx⟩
theorem held3c {w w' w0 : World} {B : Nat} {p0 p1 p2 : Addr} {u0 u1 u2 : Value} (h0 : w.cell? p0 = some u0) (h1 : w.cell? p1 = some u1) (h2 : w.cell? p2 = some u2) (hB : Below B w0 w) (hl : B ≤ w.heap.size) (h : Below w.heap.size w w') : w'.cell? p0 = some u0 ∧ w'.cell? p1 = some u1 ∧ w'.cell? p2 = some u2 ∧ Below B w0 w' :=
  ⟨below_cell h _ _ h0, below_cell h _ _ h1, below_cell h _ _ h2, hB.trans (h.mono hl)⟩

theorem two_a (W : World) (x y z : Nat) : Blk ((W.alloc (.cells #[.int .i64 (x : Int), .int .i64 (y : Int), .int .i64 (z : Int)] 3)).alloc (.cells #[.int .i64 0, .int .i64 0, .int .i64 0] 3)) W.heap.size 3 #[.int .i64 (x : Int), .int .i64 (y : Int), .int .i64 (z : Int)] ∧ Blk ((W.alloc (.cells #[.int .i64 (x : Int), .int .i64 (y : Int), .int .i64 (z : Int)] 3)).alloc (.cells #[.int .i64 0, .int .i64 0, .int .i64 0] 3)) (W.heap.size + 1) 3 #[.int .i64 0, .int .i64 0, .int .i64 0] ∧ W.heap.size ≠ W.heap.size + 1 ∧ W.heap.size ≤ W.heap.size + 1 ∧ Below W.heap.size W ((W.alloc (.cells #[.int .i64 (x : Int), .int .i64 (y : Int), .int .i64 (z : Int)] 3)).alloc (.cells #[.int .i64 0, .int .i64 0, .int .i64 0] 3)) := by
  refine ⟨(Blk.new _ _ _).alloc _, ?_, by omega, by omega, below_al (below_al (Below.refl _ _) _) _⟩
  have := Blk.new (W.alloc (.cells #[.int .i64 (x : Int), .int .i64 (y : Int), .int .i64 (z : Int)] 3)) 3 #[.int .i64 0, .int .i64 0, .int .i64 0]
  simpa using this
theorem two_b (W : World) (x y z : Nat) : Blk ((W.alloc (.cells #[.int .i64 0, .int .i64 0, .int .i64 0] 3)).alloc (.cells #[.int .i64 (x : Int), .int .i64 (y : Int), .int .i64 (z : Int)] 3)) (W.heap.size + 1) 3 #[.int .i64 (x : Int), .int .i64 (y : Int), .int .i64 (z : Int)] ∧ Blk ((W.alloc (.cells #[.int .i64 0, .int .i64 0, .int .i64 0] 3)).alloc (.cells #[.int .i64 (x : Int), .int .i64 (y : Int), .int .i64 (z : Int)] 3)) W.heap.size 3 #[.int .i64 0, .int .i64 0, .int .i64 0] ∧ W.heap.size + 1 ≠ W.heap.size ∧ W.heap.size ≤ W.heap.size ∧ Below W.heap.size W ((W.alloc (.cells #[.int .i64 0, .int .i64 0, .int .i64 0] 3)).alloc (.cells #[.int .i64 (x : Int), .int .i64 (y : Int), .int .i64 (z : Int)] 3)) := by
  refine ⟨?_, (Blk.new W 3 #[.int .i64 0, .int .i64 0, .int .i64 0]).alloc _, by omega, by omega, below_al (below_al (Below.refl _ _) _) _⟩
  have := Blk.new (W.alloc (.cells #[.int .i64 0, .int .i64 0, .int .i64 0] 3)) 3 #[.int .i64 (x : Int), .int .i64 (y : Int), .int .i64 (z : Int)]
  simpa using this

set_option maxRecDepth 100000 in
set_option maxHeartbeats 8000000 in
theorem grouped0 (vo vj : Value) (os js : List Int) (wh : Int) (w : World) (ho : Ints w vo os) (hj : Ints w vj js) (hoo : within 2 0 1 os) (hjj : within 8 0 1 js) :
    Calls Try.prog 67 #[.int .i64 0, vo, vj, .int .i64 wh] w fun e w' => ∃ u, e = .returned (.agg #[.int .i64 wh, u]) ∧ OwnRows w' w.heap.size w'.heap.size u (rows8 (ND (sg 0 os js) wh)) ∧ Below w.heap.size w w' := by
  obtain ⟨i0, hi, hz0, hz1, hz2⟩ := info_parts infoInt
  have hmk : ∀ W : World, (Instr.makeSlice 33 (.int .i64 3) (.int .i64 3)).run Try.prog W = .ok (.slice (some ⟨W.heap.size, 0, none⟩) 3 3) (W.alloc (.cells #[.int .i64 0, .int .i64 0, .int .i64 0] 3)) := fun W => by kernel_rfl
  have hlo : os.length = 2 := by have := hoo.1; omega
  have hlj : js.length = 8 := by have := hjj.1; omega
  obtain ⟨Ao, bo, oo, co, rfl, _, _, hAo, hco⟩ := ho.form
  rw [hlo]
  obtain rfl := hAo (by omega)
  obtain ⟨Aj, bj, oj, cj, rfl, _, _, hAj, hcj⟩ := hj.form
  rw [hlj]
  obtain rfl := hAj (by omega)
  have HCO := Lib.hid (fun (i : Nat) (hi : i < 2) => (show pb os i ≤ 1 ∧ w.cell? ⟨bo, oo + i, none⟩ = some (.int .i64 (pb os i : Int)) from by
    obtain ⟨h0, h1, h2⟩ := pb_bit hoo hi
    exact ⟨h0, by rw [hco i h1, h2]⟩))
  have HCJ := Lib.hid (fun (i : Nat) (hi : i < 8) => (show pb js i ≤ 1 ∧ w.cell? ⟨bj, oj + i, none⟩ = some (.int .i64 (pb js i : Int)) from by
    obtain ⟨h0, h1, h2⟩ := pb_bit hjj hi
    exact ⟨h0, by rw [hcj i h1, h2]⟩))
  have HL := Lib.hid (fun (u : Value) (W : World) (hu : Ints W u (spg 0 os js 8)) => l11of u (spg 0 os js 8) wh W hu (len_spg _ _ _ _) (fun q hq => by rw [spg_at 0 os js hq]; have := sg_lt (p := 0) hoo hjj q; omega))
  have HE : Hid (rows8 (ND (sl (spg 0 os js 8)) wh) = rows8 (ND (sg 0 os js) wh)) := Lib.hid (rows8_congr (fun i j hi _ => by unfold ND sl; rw [spg_at 0 os js hi]; rfl))
  obtain ⟨W0, hW0⟩ : ∃ W, W = (w.alloc (.cells #[.int .i64 0, .slice none 0 0] 27)).alloc (.cells #[] 3) := ⟨_, rfl⟩
  have T0 : Hid (Blk W0 w.heap.size 27 #[.int .i64 0, .slice none 0 0]) := Lib.hid (by rw [hW0]; exact (Blk.new _ _ _).alloc _)
  have B0 : Hid (Below w.heap.size w W0) := Lib.hid (by rw [hW0]; exact below_al (below_al (Below.refl _ _) _) _)
  have O0 : Hid (W0.ownsRow (w.heap.size + 1) 3 1 (.slice (some ⟨w.heap.size + 1, 0, none⟩) 0 0) 0 (i64s (spg 0 os js 0))) := Lib.hid (by
    rw [hW0]
    have := World.ownsRow_made (base := w.heap.size + 1) (e := 3) (size := 1) (w.alloc (.cells #[.int .i64 0, .slice none 0 0] 27)) #[] 0 (by simp) (Nat.zero_le _) rfl
    simpa [i64s, spg] using this)
  have Z0 : Hid (W0.heap.size = w.heap.size + 1 + 1) := Lib.hid (by rw [hW0]; simp)
  have HOT := Lib.hid (show Calls Try.prog 92 #[.int .i64 0] W0 fun e w' => ∃ u, e = .returned u ∧ w'.ownsRow W0.heap.size 3 1 u 2 (i64s [(1 : Int), (2 : Int)]) ∧ Below W0.heap.size W0 w' from others 0 (by omega) W0)
  clear ho hj hoo hjj hlo hlj hAo hAj hco hcj
  go_enter Try.func67, Try.ntmps67
  go_wp2_with fail
  rw [← hW0]
  clear hW0
  refine HOT.out.mono ?_
  rintro e w2 ⟨u, rfl, hu, hb⟩
  obtain ⟨gb, uc, rfl, q0, q1⟩ := tpn.own2 hu
  have HGB : Hid (w.heap.size + 1 + 1 ≤ gb) := Lib.hid (by have h := (hu.lt gb (by simp [Value.ownBlock])).1; have := Z0.out; omega)
  have O2 := Lib.hid (app.owns_below O0.out hb)
  have T2 := Lib.hid (T0.out.below hb)
  have B2 := Lib.hid (below_tr B0.out hb)
  have Q2 := Lib.hid (And.intro q0 q1)
  have N2 : Hid ((Value.slice (some ⟨w.heap.size + 1, 0, none⟩) 0 0).ownBlock ≠ some gb) := Lib.hid (fun e => by
    have := HGB.out
    simp [Value.ownBlock] at e
    omega)
  clear hu hb q0 q1 HOT O0 T0 B0 Z0
  go_wp2_with fail
  go_loopg [9, 11] 8 (fun g v s wr => ∃ q : Nat, q + g = 8 ∧ s = .int .i64 (q : Nat) ∧ (∃ vv, v = vv ∧ Hid (wr.ownsRow (w.heap.size + 1) 3 1 vv q (i64s (spg 0 os js q))) ∧ Hid (vv.ownBlock ≠ some gb)) ∧ Hid (wr.cell? ⟨gb, 0, none⟩ = some (.int .i64 1) ∧ wr.cell? ⟨gb, 1, none⟩ = some (.int .i64 2)) ∧ Hid (Blk wr w.heap.size 27 #[.int .i64 0, .slice none 0 0]) ∧ Hid (Below w.heap.size w wr))
  case atStart => exact ⟨0, rfl, rfl, ⟨_, rfl, O2, N2⟩, Q2, T2, B2⟩
  case round =>
    clear O2 N2 Q2 T2 B2
    obtain ⟨q, hq, rfl, ⟨vv, hvv, HO, HN⟩, HQ, HT, HB⟩ := hrel
    obtain ⟨wo, rfl⟩ : ∃ wo : World, wo = wr := ⟨_, rfl⟩
    obtain ⟨va, vl, vc, hv5⟩ := boxl.shapez HO.out
    subst hv5
    subst hvv
    cases gk with
    | succ g1 =>
      have hq8 : q < 8 := by omega
      have hqz : (q : Int) < 8 := by omega
      have HD := fun W => digits q hq8 W
      obtain ⟨x, hx⟩ : ∃ n, n = q / 4 % 2 := ⟨_, rfl⟩
      obtain ⟨y, hy⟩ : ∃ n, n = q / 2 % 2 := ⟨_, rfl⟩
      obtain ⟨z, hz⟩ : ∃ n, n = q % 2 := ⟨_, rfl⟩
      rw [← hx, ← hy, ← hz] at HD
      have HD := Lib.hid HD
      have hx2 : x < 2 := by omega
      have hy2 : y < 2 := by omega
      have hz2 : z < 2 := by omega
      obtain ⟨s, hs⟩ : ∃ n, n = st 0 x y z := ⟨_, rfl⟩
      have hs8 : s + 1 < 8 := by rw [hs]; exact st_lt hx2 hy2 hz2
      have hs2 : s = 2 * (2 * y + z) := hs
      obtain ⟨t, ht⟩ : ∃ n, n = s + 1 := ⟨_, rfl⟩
      obtain ⟨hb1, y1⟩ := HCJ.out s (by omega)
      obtain ⟨hb2, y2⟩ := HCJ.out t (by omega)
      obtain ⟨hb3, y3⟩ := HCO.out x hx2
      have esg : sg 0 os js q = 4 * pb os x + 2 * pb js s + pb js t := by rw [ht, hs, hx, hy, hz]; rfl
      generalize pb js s = jv at *
      generalize pb js t = kv at *
      generalize pb os x = ov at *
      have HSG := Lib.hid esg
      have Y := Lib.hid (And.intro (below_cell HB.out _ _ y1) (And.intro (below_cell HB.out _ _ y2) (below_cell HB.out _ _ y3)))
      have kd1 : IntKind.i64.wrap (2 * (y : Int)) = 2 * (y : Int) := IntWalk.i64_in _ (by omega)
      have kd2 : IntKind.i64.wrap (2 * (y : Int) + (z : Int)) = 2 * (y : Int) + (z : Int) := IntWalk.i64_in _ (by omega)
      have kd3 : IntKind.i64.wrap (2 * (2 * (y : Int) + (z : Int))) = (s : Int) := by rw [IntWalk.i64_in _ (by omega)]; omega
      have kt : IntKind.i64.wrap ((s : Int) + 1) = (t : Int) := by rw [IntWalk.i64_in _ (by omega)]; omega
      have kf1 : IntKind.i64.wrap (4 * (ov : Int)) = 4 * (ov : Int) := IntWalk.i64_in _ (by omega)
      have kf2 : IntKind.i64.wrap (2 * (jv : Int)) = 2 * (jv : Int) := IntWalk.i64_in _ (by omega)
      have kf3 : IntKind.i64.wrap (4 * (ov : Int) + 2 * (jv : Int)) = 4 * (ov : Int) + 2 * (jv : Int) := IntWalk.i64_in _ (by omega)
      have kf4 : IntKind.i64.wrap (4 * (ov : Int) + 2 * (jv : Int) + (kv : Int)) = 4 * (ov : Int) + 2 * (jv : Int) + (kv : Int) := IntWalk.i64_in _ (by omega)
      have hsz : (s : Int) < 8 := by omega
      have htz : (t : Int) < 8 := by omega
      have hdz : (x : Int) < 2 := by omega
      clear esg hx hy hz hx2 hy2 hz2 hs hs8 hs2 ht hb1 hb2 hb3 y1 y2 y3
      go_upto_region 5 with fail
      go_cut [12, 13] (fun s12 s13 wx => ∃ gd gs : Nat, s12 = .slice (some ⟨gd, 0, none⟩) 3 3 ∧ s13 = .slice (some ⟨gs, 0, none⟩) 3 3 ∧ Hid (Blk wx gd 3 #[.int .i64 (x : Int), .int .i64 (y : Int), .int .i64 (z : Int)] ∧ Blk wx gs 3 #[.int .i64 0, .int .i64 0, .int .i64 0] ∧ gd ≠ gs ∧ wo.heap.size ≤ gs ∧ Below wo.heap.size wo wx))
      case first =>
        go_region_held3 (fun w' => Below wo.heap.size wo w')
          ((repeat (first | (with_reducible exact Below.refl _ _) | (with_reducible refine below_dr ?_) | (with_reducible refine below_al ?_ _) | (with_reducible refine below_tr ?_ (by assumption)))))
          (first | (go_at_call 93; (with_reducible refine (HD.out _).mono ?_); rintro e w' ⟨rfl, rfl⟩))
        all_goals
          go_wp2_with fail
          go_meet
          first
            | exact ⟨_, _, rfl, rfl, Lib.hid (two_a wo.drew x y z)⟩
            | exact ⟨_, _, rfl, rfl, Lib.hid (two_b wo.drew x y z)⟩
            | (refine ⟨_, _, rfl, rfl, Lib.hid ?_⟩; obtain ⟨h1, h2, h3, h4, h5⟩ := two_a wo x y z; exact ⟨h1.below (below_dr (Below.refl _ _)), h2.below (below_dr (Below.refl _ _)), h3, h4, below_dr h5⟩)
            | (refine ⟨_, _, rfl, rfl, Lib.hid ?_⟩; obtain ⟨h1, h2, h3, h4, h5⟩ := two_b wo x y z; exact ⟨h1.below (below_dr (Below.refl _ _)), h2.below (below_dr (Below.refl _ _)), h3, h4, below_dr h5⟩)
      case rest =>
        obtain ⟨gd, gs, rfl, rfl, H5⟩ := hcut
        obtain ⟨w5, rfl⟩ : ∃ W : World, W = wc := ⟨_, rfl⟩
        obtain ⟨d0, d1, d2, _⟩ := three_cells H5.out.1
        obtain ⟨o0, o1⟩ := (show w5.cell? ⟨gb, 0, none⟩ = some (.int .i64 1) ∧ w5.cell? ⟨gb, 1, none⟩ = some (.int .i64 2) from ⟨below_cell H5.out.2.2.2.2 _ _ HQ.out.1, below_cell H5.out.2.2.2.2 _ _ HQ.out.2⟩)
        go_upto_region 6 with fail
        go_cut [14] (fun s14 wx => s14 = .int .i64 (s : Int) ∧ Hid (Below w5.heap.size w5 wx))
        case first =>
          go_region_held3 (fun w' => w'.cell? ⟨gb, 0, none⟩ = some (.int .i64 1) ∧ w'.cell? ⟨gb, 1, none⟩ = some (.int .i64 2) ∧ w'.cell? ⟨gd, 1, none⟩ = some (.int .i64 (y : Int)) ∧ w'.cell? ⟨gd, 2, none⟩ = some (.int .i64 (z : Int)) ∧ Below w5.heap.size w5 w') ((refine ⟨below_cell ?_ _ _ o0, below_cell ?_ _ _ o1, below_cell ?_ _ _ d1, below_cell ?_ _ _ d2, ?_⟩; all_goals (repeat (first | (with_reducible exact Below.refl _ _) | (with_reducible refine below_dr ?_) | (with_reducible refine below_al ?_ _) | (with_reducible refine below_tr ?_ (by assumption)))))) (fail)
          all_goals
            go_wp2_with fail
            go_meet
            exact ⟨rfl, Lib.hid (below_dr (Below.refl _ _))⟩
        case rest =>
          obtain ⟨rfl, H6⟩ := hcut
          obtain ⟨w6, rfl⟩ : ∃ W : World, W = wc := ⟨_, rfl⟩
          have K6 := H5.out.2.1.below H6.out
          have B6 := below_tr H5.out.2.2.2.2 H6.out
          have d0' := below_cell H6.out _ _ d0
          have y3 := below_cell B6 _ _ Y.out.2.2
          have rf : ∀ k, w6.frozen? ⟨gs, k, none⟩ = false := fun k => Joins.unfrozen_of_block K6 k
          have K7 : Hid (Blk (w6.setCell ⟨gs, 0, none⟩ (.int .i64 (ov : Int))) gs 3 #[.int .i64 (ov : Int), .int .i64 0, .int .i64 0] ∧ Below wo.heap.size wo (w6.setCell ⟨gs, 0, none⟩ (.int .i64 (ov : Int)))) := Lib.hid ⟨by
            have := Joins.block_setCell (i := 0) K6 (.int .i64 (ov : Int))
            unfold Blk
            simpa using this, Below.setCell B6 H5.out.2.2.2.1 _⟩
          have k6 : (w6.cell? ⟨gs, 0, none⟩) = some (.int .i64 0) := by rw [Joins.cell_of_block K6]; rfl
          have HGS := Lib.hid H5.out.2.2.2.1
          clear d0 d1 d2 o0 o1 K6 B6
          go_upto_region 8 with fail
          clear d0' y3 rf k6 H5 H6
          generalize w6.setCell ⟨gs, 0, none⟩ (.int .i64 (ov : Int)) = w7 at *
          have hgs := HGS.out
          have hgb := World.block_lt_of_cell? _ _ HQ.out.1
          have hgj := World.block_lt_of_cell? _ _ Y.out.1
          have n1 : gb ≠ gs := by simp at hgb; omega
          have n2 : bj ≠ gs := by simp at hgj; omega
          have HNN := Lib.hid (And.intro n1 n2)
          have q0 := below_cell K7.out.2 _ _ HQ.out.1
          have y1 := below_cell K7.out.2 _ _ Y.out.1
          have rf : ∀ k, w7.frozen? ⟨gs, k, none⟩ = false := fun k => Joins.unfrozen_of_block K7.out.1 k
          have K8 : Hid (Blk (w7.setCell ⟨gs, 1, none⟩ (.int .i64 (jv : Int))) gs 3 #[.int .i64 (ov : Int), .int .i64 (jv : Int), .int .i64 0] ∧ Below wo.heap.size wo (w7.setCell ⟨gs, 1, none⟩ (.int .i64 (jv : Int)))) := Lib.hid ⟨by
            have := Joins.block_setCell (i := 1) K7.out.1 (.int .i64 (jv : Int))
            unfold Blk
            simpa using this, Below.setCell K7.out.2 HGS.out _⟩
          have k7 : (w7.cell? ⟨gs, 1, none⟩) = some (.int .i64 0) := by rw [Joins.cell_of_block K7.out.1]; rfl
          clear hgs hgb hgj
          go_cut [14] (fun s14 wx => s14 = .int .i64 (s : Int) ∧ Hid (Blk wx gs 3 #[.int .i64 (ov : Int), .int .i64 (jv : Int), .int .i64 0] ∧ Below wo.heap.size wo wx))
          case first =>
            go_region_held3 (fun w' => w'.cell? ⟨gb, 0, none⟩ = some (.int .i64 1) ∧ w'.cell? ⟨bj, oj + s, none⟩ = some (.int .i64 (jv : Int)) ∧ True)
              ((refine offs2 (R := gs) q0 y1 n1 n2 ?_ trivial; repeat (first | (with_reducible exact step.Off.refl _ _) | (with_reducible refine step.Off.drew ?_) | (with_reducible refine step.Off.setCell ?_ _ _ rfl))))
              (fail)
            all_goals
              go_wp2_with fail
              go_meet
              first
                | exact ⟨rfl, K8⟩
                | exact ⟨rfl, Lib.hid ⟨K8.out.1.below (below_dr (Below.refl _ _)), below_dr K8.out.2⟩⟩
                | exact ⟨rfl, Lib.hid ⟨K8.out.1, below_dr K8.out.2⟩⟩
          case rest =>
            obtain ⟨rfl, K8'⟩ := hcut
            obtain ⟨w8, rfl⟩ : ∃ W : World, W = wc := ⟨_, rfl⟩
            clear q0 y1 rf k7 K7 K8
            have q1 := below_cell K8'.out.2 _ _ HQ.out.2
            have y2 := below_cell K8'.out.2 _ _ Y.out.2.1
            have rf : ∀ k, w8.frozen? ⟨gs, k, none⟩ = false := fun k => Joins.unfrozen_of_block K8'.out.1 k
            have K9 : Hid (Blk (w8.setCell ⟨gs, 2, none⟩ (.int .i64 (kv : Int))) gs 3 #[.int .i64 (ov : Int), .int .i64 (jv : Int), .int .i64 (kv : Int)] ∧ Below wo.heap.size wo (w8.setCell ⟨gs, 2, none⟩ (.int .i64 (kv : Int)))) := Lib.hid ⟨by
              have := Joins.block_setCell (i := 2) K8'.out.1 (.int .i64 (kv : Int))
              unfold Blk
              simpa using this, Below.setCell K8'.out.2 HGS.out _⟩
            have k8 : (w8.cell? ⟨gs, 2, none⟩) = some (.int .i64 0) := by rw [Joins.cell_of_block K8'.out.1]; rfl
            go_upto_region 9 with fail
            go_cut [14] (fun s14 wx => s14 = .int .i64 (s : Int) ∧ Hid (Blk wx gs 3 #[.int .i64 (ov : Int), .int .i64 (jv : Int), .int .i64 (kv : Int)] ∧ Below wo.heap.size wo wx))
            case first =>
              go_region_held3 (fun w' => w'.cell? ⟨gb, 1, none⟩ = some (.int .i64 2) ∧ w'.cell? ⟨bj, oj + t, none⟩ = some (.int .i64 (kv : Int)) ∧ True)
                ((refine offs2 (R := gs) q1 y2 n1 n2 ?_ trivial; repeat (first | (with_reducible exact step.Off.refl _ _) | (with_reducible refine step.Off.drew ?_) | (with_reducible refine step.Off.setCell ?_ _ _ rfl))))
                (fail)
              all_goals
                go_wp2_with fail
                go_meet
                first
                  | exact ⟨rfl, K9⟩
                  | exact ⟨rfl, Lib.hid ⟨K9.out.1.below (below_dr (Below.refl _ _)), below_dr K9.out.2⟩⟩
                  | exact ⟨rfl, Lib.hid ⟨K9.out.1, below_dr K9.out.2⟩⟩
            case rest =>
              obtain ⟨rfl, K9'⟩ := hcut
              obtain ⟨w9, rfl⟩ : ∃ W : World, W = wc := ⟨_, rfl⟩
              clear q1 y2 rf k8 K8' K9

              obtain ⟨f0, f1, f2, _⟩ := three_cells K9'.out.1
              have HV : Hid ((sg 0 os js q : Int) = 4 * (ov : Int) + 2 * (jv : Int) + (kv : Int)) := Lib.hid (by have := HSG.out; omega)
              have BW : Hid (Below w.heap.size w w9) := Lib.hid (below_tr HB.out K9'.out.2)
              have hw1 := HT.out.lt
              have hw2 := K9'.out.2.size
              have hw3 := HGS.out
              have BO : Hid (Below w9.heap.size w9 ((w9.alloc (.cells #[.int .i64 (4 * (ov : Int) + 2 * (jv : Int) + (kv : Int))] 3)).drew)) := Lib.hid (below_al (Below.refl w9.heap.size w9) (.cells #[.int .i64 (4 * (ov : Int) + 2 * (jv : Int) + (kv : Int))] 3)).drew
              have OQ : Hid (((w9.alloc (.cells #[.int .i64 (4 * (ov : Int) + 2 * (jv : Int) + (kv : Int))] 3)).drew).ownsRow (w.heap.size + 1) 3 1 (.slice va vl vc) q (i64s (spg 0 os js q))) := Lib.hid (app.owns_below HO.out (below_tr K9'.out.2 BO.out))
              have NG : Hid (some gs ≠ (Value.slice va vl vc).ownBlock) := Lib.hid (fun e => by
                have := (HO.out.lt gs e.symm).2
                omega)
              have NT : Hid (some w.heap.size ≠ (Value.slice va vl vc).ownBlock) := Lib.hid (fun e => by
                have := (HO.out.lt _ e.symm).1
                omega)
              have hgb := World.block_lt_of_cell? _ _ HQ.out.1
              have HGZ : Hid (gb < wo.heap.size ∧ wo.heap.size ≤ w9.heap.size) := Lib.hid ⟨by simpa using hgb, hw2⟩
              have QO := Lib.hid (And.intro (below_cell (below_tr K9'.out.2 BO.out) _ _ HQ.out.1) (below_cell (below_tr K9'.out.2 BO.out) _ _ HQ.out.2))
              have TO := Lib.hid (HT.out.below (below_tr K9'.out.2 BO.out))
              clear hgb
              go_wp2_with fail
              refine last.start (S := fun w' => w'.cell? ⟨gs, 0, none⟩ = some (.int .i64 (ov : Int)) ∧ w'.cell? ⟨gs, 1, none⟩ = some (.int .i64 (jv : Int)) ∧ w'.cell? ⟨gs, 2, none⟩ = some (.int .i64 (kv : Int)) ∧ Below w.heap.size w w') (L := 16) (by kernel_rfl) ?_
              have hHeld := held3c f0 f1 f2 BW.out (by omega) (below_dr (Below.refl _ _))
              refine last.take (i := 0) (oi := { dst := some 69, op := Op.move (Operand.tmp 9), type := 33, pos := "l11_three.go:108", after := #[], guard := none }) (v := ?v00) rfl (by kernel_rfl) (by kernel_rfl) (by kernel_rfl) (by kernel_rfl) (by decide) (fun _ _ _ h => h) (Or.inl ⟨by rfl, ?y00⟩) hHeld ?r00
              case y00 => (intro w hSw; (try dsimp only at hSw); go_simp; try with_reducible rfl)
              try simp only [Act.put, List.setIfInBounds_toArray, List.set_cons_zero, List.set_cons_succ]
              refine last.take (i := 1) (oi := { dst := some 70, op := Op.move (Operand.tmp 13), type := 33, pos := "l11_three.go:108", after := #[], guard := none }) (v := ?v10) rfl (by kernel_rfl) (by kernel_rfl) (by kernel_rfl) (by kernel_rfl) (by decide) (fun _ _ _ h => h) (Or.inl ⟨by rfl, ?y10⟩) hHeld ?r10
              case y10 => (intro w hSw; (try dsimp only at hSw); go_simp; try with_reducible rfl)
              try simp only [Act.put, List.setIfInBounds_toArray, List.set_cons_zero, List.set_cons_succ]
              refine last.take (i := 2) (oi := { dst := some 71, op := Op.indexAddr 33 (Operand.tmp 70) (Operand.const (Value.int IntKind.i64 0)), type := 0, pos := "l11_three.go:108", after := #[{ on := 1, ground := Ground.data }], guard := none }) (v := ?v20) rfl (by kernel_rfl) (by kernel_rfl) (by kernel_rfl) (by kernel_rfl) (by decide) (fun _ _ _ h => h) (Or.inl ⟨by rfl, ?y20⟩) hHeld ?r20
              case y20 => (intro w hSw; (try dsimp only at hSw); go_simp; try with_reducible rfl)
              try simp only [Act.put, List.setIfInBounds_toArray, List.set_cons_zero, List.set_cons_succ]
              refine last.take (i := 3) (oi := { dst := some 72, op := Op.load 3 (Operand.tmp 71), type := 3, pos := "l11_three.go:108", after := #[{ on := 2, ground := Ground.data }], guard := none }) (v := ?v30) rfl (by kernel_rfl) (by kernel_rfl) (by kernel_rfl) (by kernel_rfl) (by decide) (fun _ _ _ h => h) (Or.inl ⟨by rfl, ?y30⟩) hHeld ?r30
              case y30 => (intro w hSw; (try dsimp only at hSw); go_simp; try with_reducible rfl)
              try simp only [Act.put, List.setIfInBounds_toArray, List.set_cons_zero, List.set_cons_succ]
              refine last.take (i := 4) (oi := { dst := some 73, op := Op.binOp BinOp.mul 3 (Operand.const (Value.int IntKind.i64 4)) (Operand.tmp 72) 3, type := 3, pos := "l11_three.go:108", after := #[{ on := 3, ground := Ground.data }], guard := none }) (v := ?v40) rfl (by kernel_rfl) (by kernel_rfl) (by kernel_rfl) (by kernel_rfl) (by decide) (fun _ _ _ h => h) (Or.inl ⟨by rfl, ?y40⟩) hHeld ?r40
              case y40 => (intro w hSw; (try dsimp only at hSw); go_simp; try with_reducible rfl)
              try simp only [Act.put, List.setIfInBounds_toArray, List.set_cons_zero, List.set_cons_succ]
              refine last.take (i := 5) (oi := { dst := some 74, op := Op.move (Operand.tmp 13), type := 33, pos := "l11_three.go:108", after := #[], guard := none }) (v := ?v50) rfl (by kernel_rfl) (by kernel_rfl) (by kernel_rfl) (by kernel_rfl) (by decide) (fun _ _ _ h => h) (Or.inl ⟨by rfl, ?y50⟩) hHeld ?r50
              case y50 => (intro w hSw; (try dsimp only at hSw); go_simp; try with_reducible rfl)
              try simp only [Act.put, List.setIfInBounds_toArray, List.set_cons_zero, List.set_cons_succ]
              refine last.take (i := 6) (oi := { dst := some 75, op := Op.indexAddr 33 (Operand.tmp 74) (Operand.const (Value.int IntKind.i64 1)), type := 0, pos := "l11_three.go:108", after := #[{ on := 5, ground := Ground.data }], guard := none }) (v := ?v60) rfl (by kernel_rfl) (by kernel_rfl) (by kernel_rfl) (by kernel_rfl) (by decide) (fun _ _ _ h => h) (Or.inl ⟨by rfl, ?y60⟩) hHeld ?r60
              case y60 => (intro w hSw; (try dsimp only at hSw); go_simp; try with_reducible rfl)
              try simp only [Act.put, List.setIfInBounds_toArray, List.set_cons_zero, List.set_cons_succ]
              refine last.take (i := 7) (oi := { dst := some 76, op := Op.load 3 (Operand.tmp 75), type := 3, pos := "l11_three.go:108", after := #[{ on := 6, ground := Ground.data }], guard := none }) (v := ?v70) rfl (by kernel_rfl) (by kernel_rfl) (by kernel_rfl) (by kernel_rfl) (by decide) (fun _ _ _ h => h) (Or.inl ⟨by rfl, ?y70⟩) hHeld ?r70
              case y70 => (intro w hSw; (try dsimp only at hSw); go_simp; try with_reducible rfl)
              try simp only [Act.put, List.setIfInBounds_toArray, List.set_cons_zero, List.set_cons_succ]
              refine last.take (i := 8) (oi := { dst := some 77, op := Op.binOp BinOp.mul 3 (Operand.const (Value.int IntKind.i64 2)) (Operand.tmp 76) 3, type := 3, pos := "l11_three.go:108", after := #[{ on := 7, ground := Ground.data }], guard := none }) (v := ?v80) rfl (by kernel_rfl) (by kernel_rfl) (by kernel_rfl) (by kernel_rfl) (by decide) (fun _ _ _ h => h) (Or.inl ⟨by rfl, ?y80⟩) hHeld ?r80
              case y80 => (intro w hSw; (try dsimp only at hSw); go_simp; try with_reducible rfl)
              try simp only [Act.put, List.setIfInBounds_toArray, List.set_cons_zero, List.set_cons_succ]
              refine last.take (i := 9) (oi := { dst := some 78, op := Op.binOp BinOp.add 3 (Operand.tmp 73) (Operand.tmp 77) 3, type := 3, pos := "l11_three.go:108", after := #[{ on := 4, ground := Ground.data }, { on := 8, ground := Ground.data }], guard := none }) (v := ?v90) rfl (by kernel_rfl) (by kernel_rfl) (by kernel_rfl) (by kernel_rfl) (by decide) (fun _ _ _ h => h) (Or.inl ⟨by rfl, ?y90⟩) hHeld ?r90
              case y90 => (intro w hSw; (try dsimp only at hSw); go_simp; try with_reducible rfl)
              try simp only [Act.put, List.setIfInBounds_toArray, List.set_cons_zero, List.set_cons_succ]
              refine last.take (i := 10) (oi := { dst := some 79, op := Op.move (Operand.tmp 13), type := 33, pos := "l11_three.go:108", after := #[], guard := none }) (v := ?v100) rfl (by kernel_rfl) (by kernel_rfl) (by kernel_rfl) (by kernel_rfl) (by decide) (fun _ _ _ h => h) (Or.inl ⟨by rfl, ?y100⟩) hHeld ?r100
              case y100 => (intro w hSw; (try dsimp only at hSw); go_simp; try with_reducible rfl)
              try simp only [Act.put, List.setIfInBounds_toArray, List.set_cons_zero, List.set_cons_succ]
              refine last.take (i := 11) (oi := { dst := some 80, op := Op.indexAddr 33 (Operand.tmp 79) (Operand.const (Value.int IntKind.i64 2)), type := 0, pos := "l11_three.go:108", after := #[{ on := 10, ground := Ground.data }], guard := none }) (v := ?v110) rfl (by kernel_rfl) (by kernel_rfl) (by kernel_rfl) (by kernel_rfl) (by decide) (fun _ _ _ h => h) (Or.inl ⟨by rfl, ?y110⟩) hHeld ?r110
              case y110 => (intro w hSw; (try dsimp only at hSw); go_simp; try with_reducible rfl)
              try simp only [Act.put, List.setIfInBounds_toArray, List.set_cons_zero, List.set_cons_succ]
              refine last.take (i := 12) (oi := { dst := some 81, op := Op.load 3 (Operand.tmp 80), type := 3, pos := "l11_three.go:108", after := #[{ on := 11, ground := Ground.data }], guard := none }) (v := ?v120) rfl (by kernel_rfl) (by kernel_rfl) (by kernel_rfl) (by kernel_rfl) (by decide) (fun _ _ _ h => h) (Or.inl ⟨by rfl, ?y120⟩) hHeld ?r120
              case y120 => (intro w hSw; (try dsimp only at hSw); go_simp; try with_reducible rfl)
              try simp only [Act.put, List.setIfInBounds_toArray, List.set_cons_zero, List.set_cons_succ]
              refine last.take (i := 13) (oi := { dst := some 82, op := Op.binOp BinOp.add 3 (Operand.tmp 78) (Operand.tmp 81) 3, type := 3, pos := "l11_three.go:108", after := #[{ on := 9, ground := Ground.data }, { on := 12, ground := Ground.data }], guard := none }) (v := ?v130) rfl (by kernel_rfl) (by kernel_rfl) (by kernel_rfl) (by kernel_rfl) (by decide) (fun _ _ _ h => h) (Or.inl ⟨by rfl, ?y130⟩) hHeld ?r130
              case y130 => (intro w hSw; (try dsimp only at hSw); go_simp; try with_reducible rfl)
              try simp only [Act.put, List.setIfInBounds_toArray, List.set_cons_zero, List.set_cons_succ]
              refine last.one (i := 14) (o := { dst := some 83, op := Op.buildSlice 33 1 #[(0, Operand.tmp 82)], type := 33, pos := "l11_three.go:108", after := #[{ on := 13, ground := Ground.data }], guard := none }) (by kernel_rfl) rfl (fun K hK => ?_)
              go_simp
              
              refine hK.out _ _ ?s140 (fun hHeld => ?_)
              case s140 => (try dsimp only); (first | exact HS3.out | (refine held3c f0 f1 f2 BW.out (by omega) ?_; first | exact BO.out | exact below_dr (Below.refl _ _) | exact below_al (below_dr (Below.refl _ _)) _))
              clear hK K
              try simp only [Act.put, List.setIfInBounds_toArray, List.set_cons_zero, List.set_cons_succ]
              refine last.one (i := 15) (o := { dst := some 84, op := Op.call { callee := Callee.builtin Builtin.append, args := #[Operand.tmp 69, Operand.tmp 83], argTypes := #[33, 33] }, type := 33, pos := "l11_three.go:108", after := #[{ on := 0, ground := Ground.data }, { on := 14, ground := Ground.data }], guard := none }) (by kernel_rfl) rfl (fun K hK => ?_)
              refine step.ownw rfl (.tmp 69) (.tmp 83) 33 rfl 3 i0 (.int .i64 0) 1 8 Try.underlying33 hi hz0 hz1 hz2 rfl (by decide) (w.heap.size + 1) _ q (i64s (spg 0 os js q)) (by exact OQ.out) (by simp [Act.eval]) ⟨w9.heap.size, 0, none⟩ 1 1 [.int .i64 (4 * (ov : Int) + 2 * (jv : Int) + (kv : Int))] (by simp [Act.eval]) rfl (by intro j u hj; match j, hj with | 0, hj => (simp at hj; subst hj; simp [Addr.add])) (by intro u hu; simp at hu; subst hu; rfl) (by unfold maxLen; omega) (by omega) (by simp; omega) (by omega) ?_
              intro v' w3 hown' hgrow hlies
              have HS3 : Hid (w3.cell? ⟨gs, 0, none⟩ = some (.int .i64 (ov : Int)) ∧ w3.cell? ⟨gs, 1, none⟩ = some (.int .i64 (jv : Int)) ∧ w3.cell? ⟨gs, 2, none⟩ = some (.int .i64 (kv : Int)) ∧ Below w.heap.size w w3) := Lib.hid ⟨hgrow.cell (below_cell BO.out _ _ f0) NG.out, hgrow.cell (below_cell BO.out _ _ f1) NG.out, hgrow.cell (below_cell BO.out _ _ f2) NG.out, (below_tr BW.out BO.out).grown hgrow (by simp; omega) (fun j hj => by have := (HO.out.lt j hj).1; omega)⟩
              refine hK.out _ _ ?s150 (fun hHeld => ?_)
              case s150 => (try dsimp only); (first | exact HS3.out | (refine held3c f0 f1 f2 BW.out (by omega) ?_; first | exact BO.out | exact below_dr (Below.refl _ _) | exact below_al (below_dr (Below.refl _ _)) _))
              clear hK K
              try simp only [Act.put, List.setIfInBounds_toArray, List.set_cons_zero, List.set_cons_succ]
              have O3 : Hid (w3.ownsRow (w.heap.size + 1) 3 1 v' (q + 1) (i64s (spg 0 os js (q + 1)))) := Lib.hid (by rw [spg_succ, HV.out, ← app.i64s_snoc]; exact hown')
              have N3 : Hid (v'.ownBlock ≠ some gb) := Lib.hid (fun e => by
                rcases hlies with l | l
                · exact HN.out (l.symm.trans e)
                · rw [l] at e
                  injection e with e
                  have := HGZ.out
                  simp at e
                  omega)
              have Q3 : Hid (w3.cell? ⟨gb, 0, none⟩ = some (.int .i64 1) ∧ w3.cell? ⟨gb, 1, none⟩ = some (.int .i64 2)) := Lib.hid ⟨hgrow.cell QO.out.1 (fun e => HN.out e.symm), hgrow.cell QO.out.2 (fun e => HN.out e.symm)⟩
              have T3 : Hid (Blk w3 w.heap.size 27 #[.int .i64 0, .slice none 0 0]) := Lib.hid ((hgrow.block _ TO.out.lt NT.out).trans TO.out)
              have B3 := Lib.hid HS3.out.2.2.2
              clear hown' hgrow hlies HS3 OQ HO HN HQ HT HB f0 f1 f2 QO TO K9'
              refine last.final (o := { dst := some 9, op := Op.assign (Operand.tmp 84), type := 33, pos := "l11_three.go:108", after := #[{ on := 15, ground := Ground.data }, { on := 15, ground := Ground.chain }, { on := 0, ground := Ground.phase }, { on := 1, ground := Ground.phase }, { on := 2, ground := Ground.phase }, { on := 3, ground := Ground.phase }, { on := 4, ground := Ground.phase }, { on := 5, ground := Ground.phase }, { on := 6, ground := Ground.phase }, { on := 7, ground := Ground.phase }, { on := 8, ground := Ground.phase }, { on := 9, ground := Ground.phase }, { on := 10, ground := Ground.phase }, { on := 11, ground := Ground.phase }, { on := 12, ground := Ground.phase }, { on := 13, ground := Ground.phase }, { on := 14, ground := Ground.phase }, { on := 15, ground := Ground.phase }], guard := none }) (by kernel_rfl) rfl (fun K hK => ?_)
              go_simp
              refine hK.out _ _ ?_
              clear hK K
              try simp only [Act.put, List.setIfInBounds_toArray, List.set_cons_zero, List.set_cons_succ]
              refine last.done (by kernel_rfl) ?_ _
              go_wp2_with fail
              go_roundg g1
              case measure => omega
              case rel => exact ⟨q + 1, by omega, by go_num, ⟨_, rfl, O3, N3⟩, Q3, T3, B3⟩
    | zero =>
      obtain rfl : q = 8 := by omega
      have hin := app.ints_of_owns HO.out
      have HC := Lib.hid (HL.out _ wo hin.ints)
      clear hin
      go_wp2_with fail
      refine HC.out.mono ?_
      rintro e w2 ⟨u, rfl, hu, hb⟩
      rw [HE.out] at hu
      obtain ⟨ua, un, uc, rfl⟩ := hu.rows.shape
      have K1 := Lib.hid (HT.out.below hb)
      have U1 := Lib.hid hu
      have B1 := Lib.hid (below_tr HB.out hb)
      have Z1 : Hid (w.heap.size < wo.heap.size) := Lib.hid HT.out.lt
      obtain ⟨r0, r1, rl⟩ := two_cells K1.out
      have rf : ∀ k, w2.frozen? ⟨w.heap.size, k, none⟩ = false := fun k => Joins.unfrozen_of_block K1.out k
      clear hu hb HC
      go_wp2_with fail
      refine bodyPost_ret (v := .agg #[.int .i64 wh, .slice ua un uc]) (by simp [results, Try.results67, go_sem, r0, r1]) rfl ⟨_, rfl, ?_, ?_⟩
      · have hw : Wrote (fun p => p.block = w.heap.size) w2 ((w2.setCell ⟨w.heap.size, 0, none⟩ (.int .i64 wh)).setCell ⟨w.heap.size, 1, none⟩ (.slice ua un uc)) := Wrote.setCell (S := fun p => p.block = w.heap.size) (Wrote.setCell (S := fun p => p.block = w.heap.size) (Wrote.refl _ _) rfl _) rfl _
        exact (U1.out.wrote hw (fun p hp => .inl (by have e : p.block = w.heap.size := hp; have := Z1.out; omega))).mono (by have := Z1.out; omega) (by simp [World.setCell])
      · exact Below.setCell (Below.setCell B1.out (Nat.le_refl _) _) (Nat.le_refl _) _


set_option maxRecDepth 100000 in
set_option maxHeartbeats 8000000 in
theorem grouped1 (vo vj : Value) (os js : List Int) (wh : Int) (w : World) (ho : Ints w vo os) (hj : Ints w vj js) (hoo : within 2 0 1 os) (hjj : within 8 0 1 js) :
    Calls Try.prog 67 #[.int .i64 1, vo, vj, .int .i64 wh] w fun e w' => ∃ u, e = .returned (.agg #[.int .i64 wh, u]) ∧ OwnRows w' w.heap.size w'.heap.size u (rows8 (ND (sg 1 os js) wh)) ∧ Below w.heap.size w w' := by
  obtain ⟨i0, hi, hz0, hz1, hz2⟩ := info_parts infoInt
  have hmk : ∀ W : World, (Instr.makeSlice 33 (.int .i64 3) (.int .i64 3)).run Try.prog W = .ok (.slice (some ⟨W.heap.size, 0, none⟩) 3 3) (W.alloc (.cells #[.int .i64 0, .int .i64 0, .int .i64 0] 3)) := fun W => by kernel_rfl
  have hlo : os.length = 2 := by have := hoo.1; omega
  have hlj : js.length = 8 := by have := hjj.1; omega
  obtain ⟨Ao, bo, oo, co, rfl, _, _, hAo, hco⟩ := ho.form
  rw [hlo]
  obtain rfl := hAo (by omega)
  obtain ⟨Aj, bj, oj, cj, rfl, _, _, hAj, hcj⟩ := hj.form
  rw [hlj]
  obtain rfl := hAj (by omega)
  have HCO := Lib.hid (fun (i : Nat) (hi : i < 2) => (show pb os i ≤ 1 ∧ w.cell? ⟨bo, oo + i, none⟩ = some (.int .i64 (pb os i : Int)) from by
    obtain ⟨h0, h1, h2⟩ := pb_bit hoo hi
    exact ⟨h0, by rw [hco i h1, h2]⟩))
  have HCJ := Lib.hid (fun (i : Nat) (hi : i < 8) => (show pb js i ≤ 1 ∧ w.cell? ⟨bj, oj + i, none⟩ = some (.int .i64 (pb js i : Int)) from by
    obtain ⟨h0, h1, h2⟩ := pb_bit hjj hi
    exact ⟨h0, by rw [hcj i h1, h2]⟩))
  have HL := Lib.hid (fun (u : Value) (W : World) (hu : Ints W u (spg 1 os js 8)) => l11of u (spg 1 os js 8) wh W hu (len_spg _ _ _ _) (fun q hq => by rw [spg_at 1 os js hq]; have := sg_lt (p := 1) hoo hjj q; omega))
  have HE : Hid (rows8 (ND (sl (spg 1 os js 8)) wh) = rows8 (ND (sg 1 os js) wh)) := Lib.hid (rows8_congr (fun i j hi _ => by unfold ND sl; rw [spg_at 1 os js hi]; rfl))
  obtain ⟨W0, hW0⟩ : ∃ W, W = (w.alloc (.cells #[.int .i64 0, .slice none 0 0] 27)).alloc (.cells #[] 3) := ⟨_, rfl⟩
  have T0 : Hid (Blk W0 w.heap.size 27 #[.int .i64 0, .slice none 0 0]) := Lib.hid (by rw [hW0]; exact (Blk.new _ _ _).alloc _)
  have B0 : Hid (Below w.heap.size w W0) := Lib.hid (by rw [hW0]; exact below_al (below_al (Below.refl _ _) _) _)
  have O0 : Hid (W0.ownsRow (w.heap.size + 1) 3 1 (.slice (some ⟨w.heap.size + 1, 0, none⟩) 0 0) 0 (i64s (spg 1 os js 0))) := Lib.hid (by
    rw [hW0]
    have := World.ownsRow_made (base := w.heap.size + 1) (e := 3) (size := 1) (w.alloc (.cells #[.int .i64 0, .slice none 0 0] 27)) #[] 0 (by simp) (Nat.zero_le _) rfl
    simpa [i64s, spg] using this)
  have Z0 : Hid (W0.heap.size = w.heap.size + 1 + 1) := Lib.hid (by rw [hW0]; simp)
  have HOT := Lib.hid (show Calls Try.prog 92 #[.int .i64 1] W0 fun e w' => ∃ u, e = .returned u ∧ w'.ownsRow W0.heap.size 3 1 u 2 (i64s [(0 : Int), (2 : Int)]) ∧ Below W0.heap.size W0 w' from others 1 (by omega) W0)
  clear ho hj hoo hjj hlo hlj hAo hAj hco hcj
  go_enter Try.func67, Try.ntmps67
  go_wp2_with fail
  rw [← hW0]
  clear hW0
  refine HOT.out.mono ?_
  rintro e w2 ⟨u, rfl, hu, hb⟩
  obtain ⟨gb, uc, rfl, q0, q1⟩ := tpn.own2 hu
  have HGB : Hid (w.heap.size + 1 + 1 ≤ gb) := Lib.hid (by have h := (hu.lt gb (by simp [Value.ownBlock])).1; have := Z0.out; omega)
  have O2 := Lib.hid (app.owns_below O0.out hb)
  have T2 := Lib.hid (T0.out.below hb)
  have B2 := Lib.hid (below_tr B0.out hb)
  have Q2 := Lib.hid (And.intro q0 q1)
  have N2 : Hid ((Value.slice (some ⟨w.heap.size + 1, 0, none⟩) 0 0).ownBlock ≠ some gb) := Lib.hid (fun e => by
    have := HGB.out
    simp [Value.ownBlock] at e
    omega)
  clear hu hb q0 q1 HOT O0 T0 B0 Z0
  go_wp2_with fail
  go_loopg [9, 11] 8 (fun g v s wr => ∃ q : Nat, q + g = 8 ∧ s = .int .i64 (q : Nat) ∧ (∃ vv, v = vv ∧ Hid (wr.ownsRow (w.heap.size + 1) 3 1 vv q (i64s (spg 1 os js q))) ∧ Hid (vv.ownBlock ≠ some gb)) ∧ Hid (wr.cell? ⟨gb, 0, none⟩ = some (.int .i64 0) ∧ wr.cell? ⟨gb, 1, none⟩ = some (.int .i64 2)) ∧ Hid (Blk wr w.heap.size 27 #[.int .i64 0, .slice none 0 0]) ∧ Hid (Below w.heap.size w wr))
  case atStart => exact ⟨0, rfl, rfl, ⟨_, rfl, O2, N2⟩, Q2, T2, B2⟩
  case round =>
    clear O2 N2 Q2 T2 B2
    obtain ⟨q, hq, rfl, ⟨vv, hvv, HO, HN⟩, HQ, HT, HB⟩ := hrel
    obtain ⟨wo, rfl⟩ : ∃ wo : World, wo = wr := ⟨_, rfl⟩
    obtain ⟨va, vl, vc, hv5⟩ := boxl.shapez HO.out
    subst hv5
    subst hvv
    cases gk with
    | succ g1 =>
      have hq8 : q < 8 := by omega
      have hqz : (q : Int) < 8 := by omega
      have HD := fun W => digits q hq8 W
      obtain ⟨x, hx⟩ : ∃ n, n = q / 4 % 2 := ⟨_, rfl⟩
      obtain ⟨y, hy⟩ : ∃ n, n = q / 2 % 2 := ⟨_, rfl⟩
      obtain ⟨z, hz⟩ : ∃ n, n = q % 2 := ⟨_, rfl⟩
      rw [← hx, ← hy, ← hz] at HD
      have HD := Lib.hid HD
      have hx2 : x < 2 := by omega
      have hy2 : y < 2 := by omega
      have hz2 : z < 2 := by omega
      obtain ⟨s, hs⟩ : ∃ n, n = st 1 x y z := ⟨_, rfl⟩
      have hs8 : s + 1 < 8 := by rw [hs]; exact st_lt hx2 hy2 hz2
      have hs2 : s = 2 * (2 * x + z) := hs
      obtain ⟨t, ht⟩ : ∃ n, n = s + 1 := ⟨_, rfl⟩
      obtain ⟨hb1, y1⟩ := HCJ.out s (by omega)
      obtain ⟨hb2, y2⟩ := HCJ.out t (by omega)
      obtain ⟨hb3, y3⟩ := HCO.out y hy2
      have esg : sg 1 os js q = 4 * pb js s + 2 * pb os y + pb js t := by rw [ht, hs, hx, hy, hz]; rfl
      generalize pb js s = jv at *
      generalize pb js t = kv at *
      generalize pb os y = ov at *
      have HSG := Lib.hid esg
      have Y := Lib.hid (And.intro (below_cell HB.out _ _ y1) (And.intro (below_cell HB.out _ _ y2) (below_cell HB.out _ _ y3)))
      have kd1 : IntKind.i64.wrap (2 * (x : Int)) = 2 * (x : Int) := IntWalk.i64_in _ (by omega)
      have kd2 : IntKind.i64.wrap (2 * (x : Int) + (z : Int)) = 2 * (x : Int) + (z : Int) := IntWalk.i64_in _ (by omega)
      have kd3 : IntKind.i64.wrap (2 * (2 * (x : Int) + (z : Int))) = (s : Int) := by rw [IntWalk.i64_in _ (by omega)]; omega
      have kt : IntKind.i64.wrap ((s : Int) + 1) = (t : Int) := by rw [IntWalk.i64_in _ (by omega)]; omega
      have kf1 : IntKind.i64.wrap (4 * (jv : Int)) = 4 * (jv : Int) := IntWalk.i64_in _ (by omega)
      have kf2 : IntKind.i64.wrap (2 * (ov : Int)) = 2 * (ov : Int) := IntWalk.i64_in _ (by omega)
      have kf3 : IntKind.i64.wrap (4 * (jv : Int) + 2 * (ov : Int)) = 4 * (jv : Int) + 2 * (ov : Int) := IntWalk.i64_in _ (by omega)
      have kf4 : IntKind.i64.wrap (4 * (jv : Int) + 2 * (ov : Int) + (kv : Int)) = 4 * (jv : Int) + 2 * (ov : Int) + (kv : Int) := IntWalk.i64_in _ (by omega)
      have hsz : (s : Int) < 8 := by omega
      have htz : (t : Int) < 8 := by omega
      have hdz : (y : Int) < 2 := by omega
      clear esg hx hy hz hx2 hy2 hz2 hs hs8 hs2 ht hb1 hb2 hb3 y1 y2 y3
      go_upto_region 5 with fail
      go_cut [12, 13] (fun s12 s13 wx => ∃ gd gs : Nat, s12 = .slice (some ⟨gd, 0, none⟩) 3 3 ∧ s13 = .slice (some ⟨gs, 0, none⟩) 3 3 ∧ Hid (Blk wx gd 3 #[.int .i64 (x : Int), .int .i64 (y : Int), .int .i64 (z : Int)] ∧ Blk wx gs 3 #[.int .i64 0, .int .i64 0, .int .i64 0] ∧ gd ≠ gs ∧ wo.heap.size ≤ gs ∧ Below wo.heap.size wo wx))
      case first =>
        go_region_held3 (fun w' => Below wo.heap.size wo w')
          ((repeat (first | (with_reducible exact Below.refl _ _) | (with_reducible refine below_dr ?_) | (with_reducible refine below_al ?_ _) | (with_reducible refine below_tr ?_ (by assumption)))))
          (first | (go_at_call 93; (with_reducible refine (HD.out _).mono ?_); rintro e w' ⟨rfl, rfl⟩))
        all_goals
          go_wp2_with fail
          go_meet
          first
            | exact ⟨_, _, rfl, rfl, Lib.hid (two_a wo.drew x y z)⟩
            | exact ⟨_, _, rfl, rfl, Lib.hid (two_b wo.drew x y z)⟩
            | (refine ⟨_, _, rfl, rfl, Lib.hid ?_⟩; obtain ⟨h1, h2, h3, h4, h5⟩ := two_a wo x y z; exact ⟨h1.below (below_dr (Below.refl _ _)), h2.below (below_dr (Below.refl _ _)), h3, h4, below_dr h5⟩)
            | (refine ⟨_, _, rfl, rfl, Lib.hid ?_⟩; obtain ⟨h1, h2, h3, h4, h5⟩ := two_b wo x y z; exact ⟨h1.below (below_dr (Below.refl _ _)), h2.below (below_dr (Below.refl _ _)), h3, h4, below_dr h5⟩)
      case rest =>
        obtain ⟨gd, gs, rfl, rfl, H5⟩ := hcut
        obtain ⟨w5, rfl⟩ : ∃ W : World, W = wc := ⟨_, rfl⟩
        obtain ⟨d0, d1, d2, _⟩ := three_cells H5.out.1
        obtain ⟨o0, o1⟩ := (show w5.cell? ⟨gb, 0, none⟩ = some (.int .i64 0) ∧ w5.cell? ⟨gb, 1, none⟩ = some (.int .i64 2) from ⟨below_cell H5.out.2.2.2.2 _ _ HQ.out.1, below_cell H5.out.2.2.2.2 _ _ HQ.out.2⟩)
        go_upto_region 6 with fail
        go_cut [14] (fun s14 wx => s14 = .int .i64 (s : Int) ∧ Hid (Below w5.heap.size w5 wx))
        case first =>
          go_region_held3 (fun w' => w'.cell? ⟨gb, 0, none⟩ = some (.int .i64 0) ∧ w'.cell? ⟨gb, 1, none⟩ = some (.int .i64 2) ∧ w'.cell? ⟨gd, 0, none⟩ = some (.int .i64 (x : Int)) ∧ w'.cell? ⟨gd, 2, none⟩ = some (.int .i64 (z : Int)) ∧ Below w5.heap.size w5 w') ((refine ⟨below_cell ?_ _ _ o0, below_cell ?_ _ _ o1, below_cell ?_ _ _ d0, below_cell ?_ _ _ d2, ?_⟩; all_goals (repeat (first | (with_reducible exact Below.refl _ _) | (with_reducible refine below_dr ?_) | (with_reducible refine below_al ?_ _) | (with_reducible refine below_tr ?_ (by assumption)))))) (fail)
          all_goals
            go_wp2_with fail
            go_meet
            exact ⟨rfl, Lib.hid (below_dr (Below.refl _ _))⟩
        case rest =>
          obtain ⟨rfl, H6⟩ := hcut
          obtain ⟨w6, rfl⟩ : ∃ W : World, W = wc := ⟨_, rfl⟩
          have K6 := H5.out.2.1.below H6.out
          have B6 := below_tr H5.out.2.2.2.2 H6.out
          have d1' := below_cell H6.out _ _ d1
          have y3 := below_cell B6 _ _ Y.out.2.2
          have rf : ∀ k, w6.frozen? ⟨gs, k, none⟩ = false := fun k => Joins.unfrozen_of_block K6 k
          have K7 : Hid (Blk (w6.setCell ⟨gs, 1, none⟩ (.int .i64 (ov : Int))) gs 3 #[.int .i64 0, .int .i64 (ov : Int), .int .i64 0] ∧ Below wo.heap.size wo (w6.setCell ⟨gs, 1, none⟩ (.int .i64 (ov : Int)))) := Lib.hid ⟨by
            have := Joins.block_setCell (i := 1) K6 (.int .i64 (ov : Int))
            unfold Blk
            simpa using this, Below.setCell B6 H5.out.2.2.2.1 _⟩
          have k6 : (w6.cell? ⟨gs, 1, none⟩) = some (.int .i64 0) := by rw [Joins.cell_of_block K6]; rfl
          have HGS := Lib.hid H5.out.2.2.2.1
          clear d0 d1 d2 o0 o1 K6 B6
          go_upto_region 8 with fail
          clear d1' y3 rf k6 H5 H6
          generalize w6.setCell ⟨gs, 1, none⟩ (.int .i64 (ov : Int)) = w7 at *
          have hgs := HGS.out
          have hgb := World.block_lt_of_cell? _ _ HQ.out.1
          have hgj := World.block_lt_of_cell? _ _ Y.out.1
          have n1 : gb ≠ gs := by simp at hgb; omega
          have n2 : bj ≠ gs := by simp at hgj; omega
          have HNN := Lib.hid (And.intro n1 n2)
          have q0 := below_cell K7.out.2 _ _ HQ.out.1
          have y1 := below_cell K7.out.2 _ _ Y.out.1
          have rf : ∀ k, w7.frozen? ⟨gs, k, none⟩ = false := fun k => Joins.unfrozen_of_block K7.out.1 k
          have K8 : Hid (Blk (w7.setCell ⟨gs, 0, none⟩ (.int .i64 (jv : Int))) gs 3 #[.int .i64 (jv : Int), .int .i64 (ov : Int), .int .i64 0] ∧ Below wo.heap.size wo (w7.setCell ⟨gs, 0, none⟩ (.int .i64 (jv : Int)))) := Lib.hid ⟨by
            have := Joins.block_setCell (i := 0) K7.out.1 (.int .i64 (jv : Int))
            unfold Blk
            simpa using this, Below.setCell K7.out.2 HGS.out _⟩
          have k7 : (w7.cell? ⟨gs, 0, none⟩) = some (.int .i64 0) := by rw [Joins.cell_of_block K7.out.1]; rfl
          clear hgs hgb hgj
          go_cut [14] (fun s14 wx => s14 = .int .i64 (s : Int) ∧ Hid (Blk wx gs 3 #[.int .i64 (jv : Int), .int .i64 (ov : Int), .int .i64 0] ∧ Below wo.heap.size wo wx))
          case first =>
            go_region_held3 (fun w' => w'.cell? ⟨gb, 0, none⟩ = some (.int .i64 0) ∧ w'.cell? ⟨bj, oj + s, none⟩ = some (.int .i64 (jv : Int)) ∧ True)
              ((refine offs2 (R := gs) q0 y1 n1 n2 ?_ trivial; repeat (first | (with_reducible exact step.Off.refl _ _) | (with_reducible refine step.Off.drew ?_) | (with_reducible refine step.Off.setCell ?_ _ _ rfl))))
              (fail)
            all_goals
              go_wp2_with fail
              go_meet
              first
                | exact ⟨rfl, K8⟩
                | exact ⟨rfl, Lib.hid ⟨K8.out.1.below (below_dr (Below.refl _ _)), below_dr K8.out.2⟩⟩
                | exact ⟨rfl, Lib.hid ⟨K8.out.1, below_dr K8.out.2⟩⟩
          case rest =>
            obtain ⟨rfl, K8'⟩ := hcut
            obtain ⟨w8, rfl⟩ : ∃ W : World, W = wc := ⟨_, rfl⟩
            clear q0 y1 rf k7 K7 K8
            have q1 := below_cell K8'.out.2 _ _ HQ.out.2
            have y2 := below_cell K8'.out.2 _ _ Y.out.2.1
            have rf : ∀ k, w8.frozen? ⟨gs, k, none⟩ = false := fun k => Joins.unfrozen_of_block K8'.out.1 k
            have K9 : Hid (Blk (w8.setCell ⟨gs, 2, none⟩ (.int .i64 (kv : Int))) gs 3 #[.int .i64 (jv : Int), .int .i64 (ov : Int), .int .i64 (kv : Int)] ∧ Below wo.heap.size wo (w8.setCell ⟨gs, 2, none⟩ (.int .i64 (kv : Int)))) := Lib.hid ⟨by
              have := Joins.block_setCell (i := 2) K8'.out.1 (.int .i64 (kv : Int))
              unfold Blk
              simpa using this, Below.setCell K8'.out.2 HGS.out _⟩
            have k8 : (w8.cell? ⟨gs, 2, none⟩) = some (.int .i64 0) := by rw [Joins.cell_of_block K8'.out.1]; rfl
            go_upto_region 9 with fail
            go_cut [14] (fun s14 wx => s14 = .int .i64 (s : Int) ∧ Hid (Blk wx gs 3 #[.int .i64 (jv : Int), .int .i64 (ov : Int), .int .i64 (kv : Int)] ∧ Below wo.heap.size wo wx))
            case first =>
              go_region_held3 (fun w' => w'.cell? ⟨gb, 1, none⟩ = some (.int .i64 2) ∧ w'.cell? ⟨bj, oj + t, none⟩ = some (.int .i64 (kv : Int)) ∧ True)
                ((refine offs2 (R := gs) q1 y2 n1 n2 ?_ trivial; repeat (first | (with_reducible exact step.Off.refl _ _) | (with_reducible refine step.Off.drew ?_) | (with_reducible refine step.Off.setCell ?_ _ _ rfl))))
                (fail)
              all_goals
                go_wp2_with fail
                go_meet
                first
                  | exact ⟨rfl, K9⟩
                  | exact ⟨rfl, Lib.hid ⟨K9.out.1.below (below_dr (Below.refl _ _)), below_dr K9.out.2⟩⟩
                  | exact ⟨rfl, Lib.hid ⟨K9.out.1, below_dr K9.out.2⟩⟩
            case rest =>
              obtain ⟨rfl, K9'⟩ := hcut
              obtain ⟨w9, rfl⟩ : ∃ W : World, W = wc := ⟨_, rfl⟩
              clear q1 y2 rf k8 K8' K9

              obtain ⟨f0, f1, f2, _⟩ := three_cells K9'.out.1
              have HV : Hid ((sg 1 os js q : Int) = 4 * (jv : Int) + 2 * (ov : Int) + (kv : Int)) := Lib.hid (by have := HSG.out; omega)
              have BW : Hid (Below w.heap.size w w9) := Lib.hid (below_tr HB.out K9'.out.2)
              have hw1 := HT.out.lt
              have hw2 := K9'.out.2.size
              have hw3 := HGS.out
              have BO : Hid (Below w9.heap.size w9 ((w9.alloc (.cells #[.int .i64 (4 * (jv : Int) + 2 * (ov : Int) + (kv : Int))] 3)).drew)) := Lib.hid (below_al (Below.refl w9.heap.size w9) (.cells #[.int .i64 (4 * (jv : Int) + 2 * (ov : Int) + (kv : Int))] 3)).drew
              have OQ : Hid (((w9.alloc (.cells #[.int .i64 (4 * (jv : Int) + 2 * (ov : Int) + (kv : Int))] 3)).drew).ownsRow (w.heap.size + 1) 3 1 (.slice va vl vc) q (i64s (spg 1 os js q))) := Lib.hid (app.owns_below HO.out (below_tr K9'.out.2 BO.out))
              have NG : Hid (some gs ≠ (Value.slice va vl vc).ownBlock) := Lib.hid (fun e => by
                have := (HO.out.lt gs e.symm).2
                omega)
              have NT : Hid (some w.heap.size ≠ (Value.slice va vl vc).ownBlock) := Lib.hid (fun e => by
                have := (HO.out.lt _ e.symm).1
                omega)
              have hgb := World.block_lt_of_cell? _ _ HQ.out.1
              have HGZ : Hid (gb < wo.heap.size ∧ wo.heap.size ≤ w9.heap.size) := Lib.hid ⟨by simpa using hgb, hw2⟩
              have QO := Lib.hid (And.intro (below_cell (below_tr K9'.out.2 BO.out) _ _ HQ.out.1) (below_cell (below_tr K9'.out.2 BO.out) _ _ HQ.out.2))
              have TO := Lib.hid (HT.out.below (below_tr K9'.out.2 BO.out))
              clear hgb
              go_wp2_with fail
              refine last.start (S := fun w' => w'.cell? ⟨gs, 0, none⟩ = some (.int .i64 (jv : Int)) ∧ w'.cell? ⟨gs, 1, none⟩ = some (.int .i64 (ov : Int)) ∧ w'.cell? ⟨gs, 2, none⟩ = some (.int .i64 (kv : Int)) ∧ Below w.heap.size w w') (L := 16) (by kernel_rfl) ?_
              have hHeld := held3c f0 f1 f2 BW.out (by omega) (below_dr (Below.refl _ _))
              refine last.take (i := 0) (oi := { dst := some 69, op := Op.move (Operand.tmp 9), type := 33, pos := "l11_three.go:108", after := #[], guard := none }) (v := ?v01) rfl (by kernel_rfl) (by kernel_rfl) (by kernel_rfl) (by kernel_rfl) (by decide) (fun _ _ _ h => h) (Or.inl ⟨by rfl, ?y01⟩) hHeld ?r01
              case y01 => (intro w hSw; (try dsimp only at hSw); go_simp; try with_reducible rfl)
              try simp only [Act.put, List.setIfInBounds_toArray, List.set_cons_zero, List.set_cons_succ]
              refine last.take (i := 1) (oi := { dst := some 70, op := Op.move (Operand.tmp 13), type := 33, pos := "l11_three.go:108", after := #[], guard := none }) (v := ?v11) rfl (by kernel_rfl) (by kernel_rfl) (by kernel_rfl) (by kernel_rfl) (by decide) (fun _ _ _ h => h) (Or.inl ⟨by rfl, ?y11⟩) hHeld ?r11
              case y11 => (intro w hSw; (try dsimp only at hSw); go_simp; try with_reducible rfl)
              try simp only [Act.put, List.setIfInBounds_toArray, List.set_cons_zero, List.set_cons_succ]
              refine last.take (i := 2) (oi := { dst := some 71, op := Op.indexAddr 33 (Operand.tmp 70) (Operand.const (Value.int IntKind.i64 0)), type := 0, pos := "l11_three.go:108", after := #[{ on := 1, ground := Ground.data }], guard := none }) (v := ?v21) rfl (by kernel_rfl) (by kernel_rfl) (by kernel_rfl) (by kernel_rfl) (by decide) (fun _ _ _ h => h) (Or.inl ⟨by rfl, ?y21⟩) hHeld ?r21
              case y21 => (intro w hSw; (try dsimp only at hSw); go_simp; try with_reducible rfl)
              try simp only [Act.put, List.setIfInBounds_toArray, List.set_cons_zero, List.set_cons_succ]
              refine last.take (i := 3) (oi := { dst := some 72, op := Op.load 3 (Operand.tmp 71), type := 3, pos := "l11_three.go:108", after := #[{ on := 2, ground := Ground.data }], guard := none }) (v := ?v31) rfl (by kernel_rfl) (by kernel_rfl) (by kernel_rfl) (by kernel_rfl) (by decide) (fun _ _ _ h => h) (Or.inl ⟨by rfl, ?y31⟩) hHeld ?r31
              case y31 => (intro w hSw; (try dsimp only at hSw); go_simp; try with_reducible rfl)
              try simp only [Act.put, List.setIfInBounds_toArray, List.set_cons_zero, List.set_cons_succ]
              refine last.take (i := 4) (oi := { dst := some 73, op := Op.binOp BinOp.mul 3 (Operand.const (Value.int IntKind.i64 4)) (Operand.tmp 72) 3, type := 3, pos := "l11_three.go:108", after := #[{ on := 3, ground := Ground.data }], guard := none }) (v := ?v41) rfl (by kernel_rfl) (by kernel_rfl) (by kernel_rfl) (by kernel_rfl) (by decide) (fun _ _ _ h => h) (Or.inl ⟨by rfl, ?y41⟩) hHeld ?r41
              case y41 => (intro w hSw; (try dsimp only at hSw); go_simp; try with_reducible rfl)
              try simp only [Act.put, List.setIfInBounds_toArray, List.set_cons_zero, List.set_cons_succ]
              refine last.take (i := 5) (oi := { dst := some 74, op := Op.move (Operand.tmp 13), type := 33, pos := "l11_three.go:108", after := #[], guard := none }) (v := ?v51) rfl (by kernel_rfl) (by kernel_rfl) (by kernel_rfl) (by kernel_rfl) (by decide) (fun _ _ _ h => h) (Or.inl ⟨by rfl, ?y51⟩) hHeld ?r51
              case y51 => (intro w hSw; (try dsimp only at hSw); go_simp; try with_reducible rfl)
              try simp only [Act.put, List.setIfInBounds_toArray, List.set_cons_zero, List.set_cons_succ]
              refine last.take (i := 6) (oi := { dst := some 75, op := Op.indexAddr 33 (Operand.tmp 74) (Operand.const (Value.int IntKind.i64 1)), type := 0, pos := "l11_three.go:108", after := #[{ on := 5, ground := Ground.data }], guard := none }) (v := ?v61) rfl (by kernel_rfl) (by kernel_rfl) (by kernel_rfl) (by kernel_rfl) (by decide) (fun _ _ _ h => h) (Or.inl ⟨by rfl, ?y61⟩) hHeld ?r61
              case y61 => (intro w hSw; (try dsimp only at hSw); go_simp; try with_reducible rfl)
              try simp only [Act.put, List.setIfInBounds_toArray, List.set_cons_zero, List.set_cons_succ]
              refine last.take (i := 7) (oi := { dst := some 76, op := Op.load 3 (Operand.tmp 75), type := 3, pos := "l11_three.go:108", after := #[{ on := 6, ground := Ground.data }], guard := none }) (v := ?v71) rfl (by kernel_rfl) (by kernel_rfl) (by kernel_rfl) (by kernel_rfl) (by decide) (fun _ _ _ h => h) (Or.inl ⟨by rfl, ?y71⟩) hHeld ?r71
              case y71 => (intro w hSw; (try dsimp only at hSw); go_simp; try with_reducible rfl)
              try simp only [Act.put, List.setIfInBounds_toArray, List.set_cons_zero, List.set_cons_succ]
              refine last.take (i := 8) (oi := { dst := some 77, op := Op.binOp BinOp.mul 3 (Operand.const (Value.int IntKind.i64 2)) (Operand.tmp 76) 3, type := 3, pos := "l11_three.go:108", after := #[{ on := 7, ground := Ground.data }], guard := none }) (v := ?v81) rfl (by kernel_rfl) (by kernel_rfl) (by kernel_rfl) (by kernel_rfl) (by decide) (fun _ _ _ h => h) (Or.inl ⟨by rfl, ?y81⟩) hHeld ?r81
              case y81 => (intro w hSw; (try dsimp only at hSw); go_simp; try with_reducible rfl)
              try simp only [Act.put, List.setIfInBounds_toArray, List.set_cons_zero, List.set_cons_succ]
              refine last.take (i := 9) (oi := { dst := some 78, op := Op.binOp BinOp.add 3 (Operand.tmp 73) (Operand.tmp 77) 3, type := 3, pos := "l11_three.go:108", after := #[{ on := 4, ground := Ground.data }, { on := 8, ground := Ground.data }], guard := none }) (v := ?v91) rfl (by kernel_rfl) (by kernel_rfl) (by kernel_rfl) (by kernel_rfl) (by decide) (fun _ _ _ h => h) (Or.inl ⟨by rfl, ?y91⟩) hHeld ?r91
              case y91 => (intro w hSw; (try dsimp only at hSw); go_simp; try with_reducible rfl)
              try simp only [Act.put, List.setIfInBounds_toArray, List.set_cons_zero, List.set_cons_succ]
              refine last.take (i := 10) (oi := { dst := some 79, op := Op.move (Operand.tmp 13), type := 33, pos := "l11_three.go:108", after := #[], guard := none }) (v := ?v101) rfl (by kernel_rfl) (by kernel_rfl) (by kernel_rfl) (by kernel_rfl) (by decide) (fun _ _ _ h => h) (Or.inl ⟨by rfl, ?y101⟩) hHeld ?r101
              case y101 => (intro w hSw; (try dsimp only at hSw); go_simp; try with_reducible rfl)
              try simp only [Act.put, List.setIfInBounds_toArray, List.set_cons_zero, List.set_cons_succ]
              refine last.take (i := 11) (oi := { dst := some 80, op := Op.indexAddr 33 (Operand.tmp 79) (Operand.const (Value.int IntKind.i64 2)), type := 0, pos := "l11_three.go:108", after := #[{ on := 10, ground := Ground.data }], guard := none }) (v := ?v111) rfl (by kernel_rfl) (by kernel_rfl) (by kernel_rfl) (by kernel_rfl) (by decide) (fun _ _ _ h => h) (Or.inl ⟨by rfl, ?y111⟩) hHeld ?r111
              case y111 => (intro w hSw; (try dsimp only at hSw); go_simp; try with_reducible rfl)
              try simp only [Act.put, List.setIfInBounds_toArray, List.set_cons_zero, List.set_cons_succ]
              refine last.take (i := 12) (oi := { dst := some 81, op := Op.load 3 (Operand.tmp 80), type := 3, pos := "l11_three.go:108", after := #[{ on := 11, ground := Ground.data }], guard := none }) (v := ?v121) rfl (by kernel_rfl) (by kernel_rfl) (by kernel_rfl) (by kernel_rfl) (by decide) (fun _ _ _ h => h) (Or.inl ⟨by rfl, ?y121⟩) hHeld ?r121
              case y121 => (intro w hSw; (try dsimp only at hSw); go_simp; try with_reducible rfl)
              try simp only [Act.put, List.setIfInBounds_toArray, List.set_cons_zero, List.set_cons_succ]
              refine last.take (i := 13) (oi := { dst := some 82, op := Op.binOp BinOp.add 3 (Operand.tmp 78) (Operand.tmp 81) 3, type := 3, pos := "l11_three.go:108", after := #[{ on := 9, ground := Ground.data }, { on := 12, ground := Ground.data }], guard := none }) (v := ?v131) rfl (by kernel_rfl) (by kernel_rfl) (by kernel_rfl) (by kernel_rfl) (by decide) (fun _ _ _ h => h) (Or.inl ⟨by rfl, ?y131⟩) hHeld ?r131
              case y131 => (intro w hSw; (try dsimp only at hSw); go_simp; try with_reducible rfl)
              try simp only [Act.put, List.setIfInBounds_toArray, List.set_cons_zero, List.set_cons_succ]
              refine last.one (i := 14) (o := { dst := some 83, op := Op.buildSlice 33 1 #[(0, Operand.tmp 82)], type := 33, pos := "l11_three.go:108", after := #[{ on := 13, ground := Ground.data }], guard := none }) (by kernel_rfl) rfl (fun K hK => ?_)
              go_simp
              
              refine hK.out _ _ ?s141 (fun hHeld => ?_)
              case s141 => (try dsimp only); (first | exact HS3.out | (refine held3c f0 f1 f2 BW.out (by omega) ?_; first | exact BO.out | exact below_dr (Below.refl _ _) | exact below_al (below_dr (Below.refl _ _)) _))
              clear hK K
              try simp only [Act.put, List.setIfInBounds_toArray, List.set_cons_zero, List.set_cons_succ]
              refine last.one (i := 15) (o := { dst := some 84, op := Op.call { callee := Callee.builtin Builtin.append, args := #[Operand.tmp 69, Operand.tmp 83], argTypes := #[33, 33] }, type := 33, pos := "l11_three.go:108", after := #[{ on := 0, ground := Ground.data }, { on := 14, ground := Ground.data }], guard := none }) (by kernel_rfl) rfl (fun K hK => ?_)
              refine step.ownw rfl (.tmp 69) (.tmp 83) 33 rfl 3 i0 (.int .i64 0) 1 8 Try.underlying33 hi hz0 hz1 hz2 rfl (by decide) (w.heap.size + 1) _ q (i64s (spg 1 os js q)) (by exact OQ.out) (by simp [Act.eval]) ⟨w9.heap.size, 0, none⟩ 1 1 [.int .i64 (4 * (jv : Int) + 2 * (ov : Int) + (kv : Int))] (by simp [Act.eval]) rfl (by intro j u hj; match j, hj with | 0, hj => (simp at hj; subst hj; simp [Addr.add])) (by intro u hu; simp at hu; subst hu; rfl) (by unfold maxLen; omega) (by omega) (by simp; omega) (by omega) ?_
              intro v' w3 hown' hgrow hlies
              have HS3 : Hid (w3.cell? ⟨gs, 0, none⟩ = some (.int .i64 (jv : Int)) ∧ w3.cell? ⟨gs, 1, none⟩ = some (.int .i64 (ov : Int)) ∧ w3.cell? ⟨gs, 2, none⟩ = some (.int .i64 (kv : Int)) ∧ Below w.heap.size w w3) := Lib.hid ⟨hgrow.cell (below_cell BO.out _ _ f0) NG.out, hgrow.cell (below_cell BO.out _ _ f1) NG.out, hgrow.cell (below_cell BO.out _ _ f2) NG.out, (below_tr BW.out BO.out).grown hgrow (by simp; omega) (fun j hj => by have := (HO.out.lt j hj).1; omega)⟩
              refine hK.out _ _ ?s151 (fun hHeld => ?_)
              case s151 => (try dsimp only); (first | exact HS3.out | (refine held3c f0 f1 f2 BW.out (by omega) ?_; first | exact BO.out | exact below_dr (Below.refl _ _) | exact below_al (below_dr (Below.refl _ _)) _))
              clear hK K
              try simp only [Act.put, List.setIfInBounds_toArray, List.set_cons_zero, List.set_cons_succ]
              have O3 : Hid (w3.ownsRow (w.heap.size + 1) 3 1 v' (q + 1) (i64s (spg 1 os js (q + 1)))) := Lib.hid (by rw [spg_succ, HV.out, ← app.i64s_snoc]; exact hown')
              have N3 : Hid (v'.ownBlock ≠ some gb) := Lib.hid (fun e => by
                rcases hlies with l | l
                · exact HN.out (l.symm.trans e)
                · rw [l] at e
                  injection e with e
                  have := HGZ.out
                  simp at e
                  omega)
              have Q3 : Hid (w3.cell? ⟨gb, 0, none⟩ = some (.int .i64 0) ∧ w3.cell? ⟨gb, 1, none⟩ = some (.int .i64 2)) := Lib.hid ⟨hgrow.cell QO.out.1 (fun e => HN.out e.symm), hgrow.cell QO.out.2 (fun e => HN.out e.symm)⟩
              have T3 : Hid (Blk w3 w.heap.size 27 #[.int .i64 0, .slice none 0 0]) := Lib.hid ((hgrow.block _ TO.out.lt NT.out).trans TO.out)
              have B3 := Lib.hid HS3.out.2.2.2
              clear hown' hgrow hlies HS3 OQ HO HN HQ HT HB f0 f1 f2 QO TO K9'
              refine last.final (o := { dst := some 9, op := Op.assign (Operand.tmp 84), type := 33, pos := "l11_three.go:108", after := #[{ on := 15, ground := Ground.data }, { on := 15, ground := Ground.chain }, { on := 0, ground := Ground.phase }, { on := 1, ground := Ground.phase }, { on := 2, ground := Ground.phase }, { on := 3, ground := Ground.phase }, { on := 4, ground := Ground.phase }, { on := 5, ground := Ground.phase }, { on := 6, ground := Ground.phase }, { on := 7, ground := Ground.phase }, { on := 8, ground := Ground.phase }, { on := 9, ground := Ground.phase }, { on := 10, ground := Ground.phase }, { on := 11, ground := Ground.phase }, { on := 12, ground := Ground.phase }, { on := 13, ground := Ground.phase }, { on := 14, ground := Ground.phase }, { on := 15, ground := Ground.phase }], guard := none }) (by kernel_rfl) rfl (fun K hK => ?_)
              go_simp
              refine hK.out _ _ ?_
              clear hK K
              try simp only [Act.put, List.setIfInBounds_toArray, List.set_cons_zero, List.set_cons_succ]
              refine last.done (by kernel_rfl) ?_ _
              go_wp2_with fail
              go_roundg g1
              case measure => omega
              case rel => exact ⟨q + 1, by omega, by go_num, ⟨_, rfl, O3, N3⟩, Q3, T3, B3⟩
    | zero =>
      obtain rfl : q = 8 := by omega
      have hin := app.ints_of_owns HO.out
      have HC := Lib.hid (HL.out _ wo hin.ints)
      clear hin
      go_wp2_with fail
      refine HC.out.mono ?_
      rintro e w2 ⟨u, rfl, hu, hb⟩
      rw [HE.out] at hu
      obtain ⟨ua, un, uc, rfl⟩ := hu.rows.shape
      have K1 := Lib.hid (HT.out.below hb)
      have U1 := Lib.hid hu
      have B1 := Lib.hid (below_tr HB.out hb)
      have Z1 : Hid (w.heap.size < wo.heap.size) := Lib.hid HT.out.lt
      obtain ⟨r0, r1, rl⟩ := two_cells K1.out
      have rf : ∀ k, w2.frozen? ⟨w.heap.size, k, none⟩ = false := fun k => Joins.unfrozen_of_block K1.out k
      clear hu hb HC
      go_wp2_with fail
      refine bodyPost_ret (v := .agg #[.int .i64 wh, .slice ua un uc]) (by simp [results, Try.results67, go_sem, r0, r1]) rfl ⟨_, rfl, ?_, ?_⟩
      · have hw : Wrote (fun p => p.block = w.heap.size) w2 ((w2.setCell ⟨w.heap.size, 0, none⟩ (.int .i64 wh)).setCell ⟨w.heap.size, 1, none⟩ (.slice ua un uc)) := Wrote.setCell (S := fun p => p.block = w.heap.size) (Wrote.setCell (S := fun p => p.block = w.heap.size) (Wrote.refl _ _) rfl _) rfl _
        exact (U1.out.wrote hw (fun p hp => .inl (by have e : p.block = w.heap.size := hp; have := Z1.out; omega))).mono (by have := Z1.out; omega) (by simp [World.setCell])
      · exact Below.setCell (Below.setCell B1.out (Nat.le_refl _) _) (Nat.le_refl _) _


set_option maxRecDepth 100000 in
set_option maxHeartbeats 8000000 in
theorem grouped2 (vo vj : Value) (os js : List Int) (wh : Int) (w : World) (ho : Ints w vo os) (hj : Ints w vj js) (hoo : within 2 0 1 os) (hjj : within 8 0 1 js) :
    Calls Try.prog 67 #[.int .i64 2, vo, vj, .int .i64 wh] w fun e w' => ∃ u, e = .returned (.agg #[.int .i64 wh, u]) ∧ OwnRows w' w.heap.size w'.heap.size u (rows8 (ND (sg 2 os js) wh)) ∧ Below w.heap.size w w' := by
  obtain ⟨i0, hi, hz0, hz1, hz2⟩ := info_parts infoInt
  have hmk : ∀ W : World, (Instr.makeSlice 33 (.int .i64 3) (.int .i64 3)).run Try.prog W = .ok (.slice (some ⟨W.heap.size, 0, none⟩) 3 3) (W.alloc (.cells #[.int .i64 0, .int .i64 0, .int .i64 0] 3)) := fun W => by kernel_rfl
  have hlo : os.length = 2 := by have := hoo.1; omega
  have hlj : js.length = 8 := by have := hjj.1; omega
  obtain ⟨Ao, bo, oo, co, rfl, _, _, hAo, hco⟩ := ho.form
  rw [hlo]
  obtain rfl := hAo (by omega)
  obtain ⟨Aj, bj, oj, cj, rfl, _, _, hAj, hcj⟩ := hj.form
  rw [hlj]
  obtain rfl := hAj (by omega)
  have HCO := Lib.hid (fun (i : Nat) (hi : i < 2) => (show pb os i ≤ 1 ∧ w.cell? ⟨bo, oo + i, none⟩ = some (.int .i64 (pb os i : Int)) from by
    obtain ⟨h0, h1, h2⟩ := pb_bit hoo hi
    exact ⟨h0, by rw [hco i h1, h2]⟩))
  have HCJ := Lib.hid (fun (i : Nat) (hi : i < 8) => (show pb js i ≤ 1 ∧ w.cell? ⟨bj, oj + i, none⟩ = some (.int .i64 (pb js i : Int)) from by
    obtain ⟨h0, h1, h2⟩ := pb_bit hjj hi
    exact ⟨h0, by rw [hcj i h1, h2]⟩))
  have HL := Lib.hid (fun (u : Value) (W : World) (hu : Ints W u (spg 2 os js 8)) => l11of u (spg 2 os js 8) wh W hu (len_spg _ _ _ _) (fun q hq => by rw [spg_at 2 os js hq]; have := sg_lt (p := 2) hoo hjj q; omega))
  have HE : Hid (rows8 (ND (sl (spg 2 os js 8)) wh) = rows8 (ND (sg 2 os js) wh)) := Lib.hid (rows8_congr (fun i j hi _ => by unfold ND sl; rw [spg_at 2 os js hi]; rfl))
  obtain ⟨W0, hW0⟩ : ∃ W, W = (w.alloc (.cells #[.int .i64 0, .slice none 0 0] 27)).alloc (.cells #[] 3) := ⟨_, rfl⟩
  have T0 : Hid (Blk W0 w.heap.size 27 #[.int .i64 0, .slice none 0 0]) := Lib.hid (by rw [hW0]; exact (Blk.new _ _ _).alloc _)
  have B0 : Hid (Below w.heap.size w W0) := Lib.hid (by rw [hW0]; exact below_al (below_al (Below.refl _ _) _) _)
  have O0 : Hid (W0.ownsRow (w.heap.size + 1) 3 1 (.slice (some ⟨w.heap.size + 1, 0, none⟩) 0 0) 0 (i64s (spg 2 os js 0))) := Lib.hid (by
    rw [hW0]
    have := World.ownsRow_made (base := w.heap.size + 1) (e := 3) (size := 1) (w.alloc (.cells #[.int .i64 0, .slice none 0 0] 27)) #[] 0 (by simp) (Nat.zero_le _) rfl
    simpa [i64s, spg] using this)
  have Z0 : Hid (W0.heap.size = w.heap.size + 1 + 1) := Lib.hid (by rw [hW0]; simp)
  have HOT := Lib.hid (show Calls Try.prog 92 #[.int .i64 2] W0 fun e w' => ∃ u, e = .returned u ∧ w'.ownsRow W0.heap.size 3 1 u 2 (i64s [(0 : Int), (1 : Int)]) ∧ Below W0.heap.size W0 w' from others 2 (by omega) W0)
  clear ho hj hoo hjj hlo hlj hAo hAj hco hcj
  go_enter Try.func67, Try.ntmps67
  go_wp2_with fail
  rw [← hW0]
  clear hW0
  refine HOT.out.mono ?_
  rintro e w2 ⟨u, rfl, hu, hb⟩
  obtain ⟨gb, uc, rfl, q0, q1⟩ := tpn.own2 hu
  have HGB : Hid (w.heap.size + 1 + 1 ≤ gb) := Lib.hid (by have h := (hu.lt gb (by simp [Value.ownBlock])).1; have := Z0.out; omega)
  have O2 := Lib.hid (app.owns_below O0.out hb)
  have T2 := Lib.hid (T0.out.below hb)
  have B2 := Lib.hid (below_tr B0.out hb)
  have Q2 := Lib.hid (And.intro q0 q1)
  have N2 : Hid ((Value.slice (some ⟨w.heap.size + 1, 0, none⟩) 0 0).ownBlock ≠ some gb) := Lib.hid (fun e => by
    have := HGB.out
    simp [Value.ownBlock] at e
    omega)
  clear hu hb q0 q1 HOT O0 T0 B0 Z0
  go_wp2_with fail
  go_loopg [9, 11] 8 (fun g v s wr => ∃ q : Nat, q + g = 8 ∧ s = .int .i64 (q : Nat) ∧ (∃ vv, v = vv ∧ Hid (wr.ownsRow (w.heap.size + 1) 3 1 vv q (i64s (spg 2 os js q))) ∧ Hid (vv.ownBlock ≠ some gb)) ∧ Hid (wr.cell? ⟨gb, 0, none⟩ = some (.int .i64 0) ∧ wr.cell? ⟨gb, 1, none⟩ = some (.int .i64 1)) ∧ Hid (Blk wr w.heap.size 27 #[.int .i64 0, .slice none 0 0]) ∧ Hid (Below w.heap.size w wr))
  case atStart => exact ⟨0, rfl, rfl, ⟨_, rfl, O2, N2⟩, Q2, T2, B2⟩
  case round =>
    clear O2 N2 Q2 T2 B2
    obtain ⟨q, hq, rfl, ⟨vv, hvv, HO, HN⟩, HQ, HT, HB⟩ := hrel
    obtain ⟨wo, rfl⟩ : ∃ wo : World, wo = wr := ⟨_, rfl⟩
    obtain ⟨va, vl, vc, hv5⟩ := boxl.shapez HO.out
    subst hv5
    subst hvv
    cases gk with
    | succ g1 =>
      have hq8 : q < 8 := by omega
      have hqz : (q : Int) < 8 := by omega
      have HD := fun W => digits q hq8 W
      obtain ⟨x, hx⟩ : ∃ n, n = q / 4 % 2 := ⟨_, rfl⟩
      obtain ⟨y, hy⟩ : ∃ n, n = q / 2 % 2 := ⟨_, rfl⟩
      obtain ⟨z, hz⟩ : ∃ n, n = q % 2 := ⟨_, rfl⟩
      rw [← hx, ← hy, ← hz] at HD
      have HD := Lib.hid HD
      have hx2 : x < 2 := by omega
      have hy2 : y < 2 := by omega
      have hz2 : z < 2 := by omega
      obtain ⟨s, hs⟩ : ∃ n, n = st 2 x y z := ⟨_, rfl⟩
      have hs8 : s + 1 < 8 := by rw [hs]; exact st_lt hx2 hy2 hz2
      have hs2 : s = 2 * (2 * x + y) := hs
      obtain ⟨t, ht⟩ : ∃ n, n = s + 1 := ⟨_, rfl⟩
      obtain ⟨hb1, y1⟩ := HCJ.out s (by omega)
      obtain ⟨hb2, y2⟩ := HCJ.out t (by omega)
      obtain ⟨hb3, y3⟩ := HCO.out z hz2
      have esg : sg 2 os js q = 4 * pb js s + 2 * pb js t + pb os z := by rw [ht, hs, hx, hy, hz]; rfl
      generalize pb js s = jv at *
      generalize pb js t = kv at *
      generalize pb os z = ov at *
      have HSG := Lib.hid esg
      have Y := Lib.hid (And.intro (below_cell HB.out _ _ y1) (And.intro (below_cell HB.out _ _ y2) (below_cell HB.out _ _ y3)))
      have kd1 : IntKind.i64.wrap (2 * (x : Int)) = 2 * (x : Int) := IntWalk.i64_in _ (by omega)
      have kd2 : IntKind.i64.wrap (2 * (x : Int) + (y : Int)) = 2 * (x : Int) + (y : Int) := IntWalk.i64_in _ (by omega)
      have kd3 : IntKind.i64.wrap (2 * (2 * (x : Int) + (y : Int))) = (s : Int) := by rw [IntWalk.i64_in _ (by omega)]; omega
      have kt : IntKind.i64.wrap ((s : Int) + 1) = (t : Int) := by rw [IntWalk.i64_in _ (by omega)]; omega
      have kf1 : IntKind.i64.wrap (4 * (jv : Int)) = 4 * (jv : Int) := IntWalk.i64_in _ (by omega)
      have kf2 : IntKind.i64.wrap (2 * (kv : Int)) = 2 * (kv : Int) := IntWalk.i64_in _ (by omega)
      have kf3 : IntKind.i64.wrap (4 * (jv : Int) + 2 * (kv : Int)) = 4 * (jv : Int) + 2 * (kv : Int) := IntWalk.i64_in _ (by omega)
      have kf4 : IntKind.i64.wrap (4 * (jv : Int) + 2 * (kv : Int) + (ov : Int)) = 4 * (jv : Int) + 2 * (kv : Int) + (ov : Int) := IntWalk.i64_in _ (by omega)
      have hsz : (s : Int) < 8 := by omega
      have htz : (t : Int) < 8 := by omega
      have hdz : (z : Int) < 2 := by omega
      clear esg hx hy hz hx2 hy2 hz2 hs hs8 hs2 ht hb1 hb2 hb3 y1 y2 y3
      go_upto_region 5 with fail
      go_cut [12, 13] (fun s12 s13 wx => ∃ gd gs : Nat, s12 = .slice (some ⟨gd, 0, none⟩) 3 3 ∧ s13 = .slice (some ⟨gs, 0, none⟩) 3 3 ∧ Hid (Blk wx gd 3 #[.int .i64 (x : Int), .int .i64 (y : Int), .int .i64 (z : Int)] ∧ Blk wx gs 3 #[.int .i64 0, .int .i64 0, .int .i64 0] ∧ gd ≠ gs ∧ wo.heap.size ≤ gs ∧ Below wo.heap.size wo wx))
      case first =>
        go_region_held3 (fun w' => Below wo.heap.size wo w')
          ((repeat (first | (with_reducible exact Below.refl _ _) | (with_reducible refine below_dr ?_) | (with_reducible refine below_al ?_ _) | (with_reducible refine below_tr ?_ (by assumption)))))
          (first | (go_at_call 93; (with_reducible refine (HD.out _).mono ?_); rintro e w' ⟨rfl, rfl⟩))
        all_goals
          go_wp2_with fail
          go_meet
          first
            | exact ⟨_, _, rfl, rfl, Lib.hid (two_a wo.drew x y z)⟩
            | exact ⟨_, _, rfl, rfl, Lib.hid (two_b wo.drew x y z)⟩
            | (refine ⟨_, _, rfl, rfl, Lib.hid ?_⟩; obtain ⟨h1, h2, h3, h4, h5⟩ := two_a wo x y z; exact ⟨h1.below (below_dr (Below.refl _ _)), h2.below (below_dr (Below.refl _ _)), h3, h4, below_dr h5⟩)
            | (refine ⟨_, _, rfl, rfl, Lib.hid ?_⟩; obtain ⟨h1, h2, h3, h4, h5⟩ := two_b wo x y z; exact ⟨h1.below (below_dr (Below.refl _ _)), h2.below (below_dr (Below.refl _ _)), h3, h4, below_dr h5⟩)
      case rest =>
        obtain ⟨gd, gs, rfl, rfl, H5⟩ := hcut
        obtain ⟨w5, rfl⟩ : ∃ W : World, W = wc := ⟨_, rfl⟩
        obtain ⟨d0, d1, d2, _⟩ := three_cells H5.out.1
        obtain ⟨o0, o1⟩ := (show w5.cell? ⟨gb, 0, none⟩ = some (.int .i64 0) ∧ w5.cell? ⟨gb, 1, none⟩ = some (.int .i64 1) from ⟨below_cell H5.out.2.2.2.2 _ _ HQ.out.1, below_cell H5.out.2.2.2.2 _ _ HQ.out.2⟩)
        go_upto_region 6 with fail
        go_cut [14] (fun s14 wx => s14 = .int .i64 (s : Int) ∧ Hid (Below w5.heap.size w5 wx))
        case first =>
          go_region_held3 (fun w' => w'.cell? ⟨gb, 0, none⟩ = some (.int .i64 0) ∧ w'.cell? ⟨gb, 1, none⟩ = some (.int .i64 1) ∧ w'.cell? ⟨gd, 0, none⟩ = some (.int .i64 (x : Int)) ∧ w'.cell? ⟨gd, 1, none⟩ = some (.int .i64 (y : Int)) ∧ Below w5.heap.size w5 w') ((refine ⟨below_cell ?_ _ _ o0, below_cell ?_ _ _ o1, below_cell ?_ _ _ d0, below_cell ?_ _ _ d1, ?_⟩; all_goals (repeat (first | (with_reducible exact Below.refl _ _) | (with_reducible refine below_dr ?_) | (with_reducible refine below_al ?_ _) | (with_reducible refine below_tr ?_ (by assumption)))))) (fail)
          all_goals
            go_wp2_with fail
            go_meet
            exact ⟨rfl, Lib.hid (below_dr (Below.refl _ _))⟩
        case rest =>
          obtain ⟨rfl, H6⟩ := hcut
          obtain ⟨w6, rfl⟩ : ∃ W : World, W = wc := ⟨_, rfl⟩
          have K6 := H5.out.2.1.below H6.out
          have B6 := below_tr H5.out.2.2.2.2 H6.out
          have d2' := below_cell H6.out _ _ d2
          have y3 := below_cell B6 _ _ Y.out.2.2
          have rf : ∀ k, w6.frozen? ⟨gs, k, none⟩ = false := fun k => Joins.unfrozen_of_block K6 k
          have K7 : Hid (Blk (w6.setCell ⟨gs, 2, none⟩ (.int .i64 (ov : Int))) gs 3 #[.int .i64 0, .int .i64 0, .int .i64 (ov : Int)] ∧ Below wo.heap.size wo (w6.setCell ⟨gs, 2, none⟩ (.int .i64 (ov : Int)))) := Lib.hid ⟨by
            have := Joins.block_setCell (i := 2) K6 (.int .i64 (ov : Int))
            unfold Blk
            simpa using this, Below.setCell B6 H5.out.2.2.2.1 _⟩
          have k6 : (w6.cell? ⟨gs, 2, none⟩) = some (.int .i64 0) := by rw [Joins.cell_of_block K6]; rfl
          have HGS := Lib.hid H5.out.2.2.2.1
          clear d0 d1 d2 o0 o1 K6 B6
          go_upto_region 8 with fail
          clear d2' y3 rf k6 H5 H6
          generalize w6.setCell ⟨gs, 2, none⟩ (.int .i64 (ov : Int)) = w7 at *
          have hgs := HGS.out
          have hgb := World.block_lt_of_cell? _ _ HQ.out.1
          have hgj := World.block_lt_of_cell? _ _ Y.out.1
          have n1 : gb ≠ gs := by simp at hgb; omega
          have n2 : bj ≠ gs := by simp at hgj; omega
          have HNN := Lib.hid (And.intro n1 n2)
          have q0 := below_cell K7.out.2 _ _ HQ.out.1
          have y1 := below_cell K7.out.2 _ _ Y.out.1
          have rf : ∀ k, w7.frozen? ⟨gs, k, none⟩ = false := fun k => Joins.unfrozen_of_block K7.out.1 k
          have K8 : Hid (Blk (w7.setCell ⟨gs, 0, none⟩ (.int .i64 (jv : Int))) gs 3 #[.int .i64 (jv : Int), .int .i64 0, .int .i64 (ov : Int)] ∧ Below wo.heap.size wo (w7.setCell ⟨gs, 0, none⟩ (.int .i64 (jv : Int)))) := Lib.hid ⟨by
            have := Joins.block_setCell (i := 0) K7.out.1 (.int .i64 (jv : Int))
            unfold Blk
            simpa using this, Below.setCell K7.out.2 HGS.out _⟩
          have k7 : (w7.cell? ⟨gs, 0, none⟩) = some (.int .i64 0) := by rw [Joins.cell_of_block K7.out.1]; rfl
          clear hgs hgb hgj
          go_cut [14] (fun s14 wx => s14 = .int .i64 (s : Int) ∧ Hid (Blk wx gs 3 #[.int .i64 (jv : Int), .int .i64 0, .int .i64 (ov : Int)] ∧ Below wo.heap.size wo wx))
          case first =>
            go_region_held3 (fun w' => w'.cell? ⟨gb, 0, none⟩ = some (.int .i64 0) ∧ w'.cell? ⟨bj, oj + s, none⟩ = some (.int .i64 (jv : Int)) ∧ True)
              ((refine offs2 (R := gs) q0 y1 n1 n2 ?_ trivial; repeat (first | (with_reducible exact step.Off.refl _ _) | (with_reducible refine step.Off.drew ?_) | (with_reducible refine step.Off.setCell ?_ _ _ rfl))))
              (fail)
            all_goals
              go_wp2_with fail
              go_meet
              first
                | exact ⟨rfl, K8⟩
                | exact ⟨rfl, Lib.hid ⟨K8.out.1.below (below_dr (Below.refl _ _)), below_dr K8.out.2⟩⟩
                | exact ⟨rfl, Lib.hid ⟨K8.out.1, below_dr K8.out.2⟩⟩
          case rest =>
            obtain ⟨rfl, K8'⟩ := hcut
            obtain ⟨w8, rfl⟩ : ∃ W : World, W = wc := ⟨_, rfl⟩
            clear q0 y1 rf k7 K7 K8
            have q1 := below_cell K8'.out.2 _ _ HQ.out.2
            have y2 := below_cell K8'.out.2 _ _ Y.out.2.1
            have rf : ∀ k, w8.frozen? ⟨gs, k, none⟩ = false := fun k => Joins.unfrozen_of_block K8'.out.1 k
            have K9 : Hid (Blk (w8.setCell ⟨gs, 1, none⟩ (.int .i64 (kv : Int))) gs 3 #[.int .i64 (jv : Int), .int .i64 (kv : Int), .int .i64 (ov : Int)] ∧ Below wo.heap.size wo (w8.setCell ⟨gs, 1, none⟩ (.int .i64 (kv : Int)))) := Lib.hid ⟨by
              have := Joins.block_setCell (i := 1) K8'.out.1 (.int .i64 (kv : Int))
              unfold Blk
              simpa using this, Below.setCell K8'.out.2 HGS.out _⟩
            have k8 : (w8.cell? ⟨gs, 1, none⟩) = some (.int .i64 0) := by rw [Joins.cell_of_block K8'.out.1]; rfl
            go_upto_region 9 with fail
            go_cut [14] (fun s14 wx => s14 = .int .i64 (s : Int) ∧ Hid (Blk wx gs 3 #[.int .i64 (jv : Int), .int .i64 (kv : Int), .int .i64 (ov : Int)] ∧ Below wo.heap.size wo wx))
            case first =>
              go_region_held3 (fun w' => w'.cell? ⟨gb, 1, none⟩ = some (.int .i64 1) ∧ w'.cell? ⟨bj, oj + t, none⟩ = some (.int .i64 (kv : Int)) ∧ True)
                ((refine offs2 (R := gs) q1 y2 n1 n2 ?_ trivial; repeat (first | (with_reducible exact step.Off.refl _ _) | (with_reducible refine step.Off.drew ?_) | (with_reducible refine step.Off.setCell ?_ _ _ rfl))))
                (fail)
              all_goals
                go_wp2_with fail
                go_meet
                first
                  | exact ⟨rfl, K9⟩
                  | exact ⟨rfl, Lib.hid ⟨K9.out.1.below (below_dr (Below.refl _ _)), below_dr K9.out.2⟩⟩
                  | exact ⟨rfl, Lib.hid ⟨K9.out.1, below_dr K9.out.2⟩⟩
            case rest =>
              obtain ⟨rfl, K9'⟩ := hcut
              obtain ⟨w9, rfl⟩ : ∃ W : World, W = wc := ⟨_, rfl⟩
              clear q1 y2 rf k8 K8' K9

              obtain ⟨f0, f1, f2, _⟩ := three_cells K9'.out.1
              have HV : Hid ((sg 2 os js q : Int) = 4 * (jv : Int) + 2 * (kv : Int) + (ov : Int)) := Lib.hid (by have := HSG.out; omega)
              have BW : Hid (Below w.heap.size w w9) := Lib.hid (below_tr HB.out K9'.out.2)
              have hw1 := HT.out.lt
              have hw2 := K9'.out.2.size
              have hw3 := HGS.out
              have BO : Hid (Below w9.heap.size w9 ((w9.alloc (.cells #[.int .i64 (4 * (jv : Int) + 2 * (kv : Int) + (ov : Int))] 3)).drew)) := Lib.hid (below_al (Below.refl w9.heap.size w9) (.cells #[.int .i64 (4 * (jv : Int) + 2 * (kv : Int) + (ov : Int))] 3)).drew
              have OQ : Hid (((w9.alloc (.cells #[.int .i64 (4 * (jv : Int) + 2 * (kv : Int) + (ov : Int))] 3)).drew).ownsRow (w.heap.size + 1) 3 1 (.slice va vl vc) q (i64s (spg 2 os js q))) := Lib.hid (app.owns_below HO.out (below_tr K9'.out.2 BO.out))
              have NG : Hid (some gs ≠ (Value.slice va vl vc).ownBlock) := Lib.hid (fun e => by
                have := (HO.out.lt gs e.symm).2
                omega)
              have NT : Hid (some w.heap.size ≠ (Value.slice va vl vc).ownBlock) := Lib.hid (fun e => by
                have := (HO.out.lt _ e.symm).1
                omega)
              have hgb := World.block_lt_of_cell? _ _ HQ.out.1
              have HGZ : Hid (gb < wo.heap.size ∧ wo.heap.size ≤ w9.heap.size) := Lib.hid ⟨by simpa using hgb, hw2⟩
              have QO := Lib.hid (And.intro (below_cell (below_tr K9'.out.2 BO.out) _ _ HQ.out.1) (below_cell (below_tr K9'.out.2 BO.out) _ _ HQ.out.2))
              have TO := Lib.hid (HT.out.below (below_tr K9'.out.2 BO.out))
              clear hgb
              go_wp2_with fail
              refine last.start (S := fun w' => w'.cell? ⟨gs, 0, none⟩ = some (.int .i64 (jv : Int)) ∧ w'.cell? ⟨gs, 1, none⟩ = some (.int .i64 (kv : Int)) ∧ w'.cell? ⟨gs, 2, none⟩ = some (.int .i64 (ov : Int)) ∧ Below w.heap.size w w') (L := 16) (by kernel_rfl) ?_
              have hHeld := held3c f0 f1 f2 BW.out (by omega) (below_dr (Below.refl _ _))
              refine last.take (i := 0) (oi := { dst := some 69, op := Op.move (Operand.tmp 9), type := 33, pos := "l11_three.go:108", after := #[], guard := none }) (v := ?v02) rfl (by kernel_rfl) (by kernel_rfl) (by kernel_rfl) (by kernel_rfl) (by decide) (fun _ _ _ h => h) (Or.inl ⟨by rfl, ?y02⟩) hHeld ?r02
              case y02 => (intro w hSw; (try dsimp only at hSw); go_simp; try with_reducible rfl)
              try simp only [Act.put, List.setIfInBounds_toArray, List.set_cons_zero, List.set_cons_succ]
              refine last.take (i := 1) (oi := { dst := some 70, op := Op.move (Operand.tmp 13), type := 33, pos := "l11_three.go:108", after := #[], guard := none }) (v := ?v12) rfl (by kernel_rfl) (by kernel_rfl) (by kernel_rfl) (by kernel_rfl) (by decide) (fun _ _ _ h => h) (Or.inl ⟨by rfl, ?y12⟩) hHeld ?r12
              case y12 => (intro w hSw; (try dsimp only at hSw); go_simp; try with_reducible rfl)
              try simp only [Act.put, List.setIfInBounds_toArray, List.set_cons_zero, List.set_cons_succ]
              refine last.take (i := 2) (oi := { dst := some 71, op := Op.indexAddr 33 (Operand.tmp 70) (Operand.const (Value.int IntKind.i64 0)), type := 0, pos := "l11_three.go:108", after := #[{ on := 1, ground := Ground.data }], guard := none }) (v := ?v22) rfl (by kernel_rfl) (by kernel_rfl) (by kernel_rfl) (by kernel_rfl) (by decide) (fun _ _ _ h => h) (Or.inl ⟨by rfl, ?y22⟩) hHeld ?r22
              case y22 => (intro w hSw; (try dsimp only at hSw); go_simp; try with_reducible rfl)
              try simp only [Act.put, List.setIfInBounds_toArray, List.set_cons_zero, List.set_cons_succ]
              refine last.take (i := 3) (oi := { dst := some 72, op := Op.load 3 (Operand.tmp 71), type := 3, pos := "l11_three.go:108", after := #[{ on := 2, ground := Ground.data }], guard := none }) (v := ?v32) rfl (by kernel_rfl) (by kernel_rfl) (by kernel_rfl) (by kernel_rfl) (by decide) (fun _ _ _ h => h) (Or.inl ⟨by rfl, ?y32⟩) hHeld ?r32
              case y32 => (intro w hSw; (try dsimp only at hSw); go_simp; try with_reducible rfl)
              try simp only [Act.put, List.setIfInBounds_toArray, List.set_cons_zero, List.set_cons_succ]
              refine last.take (i := 4) (oi := { dst := some 73, op := Op.binOp BinOp.mul 3 (Operand.const (Value.int IntKind.i64 4)) (Operand.tmp 72) 3, type := 3, pos := "l11_three.go:108", after := #[{ on := 3, ground := Ground.data }], guard := none }) (v := ?v42) rfl (by kernel_rfl) (by kernel_rfl) (by kernel_rfl) (by kernel_rfl) (by decide) (fun _ _ _ h => h) (Or.inl ⟨by rfl, ?y42⟩) hHeld ?r42
              case y42 => (intro w hSw; (try dsimp only at hSw); go_simp; try with_reducible rfl)
              try simp only [Act.put, List.setIfInBounds_toArray, List.set_cons_zero, List.set_cons_succ]
              refine last.take (i := 5) (oi := { dst := some 74, op := Op.move (Operand.tmp 13), type := 33, pos := "l11_three.go:108", after := #[], guard := none }) (v := ?v52) rfl (by kernel_rfl) (by kernel_rfl) (by kernel_rfl) (by kernel_rfl) (by decide) (fun _ _ _ h => h) (Or.inl ⟨by rfl, ?y52⟩) hHeld ?r52
              case y52 => (intro w hSw; (try dsimp only at hSw); go_simp; try with_reducible rfl)
              try simp only [Act.put, List.setIfInBounds_toArray, List.set_cons_zero, List.set_cons_succ]
              refine last.take (i := 6) (oi := { dst := some 75, op := Op.indexAddr 33 (Operand.tmp 74) (Operand.const (Value.int IntKind.i64 1)), type := 0, pos := "l11_three.go:108", after := #[{ on := 5, ground := Ground.data }], guard := none }) (v := ?v62) rfl (by kernel_rfl) (by kernel_rfl) (by kernel_rfl) (by kernel_rfl) (by decide) (fun _ _ _ h => h) (Or.inl ⟨by rfl, ?y62⟩) hHeld ?r62
              case y62 => (intro w hSw; (try dsimp only at hSw); go_simp; try with_reducible rfl)
              try simp only [Act.put, List.setIfInBounds_toArray, List.set_cons_zero, List.set_cons_succ]
              refine last.take (i := 7) (oi := { dst := some 76, op := Op.load 3 (Operand.tmp 75), type := 3, pos := "l11_three.go:108", after := #[{ on := 6, ground := Ground.data }], guard := none }) (v := ?v72) rfl (by kernel_rfl) (by kernel_rfl) (by kernel_rfl) (by kernel_rfl) (by decide) (fun _ _ _ h => h) (Or.inl ⟨by rfl, ?y72⟩) hHeld ?r72
              case y72 => (intro w hSw; (try dsimp only at hSw); go_simp; try with_reducible rfl)
              try simp only [Act.put, List.setIfInBounds_toArray, List.set_cons_zero, List.set_cons_succ]
              refine last.take (i := 8) (oi := { dst := some 77, op := Op.binOp BinOp.mul 3 (Operand.const (Value.int IntKind.i64 2)) (Operand.tmp 76) 3, type := 3, pos := "l11_three.go:108", after := #[{ on := 7, ground := Ground.data }], guard := none }) (v := ?v82) rfl (by kernel_rfl) (by kernel_rfl) (by kernel_rfl) (by kernel_rfl) (by decide) (fun _ _ _ h => h) (Or.inl ⟨by rfl, ?y82⟩) hHeld ?r82
              case y82 => (intro w hSw; (try dsimp only at hSw); go_simp; try with_reducible rfl)
              try simp only [Act.put, List.setIfInBounds_toArray, List.set_cons_zero, List.set_cons_succ]
              refine last.take (i := 9) (oi := { dst := some 78, op := Op.binOp BinOp.add 3 (Operand.tmp 73) (Operand.tmp 77) 3, type := 3, pos := "l11_three.go:108", after := #[{ on := 4, ground := Ground.data }, { on := 8, ground := Ground.data }], guard := none }) (v := ?v92) rfl (by kernel_rfl) (by kernel_rfl) (by kernel_rfl) (by kernel_rfl) (by decide) (fun _ _ _ h => h) (Or.inl ⟨by rfl, ?y92⟩) hHeld ?r92
              case y92 => (intro w hSw; (try dsimp only at hSw); go_simp; try with_reducible rfl)
              try simp only [Act.put, List.setIfInBounds_toArray, List.set_cons_zero, List.set_cons_succ]
              refine last.take (i := 10) (oi := { dst := some 79, op := Op.move (Operand.tmp 13), type := 33, pos := "l11_three.go:108", after := #[], guard := none }) (v := ?v102) rfl (by kernel_rfl) (by kernel_rfl) (by kernel_rfl) (by kernel_rfl) (by decide) (fun _ _ _ h => h) (Or.inl ⟨by rfl, ?y102⟩) hHeld ?r102
              case y102 => (intro w hSw; (try dsimp only at hSw); go_simp; try with_reducible rfl)
              try simp only [Act.put, List.setIfInBounds_toArray, List.set_cons_zero, List.set_cons_succ]
              refine last.take (i := 11) (oi := { dst := some 80, op := Op.indexAddr 33 (Operand.tmp 79) (Operand.const (Value.int IntKind.i64 2)), type := 0, pos := "l11_three.go:108", after := #[{ on := 10, ground := Ground.data }], guard := none }) (v := ?v112) rfl (by kernel_rfl) (by kernel_rfl) (by kernel_rfl) (by kernel_rfl) (by decide) (fun _ _ _ h => h) (Or.inl ⟨by rfl, ?y112⟩) hHeld ?r112
              case y112 => (intro w hSw; (try dsimp only at hSw); go_simp; try with_reducible rfl)
              try simp only [Act.put, List.setIfInBounds_toArray, List.set_cons_zero, List.set_cons_succ]
              refine last.take (i := 12) (oi := { dst := some 81, op := Op.load 3 (Operand.tmp 80), type := 3, pos := "l11_three.go:108", after := #[{ on := 11, ground := Ground.data }], guard := none }) (v := ?v122) rfl (by kernel_rfl) (by kernel_rfl) (by kernel_rfl) (by kernel_rfl) (by decide) (fun _ _ _ h => h) (Or.inl ⟨by rfl, ?y122⟩) hHeld ?r122
              case y122 => (intro w hSw; (try dsimp only at hSw); go_simp; try with_reducible rfl)
              try simp only [Act.put, List.setIfInBounds_toArray, List.set_cons_zero, List.set_cons_succ]
              refine last.take (i := 13) (oi := { dst := some 82, op := Op.binOp BinOp.add 3 (Operand.tmp 78) (Operand.tmp 81) 3, type := 3, pos := "l11_three.go:108", after := #[{ on := 9, ground := Ground.data }, { on := 12, ground := Ground.data }], guard := none }) (v := ?v132) rfl (by kernel_rfl) (by kernel_rfl) (by kernel_rfl) (by kernel_rfl) (by decide) (fun _ _ _ h => h) (Or.inl ⟨by rfl, ?y132⟩) hHeld ?r132
              case y132 => (intro w hSw; (try dsimp only at hSw); go_simp; try with_reducible rfl)
              try simp only [Act.put, List.setIfInBounds_toArray, List.set_cons_zero, List.set_cons_succ]
              refine last.one (i := 14) (o := { dst := some 83, op := Op.buildSlice 33 1 #[(0, Operand.tmp 82)], type := 33, pos := "l11_three.go:108", after := #[{ on := 13, ground := Ground.data }], guard := none }) (by kernel_rfl) rfl (fun K hK => ?_)
              go_simp
              
              refine hK.out _ _ ?s142 (fun hHeld => ?_)
              case s142 => (try dsimp only); (first | exact HS3.out | (refine held3c f0 f1 f2 BW.out (by omega) ?_; first | exact BO.out | exact below_dr (Below.refl _ _) | exact below_al (below_dr (Below.refl _ _)) _))
              clear hK K
              try simp only [Act.put, List.setIfInBounds_toArray, List.set_cons_zero, List.set_cons_succ]
              refine last.one (i := 15) (o := { dst := some 84, op := Op.call { callee := Callee.builtin Builtin.append, args := #[Operand.tmp 69, Operand.tmp 83], argTypes := #[33, 33] }, type := 33, pos := "l11_three.go:108", after := #[{ on := 0, ground := Ground.data }, { on := 14, ground := Ground.data }], guard := none }) (by kernel_rfl) rfl (fun K hK => ?_)
              refine step.ownw rfl (.tmp 69) (.tmp 83) 33 rfl 3 i0 (.int .i64 0) 1 8 Try.underlying33 hi hz0 hz1 hz2 rfl (by decide) (w.heap.size + 1) _ q (i64s (spg 2 os js q)) (by exact OQ.out) (by simp [Act.eval]) ⟨w9.heap.size, 0, none⟩ 1 1 [.int .i64 (4 * (jv : Int) + 2 * (kv : Int) + (ov : Int))] (by simp [Act.eval]) rfl (by intro j u hj; match j, hj with | 0, hj => (simp at hj; subst hj; simp [Addr.add])) (by intro u hu; simp at hu; subst hu; rfl) (by unfold maxLen; omega) (by omega) (by simp; omega) (by omega) ?_
              intro v' w3 hown' hgrow hlies
              have HS3 : Hid (w3.cell? ⟨gs, 0, none⟩ = some (.int .i64 (jv : Int)) ∧ w3.cell? ⟨gs, 1, none⟩ = some (.int .i64 (kv : Int)) ∧ w3.cell? ⟨gs, 2, none⟩ = some (.int .i64 (ov : Int)) ∧ Below w.heap.size w w3) := Lib.hid ⟨hgrow.cell (below_cell BO.out _ _ f0) NG.out, hgrow.cell (below_cell BO.out _ _ f1) NG.out, hgrow.cell (below_cell BO.out _ _ f2) NG.out, (below_tr BW.out BO.out).grown hgrow (by simp; omega) (fun j hj => by have := (HO.out.lt j hj).1; omega)⟩
              refine hK.out _ _ ?s152 (fun hHeld => ?_)
              case s152 => (try dsimp only); (first | exact HS3.out | (refine held3c f0 f1 f2 BW.out (by omega) ?_; first | exact BO.out | exact below_dr (Below.refl _ _) | exact below_al (below_dr (Below.refl _ _)) _))
              clear hK K
              try simp only [Act.put, List.setIfInBounds_toArray, List.set_cons_zero, List.set_cons_succ]
              have O3 : Hid (w3.ownsRow (w.heap.size + 1) 3 1 v' (q + 1) (i64s (spg 2 os js (q + 1)))) := Lib.hid (by rw [spg_succ, HV.out, ← app.i64s_snoc]; exact hown')
              have N3 : Hid (v'.ownBlock ≠ some gb) := Lib.hid (fun e => by
                rcases hlies with l | l
                · exact HN.out (l.symm.trans e)
                · rw [l] at e
                  injection e with e
                  have := HGZ.out
                  simp at e
                  omega)
              have Q3 : Hid (w3.cell? ⟨gb, 0, none⟩ = some (.int .i64 0) ∧ w3.cell? ⟨gb, 1, none⟩ = some (.int .i64 1)) := Lib.hid ⟨hgrow.cell QO.out.1 (fun e => HN.out e.symm), hgrow.cell QO.out.2 (fun e => HN.out e.symm)⟩
              have T3 : Hid (Blk w3 w.heap.size 27 #[.int .i64 0, .slice none 0 0]) := Lib.hid ((hgrow.block _ TO.out.lt NT.out).trans TO.out)
              have B3 := Lib.hid HS3.out.2.2.2
              clear hown' hgrow hlies HS3 OQ HO HN HQ HT HB f0 f1 f2 QO TO K9'
              refine last.final (o := { dst := some 9, op := Op.assign (Operand.tmp 84), type := 33, pos := "l11_three.go:108", after := #[{ on := 15, ground := Ground.data }, { on := 15, ground := Ground.chain }, { on := 0, ground := Ground.phase }, { on := 1, ground := Ground.phase }, { on := 2, ground := Ground.phase }, { on := 3, ground := Ground.phase }, { on := 4, ground := Ground.phase }, { on := 5, ground := Ground.phase }, { on := 6, ground := Ground.phase }, { on := 7, ground := Ground.phase }, { on := 8, ground := Ground.phase }, { on := 9, ground := Ground.phase }, { on := 10, ground := Ground.phase }, { on := 11, ground := Ground.phase }, { on := 12, ground := Ground.phase }, { on := 13, ground := Ground.phase }, { on := 14, ground := Ground.phase }, { on := 15, ground := Ground.phase }], guard := none }) (by kernel_rfl) rfl (fun K hK => ?_)
              go_simp
              refine hK.out _ _ ?_
              clear hK K
              try simp only [Act.put, List.setIfInBounds_toArray, List.set_cons_zero, List.set_cons_succ]
              refine last.done (by kernel_rfl) ?_ _
              go_wp2_with fail
              go_roundg g1
              case measure => omega
              case rel => exact ⟨q + 1, by omega, by go_num, ⟨_, rfl, O3, N3⟩, Q3, T3, B3⟩
    | zero =>
      obtain rfl : q = 8 := by omega
      have hin := app.ints_of_owns HO.out
      have HC := Lib.hid (HL.out _ wo hin.ints)
      clear hin
      go_wp2_with fail
      refine HC.out.mono ?_
      rintro e w2 ⟨u, rfl, hu, hb⟩
      rw [HE.out] at hu
      obtain ⟨ua, un, uc, rfl⟩ := hu.rows.shape
      have K1 := Lib.hid (HT.out.below hb)
      have U1 := Lib.hid hu
      have B1 := Lib.hid (below_tr HB.out hb)
      have Z1 : Hid (w.heap.size < wo.heap.size) := Lib.hid HT.out.lt
      obtain ⟨r0, r1, rl⟩ := two_cells K1.out
      have rf : ∀ k, w2.frozen? ⟨w.heap.size, k, none⟩ = false := fun k => Joins.unfrozen_of_block K1.out k
      clear hu hb HC
      go_wp2_with fail
      refine bodyPost_ret (v := .agg #[.int .i64 wh, .slice ua un uc]) (by simp [results, Try.results67, go_sem, r0, r1]) rfl ⟨_, rfl, ?_, ?_⟩
      · have hw : Wrote (fun p => p.block = w.heap.size) w2 ((w2.setCell ⟨w.heap.size, 0, none⟩ (.int .i64 wh)).setCell ⟨w.heap.size, 1, none⟩ (.slice ua un uc)) := Wrote.setCell (S := fun p => p.block = w.heap.size) (Wrote.setCell (S := fun p => p.block = w.heap.size) (Wrote.refl _ _) rfl _) rfl _
        exact (U1.out.wrote hw (fun p hp => .inl (by have e : p.block = w.heap.size := hp; have := Z1.out; omega))).mono (by have := Z1.out; omega) (by simp [World.setCell])
      · exact Below.setCell (Below.setCell B1.out (Nat.le_refl _) _) (Nat.le_refl _) _


theorem grouped (p : Nat) (hp : p < 3) (vo vj : Value) (os js : List Int) (wh : Int) (w : World) (ho : Ints w vo os) (hj : Ints w vj js) (hoo : within 2 0 1 os) (hjj : within 8 0 1 js) :
    Calls Try.prog 67 #[.int .i64 (p : Int), vo, vj, .int .i64 wh] w fun e w' => ∃ u, e = .returned (.agg #[.int .i64 wh, u]) ∧ OwnRows w' w.heap.size w'.heap.size u (rows8 (ND (sg p os js) wh)) ∧ Below w.heap.size w w' := by
  obtain rfl | rfl | rfl : p = 0 ∨ p = 1 ∨ p = 2 := by omega
  · exact grouped0 vo vj os js wh w ho hj hoo hjj
  · exact grouped1 vo vj os js wh w ho hj hoo hjj
  · exact grouped2 vo vj os js wh w ho hj hoo hjj

set_option maxHeartbeats 4000000 in
theorem spec_any (al : Int) (vo vj : Value) (os js : List Int) (wh : Int) (w : World) (ho : Ints w vo os) (hj : Ints w vj js) :
    Calls Try.prog 29 #[.int .i64 al, vo, vj, .int .i64 wh] w fun e w' => ∃ u, e = .returned (.tuple #[.agg #[.int .i64 (resG al os js wh).wh, u], .bool (resG al os js wh).ok]) ∧ IRows w' u (resG al os js wh).rows ∧ Below w.heap.size w w' := by
  obtain ⟨oa, on, oc, rfl⟩ := ho.shape
  obtain ⟨ja, jn, jc, rfl⟩ := hj.shape
  obtain ⟨W0, hW0⟩ : ∃ W, W = w.alloc (.cells #[.int .i64 0, .slice none 0 0] 27) := ⟨_, rfl⟩
  have Kr : Hid (Blk W0 w.heap.size 27 #[.int .i64 0, .slice none 0 0]) := Lib.hid (by rw [hW0]; exact Blk.new _ _ _)
  have B0 : Hid (Below w.heap.size w W0) := Lib.hid (by rw [hW0]; exact below_al (Below.refl _ _) _)
  have HIO := Lib.hid (ho.below B0.out)
  have HIJ := Lib.hid (hj.below B0.out)
  have HBO := Lib.hid (play.spec_bits _ os 2 W0 HIO.out)
  have HBJ := Lib.hid (play.spec_bits _ js 8 W0 HIJ.out)
  obtain ⟨r0, r1, rl⟩ := two_cells Kr.out
  have rf : ∀ k, W0.frozen? ⟨w.heap.size, k, none⟩ = false := fun k => Joins.unfrozen_of_block Kr.out k
  clear ho hj
  by_cases ha : 0 ≤ al ∧ al ≤ 2
  · obtain ⟨p, rfl⟩ : ∃ p : Nat, al = p := ⟨al.toNat, by omega⟩
    have hp : p < 3 := by omega
    have HPY := Lib.hid (fun W => val.in_yes (p : Int) 0 2 W ha.1 ha.2)
    by_cases hoo : within 2 0 1 os
    · have HBO := Lib.hid (by have h := HBO.out; rw [withinB_yes hoo] at h; exact h)
      by_cases hjj : within 8 0 1 js
      · have HBJ := Lib.hid (by have h := HBJ.out; rw [withinB_yes hjj] at h; exact h)
        by_cases hw : 1 ≤ wh ∧ wh ≤ 1000
        · have HWI := Lib.hid (fun W => val.in_yes wh 1 1000 W hw.1 hw.2)
          have HM := Lib.hid (grouped p hp _ _ os js wh W0 HIO.out HIJ.out hoo hjj)
          have HR := Lib.hid (resG_yes (al := (p : Int)) ⟨ha, hoo, hjj, hw⟩)
          clear ha hoo hjj hp hw
          go_enter Try.func29, Try.ntmps29
          go_wp2_with fail
          rw [← hW0]
          clear hW0
          refine (HPY.out _).mono ?_
          rintro e w' ⟨rfl, rfl⟩
          go_wp2_with fail
          refine HBO.out.mono ?_
          rintro e w' ⟨rfl, rfl⟩
          go_wp2_with fail
          refine HBJ.out.mono ?_
          rintro e w' ⟨rfl, rfl⟩
          go_wp2_with fail
          refine (HWI.out _).mono ?_
          rintro e w' ⟨rfl, rfl⟩
          clear r0 r1 rl rf
          go_wp2_with fail
          refine HM.out.mono ?_
          rintro e w1 ⟨u, rfl, hu, hb⟩
          obtain ⟨ua, un, uc, rfl⟩ := hu.rows.shape
          have K1 := Lib.hid (Kr.out.below hb)
          have U1 := Lib.hid hu
          have B1 := Lib.hid (below_tr B0.out hb)
          have Z1 : Hid (w.heap.size < W0.heap.size) := Lib.hid Kr.out.lt
          obtain ⟨r0, r1, rl⟩ := two_cells K1.out
          have rf : ∀ k, w1.frozen? ⟨w.heap.size, k, none⟩ = false := fun k => Joins.unfrozen_of_block K1.out k
          clear hu hb HM
          go_wp2_with fail
          refine bodyPost_ret (v := .tuple #[.agg #[.int .i64 wh, .slice ua un uc], .bool true]) (by simp [results, Try.results29, go_sem, r0, r1]) rfl ?_
          rw [HR.out]
          refine ⟨_, rfl, ?_, ?_⟩
          · have hw : Wrote (fun p => p.block = w.heap.size) w1 ((w1.setCell ⟨w.heap.size, 0, none⟩ (.int .i64 wh)).setCell ⟨w.heap.size, 1, none⟩ (.slice ua un uc)) := Wrote.setCell (S := fun p => p.block = w.heap.size) (Wrote.setCell (S := fun p => p.block = w.heap.size) (Wrote.refl _ _) rfl _) rfl _
            exact (U1.out.wrote hw (fun p hp => .inl (by have e : p.block = w.heap.size := hp; have := Z1.out; omega))).rows
          · exact Below.setCell (Below.setCell B1.out (Nat.le_refl _) _) (Nat.le_refl _) _
        · have HWI := Lib.hid (fun W => val.in_no wh 1 1000 W (by omega))
          rw [resG_no (fun h => hw h.2.2.2)]
          clear ha hoo hjj hp hw
          go_enter Try.func29, Try.ntmps29
          go_wp2_with fail
          rw [← hW0]
          clear hW0
          refine (HPY.out _).mono ?_
          rintro e w' ⟨rfl, rfl⟩
          go_wp2_with fail
          refine HBO.out.mono ?_
          rintro e w' ⟨rfl, rfl⟩
          go_wp2_with fail
          refine HBJ.out.mono ?_
          rintro e w' ⟨rfl, rfl⟩
          go_wp2_with fail
          refine (HWI.out _).mono ?_
          rintro e w' ⟨rfl, rfl⟩
          go_wp2_with fail
          refine bodyPost_ret (v := .tuple #[.agg #[.int .i64 0, .slice none 0 0], .bool false]) (by simp [results, Try.results29, go_sem, r0, r1]) rfl ⟨_, rfl, IRows.nil _, ?_⟩
          exact Below.setCell (Below.setCell B0.out (Nat.le_refl _) _) (Nat.le_refl _) _
      · have HBJ := Lib.hid (by have h := HBJ.out; rw [withinB_no hjj] at h; exact h)
        rw [resG_no (fun h => hjj h.2.2.1)]
        clear ha hoo hjj hp
        go_enter Try.func29, Try.ntmps29
        go_wp2_with fail
        rw [← hW0]
        clear hW0
        refine (HPY.out _).mono ?_
        rintro e w' ⟨rfl, rfl⟩
        go_wp2_with fail
        refine HBO.out.mono ?_
        rintro e w' ⟨rfl, rfl⟩
        go_wp2_with fail
        refine HBJ.out.mono ?_
        rintro e w' ⟨rfl, rfl⟩
        go_wp2_with fail
        refine bodyPost_ret (v := .tuple #[.agg #[.int .i64 0, .slice none 0 0], .bool false]) (by simp [results, Try.results29, go_sem, r0, r1]) rfl ⟨_, rfl, IRows.nil _, ?_⟩
        exact Below.setCell (Below.setCell B0.out (Nat.le_refl _) _) (Nat.le_refl _) _
    · have HBO := Lib.hid (by have h := HBO.out; rw [withinB_no hoo] at h; exact h)
      rw [resG_no (fun h => hoo h.2.1)]
      clear ha hoo hp
      go_enter Try.func29, Try.ntmps29
      go_wp2_with fail
      rw [← hW0]
      clear hW0
      refine (HPY.out _).mono ?_
      rintro e w' ⟨rfl, rfl⟩
      go_wp2_with fail
      refine HBO.out.mono ?_
      rintro e w' ⟨rfl, rfl⟩
      go_wp2_with fail
      refine bodyPost_ret (v := .tuple #[.agg #[.int .i64 0, .slice none 0 0], .bool false]) (by simp [results, Try.results29, go_sem, r0, r1]) rfl ⟨_, rfl, IRows.nil _, ?_⟩
      exact Below.setCell (Below.setCell B0.out (Nat.le_refl _) _) (Nat.le_refl _) _
  · have HPY := Lib.hid (fun W => val.in_no al 0 2 W (by omega))
    rw [resG_no (fun h => ha h.1)]
    clear ha
    go_enter Try.func29, Try.ntmps29
    go_wp2_with fail
    rw [← hW0]
    clear hW0
    refine (HPY.out _).mono ?_
    rintro e w' ⟨rfl, rfl⟩
    go_wp2_with fail
    refine bodyPost_ret (v := .tuple #[.agg #[.int .i64 0, .slice none 0 0], .bool false]) (by simp [results, Try.results29, go_sem, r0, r1]) rfl ⟨_, rfl, IRows.nil _, ?_⟩
    exact Below.setCell (Below.setCell B0.out (Nat.le_refl _) _) (Nat.le_refl _) _
end Go.Proofs.Ytomofmmecpdalaa.tgm
