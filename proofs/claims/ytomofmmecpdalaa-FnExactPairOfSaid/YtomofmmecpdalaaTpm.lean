/- PairOf of the model. -/
import Derived.Test.YtomofmmecpdalaaTpn
import Derived.Test.YtomofmmecpdalaaLast
import Derived.Deep.DeepCutAuto
namespace Go.Proofs.Ytomofmmecpdalaa.tpm
open Go.RowKit Go.Deep Go.Proofs.Ytomofmmecpdalaa.base
open Go.Proofs.Ytomofmmecpdalaa.ints (infoInt infoInts)
open Go.Proofs.Ytomofmmecpdalaa.rws (total)
open Go.Proofs.Ytomofmmecpdalaa.tri (two_cells)
open Go.Proofs.Ytomofmmecpdalaa.trb (three_cells)
open Go.Proofs.Ytomofmmecpdalaa.tro (ins oth)
open Go.Proofs.Ytomofmmecpdalaa.trn (tc tc_in forms shape_of)
open Go.Proofs.Ytomofmmecpdalaa.trq (quiet quB quB_yes quB_no)
open Go.Proofs.Ytomofmmecpdalaa.trv (okTrio trioB trioB_yes trioB_no)
open Go.Proofs.Ytomofmmecpdalaa.val (in_yes in_no)
open Go.Proofs.Ytomofmmecpdalaa.tpa
open Go.Proofs.Ytomofmmecpdalaa.tps
open Go.Proofs.Ytomofmmecpdalaa.tpn (cells2 keep2 start0)

set_option maxRecDepth 100000 in
set_option maxHeartbeats 8000000 in
theorem spec_any (wh : Int) (v : Value) (xss : List (List Int)) (out : Int) (w : World) (h : IRows w v xss) (hn : total xss ≤ 1048576) :
    Calls Try.prog 46 #[.agg #[.int .i64 wh, v], .int .i64 out] w fun e w' => ∃ u, e = .returned (.tuple #[.agg #[.int .i64 (res wh xss out).x, .int .i64 (res wh xss out).y, .int .i64 (res wh xss out).wh, u], .bool (res wh xss out).ok]) ∧ IRows w' u (res wh xss out).rows ∧ Below w.heap.size w w' := by
  obtain ⟨i0, hi, hz0, hz1, hz2⟩ := info_parts infoInt
  obtain ⟨s0, si, sz0, sz1, sz2⟩ := info_parts infoInts
  have HX := Lib.hid h
  obtain ⟨va, vn, vc, rfl⟩ := h.shape
  obtain ⟨W0, hW0⟩ : ∃ W, W = (w.alloc (.cells #[.int .i64 wh, .slice va vn vc] 27)).alloc (.cells #[.int .i64 0, .int .i64 0, .int .i64 0, .slice none 0 0] 54) := ⟨_, rfl⟩
  have Kt : Hid (Blk W0 w.heap.size 27 #[.int .i64 wh, .slice va vn vc]) := Lib.hid (by rw [hW0]; exact (Blk.new _ _ _).alloc _)
  have Kr : Hid (Blk W0 (w.heap.size + 1) 54 #[.int .i64 0, .int .i64 0, .int .i64 0, .slice none 0 0]) := Lib.hid (by
    rw [hW0]
    have := Blk.new (w.alloc (.cells #[.int .i64 wh, .slice va vn vc] 27)) 54 #[.int .i64 0, .int .i64 0, .int .i64 0, .slice none 0 0]
    simpa using this)
  have B0 : Hid (Below w.heap.size w W0) := Lib.hid (by rw [hW0]; exact below_al (below_al (Below.refl _ _) _) _)
  have HT := trv.spec_any wh _ xss W0 (h.below B0.out) hn
  obtain ⟨t0, t1, _⟩ := two_cells Kt.out
  rw [hW0] at t0 t1
  obtain ⟨wb, hwb⟩ : ∃ W, W = w.alloc (.cells #[.int .i64 wh, .slice va vn vc] 27) := ⟨_, rfl⟩
  have Kb : Hid (Blk wb w.heap.size 27 #[.int .i64 wh, .slice va vn vc]) := Lib.hid (by rw [hwb]; exact Blk.new _ _ _)
  have Zb : Hid (wb.heap.size = w.heap.size + 1 ∧ W0.heap.size = w.heap.size + 1 + 1) := Lib.hid ⟨by rw [hwb]; simp, by rw [hW0]; simp⟩
  have Bb : Hid (Below w.heap.size w wb ∧ Below wb.heap.size wb W0) := Lib.hid ⟨by rw [hwb]; exact below_al (Below.refl _ _) _, by rw [hW0, ← hwb]; exact below_al (Below.refl _ _) _⟩
  clear h hwb
  by_cases hok : okTrio wh xss
  · rw [trioB_yes hok] at HT
    have HT' := Lib.hid HT
    clear HT
    have HQ := Lib.hid (fun (W : World) (hW : Below W0.heap.size W0 W) => trl.l11quiet wh _ xss W (HX.out.below (below_tr B0.out hW)) hok)
    by_cases hq : quiet xss
    · rw [quB_yes hq] at HQ
      by_cases ho : 0 ≤ out ∧ out ≤ 2
      · obtain ⟨p, rfl⟩ : ∃ p : Nat, out = p := ⟨out.toNat, by omega⟩
        have HIN := Lib.hid (fun W => in_yes (p : Int) 0 2 W ho.1 ho.2)
        have HR := Lib.hid (res_yes ⟨hok, hq, ho⟩)
        have hp : p < 3 := by omega
        have HO := Lib.hid (fun W => others p hp W)
        have HOK := Lib.hid hok
        clear hok hq ho
        obtain ⟨B, o, cap, rb, ro, rc, hv, g1, g2⟩ := forms HX.out (shape_of HOK.out)
        injection hv with hv1 hv2 hv3
        subst hv1 hv2 hv3
        have HG := Lib.hid (And.intro g1 g2)
        clear g1 g2
        go_enter Try.func46, Try.ntmps46
        go_wp2_with fail
        rw [← hW0]
        clear t0 t1
        refine HT'.out.mono ?_
        rintro e w1 ⟨rfl, hb⟩
        have E1 := Lib.hid hb
        obtain ⟨t0, t1, _⟩ := two_cells (Kt.out.below hb)
        clear hb HT'
        go_wp2_with fail
        refine (HQ.out w1 E1.out).mono ?_
        rintro e w2 ⟨rfl, hb⟩
        have E2 := Lib.hid (below_tr E1.out hb)
        clear hb HQ E1 t0 t1
        obtain ⟨t0, t1, _⟩ := two_cells (Kt.out.below E2.out)
        go_wp2_with fail
        refine (HIN.out _).mono ?_
        rintro e w' ⟨rfl, rfl⟩
        go_upto_region 3 with fail
        go_cut [6, 7] (fun s6 s7 wx => ∃ (T S gb uc : Nat), s6 = .pointer (some ⟨T, 0, none⟩) ∧ s7 = .slice (some ⟨gb, 0, none⟩) 2 uc ∧ Hid (make.Way wb wx T 2 2 wh 0 (.slice (some ⟨S, 0, none⟩) 0 0) [] (NP xss p)) ∧ Hid (wx.ownsRow wb.heap.size 3 1 (.slice (some ⟨gb, 0, none⟩) 2 uc) 2 (i64s [(fst p : Int), (snd p : Int)])))
        case first =>
          go_region_held3 (fun w' => w'.cell? ⟨w.heap.size, 0, none⟩ = some (.int .i64 wh) ∧ Below w2.heap.size w2 w')
            ((refine ⟨below_cell ?_ _ _ t0, ?_⟩; all_goals (repeat (first | (with_reducible exact Below.refl _ _) | (with_reducible refine below_dr ?_) | (with_reducible refine below_al ?_ _) | (with_reducible refine below_tr ?_ (by assumption)) | (with_reducible refine Below.setCell ?_ (by first | (simp; done) | (simp; omega) | omega) _)))))
            (first | (go_at_call 92; (with_reducible refine (HO.out _).mono ?_); rintro e w3 ⟨ou, rfl, hou, hb3⟩; obtain ⟨gb, uc, rfl, _, _⟩ := tpn.own2 hou; have z3 := hb3.size; try ((first | (have gB : Blk w3 w2.heap.size 54 #[.int .i64 0, .int .i64 0, .int .i64 0, .slice none 0 0] := ((Blk.new w2 54 #[.int .i64 0, .int .i64 0, .int .i64 0, .slice none 0 0]).alloc (.cells #[] 33)).below (below_tr (below_dr (Below.refl _ _)) hb3)) | (have gB : Blk w3 w2.heap.size 54 #[.int .i64 0, .int .i64 0, .int .i64 0, .slice none 0 0] := (Blk.new w2 54 #[.int .i64 0, .int .i64 0, .int .i64 0, .slice none 0 0]).below (below_tr (below_dr (Below.refl _ _)) hb3)) | (have gB : Blk w3 (w2.heap.size + 1) 54 #[.int .i64 0, .int .i64 0, .int .i64 0, .slice none 0 0] := by have hk := (Blk.new (w2.alloc (.cells #[] 33)) 54 #[.int .i64 0, .int .i64 0, .int .i64 0, .slice none 0 0]).below (below_tr (below_dr (Below.refl _ _)) hb3); simpa using hk)); obtain ⟨b0, b1, b2, b3, b4⟩ := four_cells gB; have rf5 := fun q => Joins.unfrozen_of_block gB q; have al5 := below_al (Below.refl w3.heap.size w3) (.cells #[] 33); have b0' := below_cell al5 _ _ b0; have b1' := below_cell al5 _ _ b1; have b2' := below_cell al5 _ _ b2; have b3' := below_cell al5 _ _ b3; have rf6 := fun q => Joins.unfrozen_of_block (gB.below al5) q; clear al5)))
          all_goals (go_wp2_with fail; go_meet)
          all_goals
            have BB := below_tr Bb.out.2 E2.out
            have hzz := Zb.out
            have hz2 := E2.out.size
            have KR : Blk w2 wb.heap.size 54 #[.int .i64 0, .int .i64 0, .int .i64 0, .slice none 0 0] := by rw [hzz.1]; exact Kr.out.below E2.out
            first
              | (have FF := tpn.order1 (wh := wh) hb3 hou; exact ⟨_, _, _, _, rfl, rfl, Lib.hid (start0 BB (by omega) KR FF), Lib.hid (tpn.mono FF.oth BB.size)⟩)
              | (have FF := tpn.order2 (wh := wh) hb3 hou; exact ⟨_, _, _, _, rfl, rfl, Lib.hid (start0 BB (by omega) KR FF), Lib.hid (tpn.mono FF.oth BB.size)⟩)
              | (have FF := tpn.order3 (wh := wh) hb3 hou; exact ⟨_, _, _, _, rfl, rfl, Lib.hid (start0 BB (by omega) KR FF), Lib.hid (tpn.mono FF.oth BB.size)⟩)
              | (have FF := tpn.order4 (wh := wh) hb3 hou; exact ⟨_, _, _, _, rfl, rfl, Lib.hid (start0 BB (by omega) KR FF), Lib.hid (tpn.mono FF.oth BB.size)⟩)
              | (have FF := tpn.order5 (wh := wh) hb3 hou; exact ⟨_, _, _, _, rfl, rfl, Lib.hid (start0 BB (by omega) KR FF), Lib.hid (tpn.mono FF.oth BB.size)⟩)
              | (have FF := tpn.order6 (wh := wh) hb3 hou; exact ⟨_, _, _, _, rfl, rfl, Lib.hid (start0 BB (by omega) KR FF), Lib.hid (tpn.mono FF.oth BB.size)⟩)
        case rest =>
          obtain ⟨T, S, gb, uc, rfl, rfl, HW, HOT⟩ := hcut
          clear t0 t1

          go_wp2_with fail
          go_loopg [8] 2 (fun g s wr => ∃ x : Nat, x + g = 2 ∧ s = .int .i64 (x : Nat) ∧ ∃ v vals, Hid (make.Way wb wr T 2 2 wh (x * 2) v vals (NP xss p)) ∧ Hid (wr.ownsRow wb.heap.size 3 1 (.slice (some ⟨gb, 0, none⟩) 2 uc) 2 (i64s [(fst p : Int), (snd p : Int)])))
          case atStart => exact ⟨0, rfl, rfl, _, _, HW, HOT⟩
          case round =>
            clear HW HOT
            obtain ⟨x, hx, rfl, v, vals, hW, hO⟩ := hrel
            obtain ⟨wo, rfl⟩ : ∃ wo : World, wo = wr := ⟨_, rfl⟩
            cases gk with
            | succ g1 =>
              have hx2 : x < 2 := by omega
              have hxz : (x : Int) < 2 := by omega
              go_wp2_with fail
              go_loopg [9] 2 (fun g s wr => ∃ y : Nat, y + g = 2 ∧ s = .int .i64 (y : Nat) ∧ ∃ v vals, Hid (make.Way wb wr T 2 2 wh (x * 2 + y) v vals (NP xss p)) ∧ Hid (wr.ownsRow wb.heap.size 3 1 (.slice (some ⟨gb, 0, none⟩) 2 uc) 2 (i64s [(fst p : Int), (snd p : Int)])))
              case atStart => exact ⟨0, rfl, rfl, _, _, hW, hO⟩
              case round =>
                clear hW hO
                obtain ⟨y, hy, rfl, v, vals, hW, hO⟩ := hrel
                obtain ⟨wi, rfl⟩ : ∃ wi : World, wi = wr := ⟨_, rfl⟩
                cases gk with
                | succ g2 =>
                  have hy2 : y < 2 := by omega
                  have hyz : (y : Int) < 2 := by omega
                  go_upto_region 10 with fail
                  go_cut [10, 11] (fun s10 s11 wx => s10 = .slice (some ⟨wi.heap.size, 0, none⟩) 4 4 ∧ s11 = .int .i64 ((ins p 0 (x * 2 + y) : Nat) : Int) ∧ Hid (wx.rowIs wi.heap.size 3 4 (fun a => .int .i64 (acc xss p (ins p 0 (x * 2 + y)) a 0)) ∧ Below wi.heap.size wi wx))
                  case first =>
                    obtain ⟨o0, o1⟩ := cells2 hO.out
                    have R0 : Hid ((wi.alloc (.cells (madeCells #[.int .i64 0] 4) 3)).rowIs wi.heap.size 3 4 (fun a => .int .i64 (acc xss p (ins p 0 (x * 2 + y)) a 0))) := Lib.hid ((World.rowIs_made wi (.int .i64 0) 4 3).congr (fun i _ => by simp [acc]))
                    have hmk : ∀ W : World, (Instr.makeSlice 33 (.int .i64 4) (.int .i64 4)).run Try.prog W = .ok (.slice (some ⟨W.heap.size, 0, none⟩) 4 4) (W.alloc (.cells (madeCells #[.int .i64 0] 4) 3)) := fun W => by kernel_rfl

                    obtain rfl | rfl | rfl : p = 0 ∨ p = 1 ∨ p = 2 := by omega
                    · have htriv : True := trivial
                      obtain rfl | rfl : x = 0 ∨ x = 1 := by omega
                      · have htriv : True := trivial
                        obtain rfl | rfl : y = 0 ∨ y = 1 := by omega
                        · have htriv : True := trivial
                          have q0 : wi.cell? ⟨gb, 0, none⟩ = some (.int .i64 1) := o0
                          have q1 : wi.cell? ⟨gb, 1, none⟩ = some (.int .i64 2) := o1
                          clear o0 o1
                          have hw0 : IntKind.i64.wrap 0 = 0 := rfl
                          have hw1 : IntKind.i64.wrap 1 = 1 := rfl
                          have hw2 : IntKind.i64.wrap 2 = 2 := rfl
                          go_region_held3 (fun w' => w'.cell? ⟨gb, 0, none⟩ = some (.int .i64 1) ∧ w'.cell? ⟨gb, 1, none⟩ = some (.int .i64 2) ∧ Below wi.heap.size wi w') ((refine ⟨below_cell ?_ _ _ q0, below_cell ?_ _ _ q1, ?_⟩; all_goals (repeat (first | (with_reducible exact Below.refl _ _) | (with_reducible refine below_dr ?_) | (with_reducible refine below_al ?_ _) | (with_reducible refine below_tr ?_ (by assumption)))))) (fail)
                          all_goals
                            go_wp2_with fail
                            go_meet
                            exact ⟨rfl, rfl, Lib.hid ⟨R0.out.drew, below_dr (below_al (Below.refl _ _) _)⟩⟩
                        · have htriv : True := trivial
                          have q0 : wi.cell? ⟨gb, 0, none⟩ = some (.int .i64 1) := o0
                          have q1 : wi.cell? ⟨gb, 1, none⟩ = some (.int .i64 2) := o1
                          clear o0 o1
                          have hw0 : IntKind.i64.wrap 0 = 0 := rfl
                          have hw1 : IntKind.i64.wrap 1 = 1 := rfl
                          have hw2 : IntKind.i64.wrap 2 = 2 := rfl
                          go_region_held3 (fun w' => w'.cell? ⟨gb, 0, none⟩ = some (.int .i64 1) ∧ w'.cell? ⟨gb, 1, none⟩ = some (.int .i64 2) ∧ Below wi.heap.size wi w') ((refine ⟨below_cell ?_ _ _ q0, below_cell ?_ _ _ q1, ?_⟩; all_goals (repeat (first | (with_reducible exact Below.refl _ _) | (with_reducible refine below_dr ?_) | (with_reducible refine below_al ?_ _) | (with_reducible refine below_tr ?_ (by assumption)))))) (fail)
                          all_goals
                            go_wp2_with fail
                            go_meet
                            exact ⟨rfl, rfl, Lib.hid ⟨R0.out.drew, below_dr (below_al (Below.refl _ _) _)⟩⟩
                      · have htriv : True := trivial
                        obtain rfl | rfl : y = 0 ∨ y = 1 := by omega
                        · have htriv : True := trivial
                          have q0 : wi.cell? ⟨gb, 0, none⟩ = some (.int .i64 1) := o0
                          have q1 : wi.cell? ⟨gb, 1, none⟩ = some (.int .i64 2) := o1
                          clear o0 o1
                          have hw0 : IntKind.i64.wrap 0 = 0 := rfl
                          have hw1 : IntKind.i64.wrap 1 = 1 := rfl
                          have hw2 : IntKind.i64.wrap 2 = 2 := rfl
                          go_region_held3 (fun w' => w'.cell? ⟨gb, 0, none⟩ = some (.int .i64 1) ∧ w'.cell? ⟨gb, 1, none⟩ = some (.int .i64 2) ∧ Below wi.heap.size wi w') ((refine ⟨below_cell ?_ _ _ q0, below_cell ?_ _ _ q1, ?_⟩; all_goals (repeat (first | (with_reducible exact Below.refl _ _) | (with_reducible refine below_dr ?_) | (with_reducible refine below_al ?_ _) | (with_reducible refine below_tr ?_ (by assumption)))))) (fail)
                          all_goals
                            go_wp2_with fail
                            go_meet
                            exact ⟨rfl, rfl, Lib.hid ⟨R0.out.drew, below_dr (below_al (Below.refl _ _) _)⟩⟩
                        · have htriv : True := trivial
                          have q0 : wi.cell? ⟨gb, 0, none⟩ = some (.int .i64 1) := o0
                          have q1 : wi.cell? ⟨gb, 1, none⟩ = some (.int .i64 2) := o1
                          clear o0 o1
                          have hw0 : IntKind.i64.wrap 0 = 0 := rfl
                          have hw1 : IntKind.i64.wrap 1 = 1 := rfl
                          have hw2 : IntKind.i64.wrap 2 = 2 := rfl
                          go_region_held3 (fun w' => w'.cell? ⟨gb, 0, none⟩ = some (.int .i64 1) ∧ w'.cell? ⟨gb, 1, none⟩ = some (.int .i64 2) ∧ Below wi.heap.size wi w') ((refine ⟨below_cell ?_ _ _ q0, below_cell ?_ _ _ q1, ?_⟩; all_goals (repeat (first | (with_reducible exact Below.refl _ _) | (with_reducible refine below_dr ?_) | (with_reducible refine below_al ?_ _) | (with_reducible refine below_tr ?_ (by assumption)))))) (fail)
                          all_goals
                            go_wp2_with fail
                            go_meet
                            exact ⟨rfl, rfl, Lib.hid ⟨R0.out.drew, below_dr (below_al (Below.refl _ _) _)⟩⟩
                    · have htriv : True := trivial
                      obtain rfl | rfl : x = 0 ∨ x = 1 := by omega
                      · have htriv : True := trivial
                        obtain rfl | rfl : y = 0 ∨ y = 1 := by omega
                        · have htriv : True := trivial
                          have q0 : wi.cell? ⟨gb, 0, none⟩ = some (.int .i64 0) := o0
                          have q1 : wi.cell? ⟨gb, 1, none⟩ = some (.int .i64 2) := o1
                          clear o0 o1
                          have hw0 : IntKind.i64.wrap 0 = 0 := rfl
                          have hw1 : IntKind.i64.wrap 1 = 1 := rfl
                          have hw2 : IntKind.i64.wrap 2 = 2 := rfl
                          go_region_held3 (fun w' => w'.cell? ⟨gb, 0, none⟩ = some (.int .i64 0) ∧ w'.cell? ⟨gb, 1, none⟩ = some (.int .i64 2) ∧ Below wi.heap.size wi w') ((refine ⟨below_cell ?_ _ _ q0, below_cell ?_ _ _ q1, ?_⟩; all_goals (repeat (first | (with_reducible exact Below.refl _ _) | (with_reducible refine below_dr ?_) | (with_reducible refine below_al ?_ _) | (with_reducible refine below_tr ?_ (by assumption)))))) (fail)
                          all_goals
                            go_wp2_with fail
                            go_meet
                            exact ⟨rfl, rfl, Lib.hid ⟨R0.out.drew, below_dr (below_al (Below.refl _ _) _)⟩⟩
                        · have htriv : True := trivial
                          have q0 : wi.cell? ⟨gb, 0, none⟩ = some (.int .i64 0) := o0
                          have q1 : wi.cell? ⟨gb, 1, none⟩ = some (.int .i64 2) := o1
                          clear o0 o1
                          have hw0 : IntKind.i64.wrap 0 = 0 := rfl
                          have hw1 : IntKind.i64.wrap 1 = 1 := rfl
                          have hw2 : IntKind.i64.wrap 2 = 2 := rfl
                          go_region_held3 (fun w' => w'.cell? ⟨gb, 0, none⟩ = some (.int .i64 0) ∧ w'.cell? ⟨gb, 1, none⟩ = some (.int .i64 2) ∧ Below wi.heap.size wi w') ((refine ⟨below_cell ?_ _ _ q0, below_cell ?_ _ _ q1, ?_⟩; all_goals (repeat (first | (with_reducible exact Below.refl _ _) | (with_reducible refine below_dr ?_) | (with_reducible refine below_al ?_ _) | (with_reducible refine below_tr ?_ (by assumption)))))) (fail)
                          all_goals
                            go_wp2_with fail
                            go_meet
                            exact ⟨rfl, rfl, Lib.hid ⟨R0.out.drew, below_dr (below_al (Below.refl _ _) _)⟩⟩
                      · have htriv : True := trivial
                        obtain rfl | rfl : y = 0 ∨ y = 1 := by omega
                        · have htriv : True := trivial
                          have q0 : wi.cell? ⟨gb, 0, none⟩ = some (.int .i64 0) := o0
                          have q1 : wi.cell? ⟨gb, 1, none⟩ = some (.int .i64 2) := o1
                          clear o0 o1
                          have hw0 : IntKind.i64.wrap 0 = 0 := rfl
                          have hw1 : IntKind.i64.wrap 1 = 1 := rfl
                          have hw2 : IntKind.i64.wrap 2 = 2 := rfl
                          go_region_held3 (fun w' => w'.cell? ⟨gb, 0, none⟩ = some (.int .i64 0) ∧ w'.cell? ⟨gb, 1, none⟩ = some (.int .i64 2) ∧ Below wi.heap.size wi w') ((refine ⟨below_cell ?_ _ _ q0, below_cell ?_ _ _ q1, ?_⟩; all_goals (repeat (first | (with_reducible exact Below.refl _ _) | (with_reducible refine below_dr ?_) | (with_reducible refine below_al ?_ _) | (with_reducible refine below_tr ?_ (by assumption)))))) (fail)
                          all_goals
                            go_wp2_with fail
                            go_meet
                            exact ⟨rfl, rfl, Lib.hid ⟨R0.out.drew, below_dr (below_al (Below.refl _ _) _)⟩⟩
                        · have htriv : True := trivial
                          have q0 : wi.cell? ⟨gb, 0, none⟩ = some (.int .i64 0) := o0
                          have q1 : wi.cell? ⟨gb, 1, none⟩ = some (.int .i64 2) := o1
                          clear o0 o1
                          have hw0 : IntKind.i64.wrap 0 = 0 := rfl
                          have hw1 : IntKind.i64.wrap 1 = 1 := rfl
                          have hw2 : IntKind.i64.wrap 2 = 2 := rfl
                          go_region_held3 (fun w' => w'.cell? ⟨gb, 0, none⟩ = some (.int .i64 0) ∧ w'.cell? ⟨gb, 1, none⟩ = some (.int .i64 2) ∧ Below wi.heap.size wi w') ((refine ⟨below_cell ?_ _ _ q0, below_cell ?_ _ _ q1, ?_⟩; all_goals (repeat (first | (with_reducible exact Below.refl _ _) | (with_reducible refine below_dr ?_) | (with_reducible refine below_al ?_ _) | (with_reducible refine below_tr ?_ (by assumption)))))) (fail)
                          all_goals
                            go_wp2_with fail
                            go_meet
                            exact ⟨rfl, rfl, Lib.hid ⟨R0.out.drew, below_dr (below_al (Below.refl _ _) _)⟩⟩
                    · have htriv : True := trivial
                      obtain rfl | rfl : x = 0 ∨ x = 1 := by omega
                      · have htriv : True := trivial
                        obtain rfl | rfl : y = 0 ∨ y = 1 := by omega
                        · have htriv : True := trivial
                          have q0 : wi.cell? ⟨gb, 0, none⟩ = some (.int .i64 0) := o0
                          have q1 : wi.cell? ⟨gb, 1, none⟩ = some (.int .i64 1) := o1
                          clear o0 o1
                          have hw0 : IntKind.i64.wrap 0 = 0 := rfl
                          have hw1 : IntKind.i64.wrap 1 = 1 := rfl
                          have hw2 : IntKind.i64.wrap 2 = 2 := rfl
                          go_region_held3 (fun w' => w'.cell? ⟨gb, 0, none⟩ = some (.int .i64 0) ∧ w'.cell? ⟨gb, 1, none⟩ = some (.int .i64 1) ∧ Below wi.heap.size wi w') ((refine ⟨below_cell ?_ _ _ q0, below_cell ?_ _ _ q1, ?_⟩; all_goals (repeat (first | (with_reducible exact Below.refl _ _) | (with_reducible refine below_dr ?_) | (with_reducible refine below_al ?_ _) | (with_reducible refine below_tr ?_ (by assumption)))))) (fail)
                          all_goals
                            go_wp2_with fail
                            go_meet
                            exact ⟨rfl, rfl, Lib.hid ⟨R0.out.drew, below_dr (below_al (Below.refl _ _) _)⟩⟩
                        · have htriv : True := trivial
                          have q0 : wi.cell? ⟨gb, 0, none⟩ = some (.int .i64 0) := o0
                          have q1 : wi.cell? ⟨gb, 1, none⟩ = some (.int .i64 1) := o1
                          clear o0 o1
                          have hw0 : IntKind.i64.wrap 0 = 0 := rfl
                          have hw1 : IntKind.i64.wrap 1 = 1 := rfl
                          have hw2 : IntKind.i64.wrap 2 = 2 := rfl
                          go_region_held3 (fun w' => w'.cell? ⟨gb, 0, none⟩ = some (.int .i64 0) ∧ w'.cell? ⟨gb, 1, none⟩ = some (.int .i64 1) ∧ Below wi.heap.size wi w') ((refine ⟨below_cell ?_ _ _ q0, below_cell ?_ _ _ q1, ?_⟩; all_goals (repeat (first | (with_reducible exact Below.refl _ _) | (with_reducible refine below_dr ?_) | (with_reducible refine below_al ?_ _) | (with_reducible refine below_tr ?_ (by assumption)))))) (fail)
                          all_goals
                            go_wp2_with fail
                            go_meet
                            exact ⟨rfl, rfl, Lib.hid ⟨R0.out.drew, below_dr (below_al (Below.refl _ _) _)⟩⟩
                      · have htriv : True := trivial
                        obtain rfl | rfl : y = 0 ∨ y = 1 := by omega
                        · have htriv : True := trivial
                          have q0 : wi.cell? ⟨gb, 0, none⟩ = some (.int .i64 0) := o0
                          have q1 : wi.cell? ⟨gb, 1, none⟩ = some (.int .i64 1) := o1
                          clear o0 o1
                          have hw0 : IntKind.i64.wrap 0 = 0 := rfl
                          have hw1 : IntKind.i64.wrap 1 = 1 := rfl
                          have hw2 : IntKind.i64.wrap 2 = 2 := rfl
                          go_region_held3 (fun w' => w'.cell? ⟨gb, 0, none⟩ = some (.int .i64 0) ∧ w'.cell? ⟨gb, 1, none⟩ = some (.int .i64 1) ∧ Below wi.heap.size wi w') ((refine ⟨below_cell ?_ _ _ q0, below_cell ?_ _ _ q1, ?_⟩; all_goals (repeat (first | (with_reducible exact Below.refl _ _) | (with_reducible refine below_dr ?_) | (with_reducible refine below_al ?_ _) | (with_reducible refine below_tr ?_ (by assumption)))))) (fail)
                          all_goals
                            go_wp2_with fail
                            go_meet
                            exact ⟨rfl, rfl, Lib.hid ⟨R0.out.drew, below_dr (below_al (Below.refl _ _) _)⟩⟩
                        · have htriv : True := trivial
                          have q0 : wi.cell? ⟨gb, 0, none⟩ = some (.int .i64 0) := o0
                          have q1 : wi.cell? ⟨gb, 1, none⟩ = some (.int .i64 1) := o1
                          clear o0 o1
                          have hw0 : IntKind.i64.wrap 0 = 0 := rfl
                          have hw1 : IntKind.i64.wrap 1 = 1 := rfl
                          have hw2 : IntKind.i64.wrap 2 = 2 := rfl
                          go_region_held3 (fun w' => w'.cell? ⟨gb, 0, none⟩ = some (.int .i64 0) ∧ w'.cell? ⟨gb, 1, none⟩ = some (.int .i64 1) ∧ Below wi.heap.size wi w') ((refine ⟨below_cell ?_ _ _ q0, below_cell ?_ _ _ q1, ?_⟩; all_goals (repeat (first | (with_reducible exact Below.refl _ _) | (with_reducible refine below_dr ?_) | (with_reducible refine below_al ?_ _) | (with_reducible refine below_tr ?_ (by assumption)))))) (fail)
                          all_goals
                            go_wp2_with fail
                            go_meet
                            exact ⟨rfl, rfl, Lib.hid ⟨R0.out.drew, below_dr (below_al (Below.refl _ _) _)⟩⟩
                  case rest =>
                    obtain ⟨rfl, rfl, HR0⟩ := hcut
                    obtain ⟨ip, hip⟩ : ∃ n, n = ins p 0 (x * 2 + y) := ⟨_, rfl⟩
                    have hip8 : ip < 8 := by rw [hip]; unfold ins; split <;> (try split) <;> omega
                    have hipz : (ip : Int) < 8 := by omega
                    rw [← hip] at HR0
                    rw [← hip]
                    have HIP := Lib.hid hip
                    clear hip
                    go_wp2_with fail
                    go_loopg [12] 8 (fun g s wr => ∃ k : Nat, k + g = 8 ∧ s = .int .i64 (k : Nat) ∧ Hid (wr.rowIs wi.heap.size 3 4 (fun a => .int .i64 (acc xss p ip a k))) ∧ Hid (Below wi.heap.size wi wr))
                    case atStart => exact ⟨0, rfl, rfl, Lib.hid HR0.out.1, Lib.hid HR0.out.2⟩
                    case round =>
                      clear HR0
                      obtain ⟨k, hk, rfl, hR, hB⟩ := hrel
                      obtain ⟨wk, rfl⟩ : ∃ wo : World, wo = wr := ⟨_, rfl⟩
                      cases gk with
                      | succ g3 =>
                        have hk8 : k < 8 := by omega
                        have hkz : (k : Int) < 8 := by omega
                        have HD := Lib.hid (fun W => digits k hk8 W)
                        have HA : Hid (atp p k = if p = 0 then 2 * (k / 2 % 2) + k % 2 else if p = 1 then 2 * (k / 4 % 2) + k % 2 else 2 * (k / 4 % 2) + k / 2 % 2) := Lib.hid rfl
                        have HLT := Lib.hid (atp_lt p k)
                        have hd0 : k / 4 % 2 < 2 := by omega
                        have hd1 : k / 2 % 2 < 2 := by omega
                        have hd2 : k % 2 < 2 := by omega
                        generalize k / 4 % 2 = d0 at *
                        generalize k / 2 % 2 = d1 at *
                        generalize k % 2 = d2 at *
                        obtain ⟨A, hA⟩ : ∃ n, n = atp p k := ⟨_, rfl⟩
                        rw [← hA] at HA HLT
                        have HAK := Lib.hid hA
                        clear hA
                        go_wp2_with fail
                        refine (HD.out _).mono ?_
                        rintro e w' ⟨rfl, rfl⟩
                        have z0 : (wk.alloc (.cells #[.int .i64 (d0 : Int), .int .i64 (d1 : Int), .int .i64 (d2 : Int)] 3)).cell? ⟨wk.heap.size, 0, none⟩ = some (.int .i64 (d0 : Int)) := by have := Joins.cell_of_block (Blk.new wk 3 #[.int .i64 (d0 : Int), .int .i64 (d1 : Int), .int .i64 (d2 : Int)]) 0; rw [this]; rfl
                        have z1 : (wk.alloc (.cells #[.int .i64 (d0 : Int), .int .i64 (d1 : Int), .int .i64 (d2 : Int)] 3)).cell? ⟨wk.heap.size, 1, none⟩ = some (.int .i64 (d1 : Int)) := by have := Joins.cell_of_block (Blk.new wk 3 #[.int .i64 (d0 : Int), .int .i64 (d1 : Int), .int .i64 (d2 : Int)]) 1; rw [this]; rfl
                        have z2 : (wk.alloc (.cells #[.int .i64 (d0 : Int), .int .i64 (d1 : Int), .int .i64 (d2 : Int)] 3)).cell? ⟨wk.heap.size, 2, none⟩ = some (.int .i64 (d2 : Int)) := by have := Joins.cell_of_block (Blk.new wk 3 #[.int .i64 (d0 : Int), .int .i64 (d1 : Int), .int .i64 (d2 : Int)]) 2; rw [this]; rfl
                        have BD := Lib.hid (below_al (Below.refl wk.heap.size wk) (.cells #[.int .i64 (d0 : Int), .int .i64 (d1 : Int), .int .i64 (d2 : Int)] 3))
                        obtain ⟨o0, o1⟩ := cells2 (app.owns_below (app.owns_below hO.out hB.out) BD.out)
                        generalize wk.alloc (.cells #[.int .i64 (d0 : Int), .int .i64 (d1 : Int), .int .i64 (d2 : Int)] 3) = wd at *
                        go_upto_region 15 with fail
                        go_cut [14] (fun s14 wx => s14 = .int .i64 (A : Int) ∧ Hid (Below wd.heap.size wd wx))
                        case first =>

                          obtain rfl | rfl | rfl : p = 0 ∨ p = 1 ∨ p = 2 := by omega
                          · have htriv : True := trivial
                            have q0 : wd.cell? ⟨gb, 0, none⟩ = some (.int .i64 1) := o0
                            have q1 : wd.cell? ⟨gb, 1, none⟩ = some (.int .i64 2) := o1
                            have ha : A = 2 * d1 + d2 := HA.out
                            have k1 : IntKind.i64.wrap (2 * (d1 : Int)) = 2 * (d1 : Int) := IntWalk.i64_in _ (by omega)
                            have k2 : IntKind.i64.wrap (2 * (d1 : Int) + (d2 : Int)) = (A : Int) := by rw [IntWalk.i64_in _ (by omega)]; omega
                            clear o0 o1 ha
                            go_region_held3 (fun w' => w'.cell? ⟨gb, 0, none⟩ = some (.int .i64 1) ∧ w'.cell? ⟨gb, 1, none⟩ = some (.int .i64 2) ∧ w'.cell? ⟨wk.heap.size, 1, none⟩ = some (.int .i64 (d1 : Int)) ∧ w'.cell? ⟨wk.heap.size, 2, none⟩ = some (.int .i64 (d2 : Int)) ∧ Below wd.heap.size wd w') ((refine ⟨below_cell ?_ _ _ q0, below_cell ?_ _ _ q1, below_cell ?_ _ _ z1, below_cell ?_ _ _ z2, ?_⟩; all_goals (repeat (first | (with_reducible exact Below.refl _ _) | (with_reducible refine below_dr ?_) | (with_reducible refine below_al ?_ _) | (with_reducible refine below_tr ?_ (by assumption)))))) (fail)
                            all_goals
                              go_wp2_with fail
                              go_meet
                              exact ⟨rfl, Lib.hid (below_dr (Below.refl _ _))⟩
                          · have htriv : True := trivial
                            have q0 : wd.cell? ⟨gb, 0, none⟩ = some (.int .i64 0) := o0
                            have q1 : wd.cell? ⟨gb, 1, none⟩ = some (.int .i64 2) := o1
                            have ha : A = 2 * d0 + d2 := HA.out
                            have k1 : IntKind.i64.wrap (2 * (d0 : Int)) = 2 * (d0 : Int) := IntWalk.i64_in _ (by omega)
                            have k2 : IntKind.i64.wrap (2 * (d0 : Int) + (d2 : Int)) = (A : Int) := by rw [IntWalk.i64_in _ (by omega)]; omega
                            clear o0 o1 ha
                            go_region_held3 (fun w' => w'.cell? ⟨gb, 0, none⟩ = some (.int .i64 0) ∧ w'.cell? ⟨gb, 1, none⟩ = some (.int .i64 2) ∧ w'.cell? ⟨wk.heap.size, 0, none⟩ = some (.int .i64 (d0 : Int)) ∧ w'.cell? ⟨wk.heap.size, 2, none⟩ = some (.int .i64 (d2 : Int)) ∧ Below wd.heap.size wd w') ((refine ⟨below_cell ?_ _ _ q0, below_cell ?_ _ _ q1, below_cell ?_ _ _ z0, below_cell ?_ _ _ z2, ?_⟩; all_goals (repeat (first | (with_reducible exact Below.refl _ _) | (with_reducible refine below_dr ?_) | (with_reducible refine below_al ?_ _) | (with_reducible refine below_tr ?_ (by assumption)))))) (fail)
                            all_goals
                              go_wp2_with fail
                              go_meet
                              exact ⟨rfl, Lib.hid (below_dr (Below.refl _ _))⟩
                          · have htriv : True := trivial
                            have q0 : wd.cell? ⟨gb, 0, none⟩ = some (.int .i64 0) := o0
                            have q1 : wd.cell? ⟨gb, 1, none⟩ = some (.int .i64 1) := o1
                            have ha : A = 2 * d0 + d1 := HA.out
                            have k1 : IntKind.i64.wrap (2 * (d0 : Int)) = 2 * (d0 : Int) := IntWalk.i64_in _ (by omega)
                            have k2 : IntKind.i64.wrap (2 * (d0 : Int) + (d1 : Int)) = (A : Int) := by rw [IntWalk.i64_in _ (by omega)]; omega
                            clear o0 o1 ha
                            go_region_held3 (fun w' => w'.cell? ⟨gb, 0, none⟩ = some (.int .i64 0) ∧ w'.cell? ⟨gb, 1, none⟩ = some (.int .i64 1) ∧ w'.cell? ⟨wk.heap.size, 0, none⟩ = some (.int .i64 (d0 : Int)) ∧ w'.cell? ⟨wk.heap.size, 1, none⟩ = some (.int .i64 (d1 : Int)) ∧ Below wd.heap.size wd w') ((refine ⟨below_cell ?_ _ _ q0, below_cell ?_ _ _ q1, below_cell ?_ _ _ z0, below_cell ?_ _ _ z1, ?_⟩; all_goals (repeat (first | (with_reducible exact Below.refl _ _) | (with_reducible refine below_dr ?_) | (with_reducible refine below_al ?_ _) | (with_reducible refine below_tr ?_ (by assumption)))))) (fail)
                            all_goals
                              go_wp2_with fail
                              go_meet
                              exact ⟨rfl, Lib.hid (below_dr (Below.refl _ _))⟩
                        case rest =>
                          obtain ⟨rfl, hB1⟩ := hcut
                          have EK : Hid (Below wk.heap.size wk wc) := Lib.hid (below_tr BD.out hB1.out)
                          have EW := Lib.hid (below_tr hB.out EK.out)
                          have EB := Lib.hid (below_tr hW.out.below EW.out)
                          have hA4 := HLT.out
                          have hAz : (A : Int) < 4 := by omega
                          have R1 : Hid (wc.rowIs wi.heap.size 3 4 (fun a => .int .i64 (acc xss p ip a k))) := Lib.hid (hR.out.of_block (EK.out.block _ hR.out.lt))
                          obtain ⟨_, t1, _⟩ := two_cells (Kb.out.below EB.out)
                          have x1 := below_cell (below_tr Bb.out.1 EB.out) _ _ (HG.out.1 ip hip8)
                          have x2 := below_cell (below_tr Bb.out.1 EB.out) _ _ (HG.out.2 ip hip8 k hk8)
                          have r1 := R1.out.cell hA4
                          have f1 := R1.out.frozen A
                          have R2 := Lib.hid (((R1.out.set A (.int .i64 (acc xss p ip A k + tc xss ip k))).drew).congr (g := fun i => .int .i64 (acc xss p ip i (k + 1))) (fun i hi => by
                            by_cases e : i = A
                            · have e2 : i = atp p k := by rw [e]; exact HAK.out
                              rw [if_pos e, acc, if_pos e2, e]
                            · have e2 : ¬ i = atp p k := by rw [← HAK.out]; exact e
                              simp only [acc, e, e2, if_false, Int.add_zero]))
                          have B2 := Lib.hid ((Below.setCell EW.out (show wi.heap.size ≤ (⟨wi.heap.size, A, none⟩ : Addr).block from Nat.le_refl _) (.int .i64 (acc xss p ip A k + tc xss ip k))).drew)
                          have ha1 := acc_in HOK.out p hip8 A k (by omega)
                          have ha2 := tc_in HOK.out hip8 hk8
                          have hk7 : (k : Int) ≤ 7 := by omega
                          have kw : IntKind.i64.wrap (acc xss p ip A k + tc xss ip k) = acc xss p ip A k + tc xss ip k := IntWalk.i64_in _ (by omega)
                          clear ha1 ha2 hk7
                          generalize acc xss p ip A k = old at *
                          generalize tc xss ip k = nm at *
                          clear R1 z0 z1 z2 BD hB1 hR EK EW hA4
                          go_wp2_with fail
                          refine last.start (S := fun w' => w'.cell? ⟨w.heap.size, 1, none⟩ = some (.slice (some ⟨B, o, none⟩) 8 vc) ∧ w'.cell? ⟨B, o + ip, none⟩ = some (.slice (some ⟨rb ip, ro ip, none⟩) 8 (rc ip)) ∧ w'.cell? ⟨rb ip, ro ip + k, none⟩ = some (.int .i64 nm) ∧ w'.cell? ⟨wi.heap.size, A, none⟩ = some (.int .i64 old) ∧ w'.frozen? ⟨wi.heap.size, A, none⟩ = false ∧ Below wc.heap.size wc w') (L := 16) (by kernel_rfl) ?_
                          have hHeld := tpn.held4f rfl t1 x1 x2 r1 f1 (below_dr (Below.refl _ _))
                          refine last.take (i := 0) (oi := { dst := some 77, op := Op.move (Operand.tmp 10), type := 33, pos := "l11_three.go:220", after := #[], guard := none }) (v := ?v0a) rfl (by kernel_rfl) (by kernel_rfl) (by kernel_rfl) (by kernel_rfl) (by decide) (fun _ _ _ h => h) (Or.inl ⟨by rfl, ?y0a⟩) hHeld ?r0a
                          case y0a => (intro w hSw; (try dsimp only at hSw); go_simp; try with_reducible rfl)
                          try simp only [Act.put, List.setIfInBounds_toArray, List.set_cons_zero, List.set_cons_succ]
                          refine last.take (i := 1) (oi := { dst := some 78, op := Op.move (Operand.tmp 14), type := 3, pos := "l11_three.go:220", after := #[], guard := none }) (v := ?v1a) rfl (by kernel_rfl) (by kernel_rfl) (by kernel_rfl) (by kernel_rfl) (by decide) (fun _ _ _ h => h) (Or.inl ⟨by rfl, ?y1a⟩) hHeld ?r1a
                          case y1a => (intro w hSw; (try dsimp only at hSw); go_simp; try with_reducible rfl)
                          try simp only [Act.put, List.setIfInBounds_toArray, List.set_cons_zero, List.set_cons_succ]
                          refine last.take (i := 2) (oi := { dst := some 79, op := Op.move (Operand.tmp 10), type := 33, pos := "l11_three.go:220", after := #[], guard := none }) (v := ?v2a) rfl (by kernel_rfl) (by kernel_rfl) (by kernel_rfl) (by kernel_rfl) (by decide) (fun _ _ _ h => h) (Or.inl ⟨by rfl, ?y2a⟩) hHeld ?r2a
                          case y2a => (intro w hSw; (try dsimp only at hSw); go_simp; try with_reducible rfl)
                          try simp only [Act.put, List.setIfInBounds_toArray, List.set_cons_zero, List.set_cons_succ]
                          refine last.take (i := 3) (oi := { dst := some 80, op := Op.move (Operand.tmp 14), type := 3, pos := "l11_three.go:220", after := #[], guard := none }) (v := ?v3a) rfl (by kernel_rfl) (by kernel_rfl) (by kernel_rfl) (by kernel_rfl) (by decide) (fun _ _ _ h => h) (Or.inl ⟨by rfl, ?y3a⟩) hHeld ?r3a
                          case y3a => (intro w hSw; (try dsimp only at hSw); go_simp; try with_reducible rfl)
                          try simp only [Act.put, List.setIfInBounds_toArray, List.set_cons_zero, List.set_cons_succ]
                          refine last.take (i := 4) (oi := { dst := some 81, op := Op.indexAddr 33 (Operand.tmp 79) (Operand.tmp 80), type := 0, pos := "l11_three.go:220", after := #[{ on := 2, ground := Ground.data }, { on := 3, ground := Ground.data }], guard := none }) (v := ?v4a) rfl (by kernel_rfl) (by kernel_rfl) (by kernel_rfl) (by kernel_rfl) (by decide) (fun _ _ _ h => h) (Or.inl ⟨by rfl, ?y4a⟩) hHeld ?r4a
                          case y4a => (intro w hSw; (try dsimp only at hSw); go_simp; try with_reducible rfl)
                          try simp only [Act.put, List.setIfInBounds_toArray, List.set_cons_zero, List.set_cons_succ]
                          refine last.take (i := 5) (oi := { dst := some 82, op := Op.load 3 (Operand.tmp 81), type := 3, pos := "l11_three.go:220", after := #[{ on := 4, ground := Ground.data }], guard := none }) (v := ?v5a) rfl (by kernel_rfl) (by kernel_rfl) (by kernel_rfl) (by kernel_rfl) (by decide) (fun _ _ _ h => h) (Or.inl ⟨by rfl, ?y5a⟩) hHeld ?r5a
                          case y5a => (intro w hSw; (try dsimp only at hSw); go_simp; try with_reducible rfl)
                          try simp only [Act.put, List.setIfInBounds_toArray, List.set_cons_zero, List.set_cons_succ]
                          refine last.take (i := 6) (oi := { dst := some 83, op := Op.fieldAddr 27 (Operand.tmp 2) 1, type := 0, pos := "l11_three.go:220", after := #[], guard := none }) (v := ?v6a) rfl (by kernel_rfl) (by kernel_rfl) (by kernel_rfl) (by kernel_rfl) (by decide) (fun _ _ _ h => h) (Or.inl ⟨by rfl, ?y6a⟩) hHeld ?r6a
                          case y6a => (intro w hSw; (try dsimp only at hSw); go_simp; try with_reducible rfl)
                          try simp only [Act.put, List.setIfInBounds_toArray, List.set_cons_zero, List.set_cons_succ]
                          refine last.take (i := 7) (oi := { dst := some 84, op := Op.load 22 (Operand.tmp 83), type := 22, pos := "l11_three.go:220", after := #[{ on := 6, ground := Ground.data }], guard := none }) (v := ?v7a) rfl (by kernel_rfl) (by kernel_rfl) (by kernel_rfl) (by kernel_rfl) (by decide) (fun _ _ _ h => h) (Or.inl ⟨by rfl, ?y7a⟩) hHeld ?r7a
                          case y7a => (intro w hSw; (try dsimp only at hSw); go_simp; try with_reducible rfl)
                          try simp only [Act.put, List.setIfInBounds_toArray, List.set_cons_zero, List.set_cons_succ]
                          refine last.take (i := 8) (oi := { dst := some 85, op := Op.move (Operand.tmp 11), type := 3, pos := "l11_three.go:220", after := #[], guard := none }) (v := ?v8a) rfl (by kernel_rfl) (by kernel_rfl) (by kernel_rfl) (by kernel_rfl) (by decide) (fun _ _ _ h => h) (Or.inl ⟨by rfl, ?y8a⟩) hHeld ?r8a
                          case y8a => (intro w hSw; (try dsimp only at hSw); go_simp; try with_reducible rfl)
                          try simp only [Act.put, List.setIfInBounds_toArray, List.set_cons_zero, List.set_cons_succ]
                          refine last.take (i := 9) (oi := { dst := some 86, op := Op.indexAddr 22 (Operand.tmp 84) (Operand.tmp 85), type := 0, pos := "l11_three.go:220", after := #[{ on := 7, ground := Ground.data }, { on := 8, ground := Ground.data }], guard := none }) (v := ?v9a) rfl (by kernel_rfl) (by kernel_rfl) (by kernel_rfl) (by kernel_rfl) (by decide) (fun _ _ _ h => h) (Or.inl ⟨by rfl, ?y9a⟩) hHeld ?r9a
                          case y9a => (intro w hSw; (try dsimp only at hSw); go_simp; try with_reducible rfl)
                          try simp only [Act.put, List.setIfInBounds_toArray, List.set_cons_zero, List.set_cons_succ]
                          refine last.take (i := 10) (oi := { dst := some 87, op := Op.load 33 (Operand.tmp 86), type := 33, pos := "l11_three.go:220", after := #[{ on := 9, ground := Ground.data }], guard := none }) (v := ?v10a) rfl (by kernel_rfl) (by kernel_rfl) (by kernel_rfl) (by kernel_rfl) (by decide) (fun _ _ _ h => h) (Or.inl ⟨by rfl, ?y10a⟩) hHeld ?r10a
                          case y10a => (intro w hSw; (try dsimp only at hSw); go_simp; try with_reducible rfl)
                          try simp only [Act.put, List.setIfInBounds_toArray, List.set_cons_zero, List.set_cons_succ]
                          refine last.take (i := 11) (oi := { dst := some 88, op := Op.move (Operand.tmp 12), type := 3, pos := "l11_three.go:220", after := #[], guard := none }) (v := ?v11a) rfl (by kernel_rfl) (by kernel_rfl) (by kernel_rfl) (by kernel_rfl) (by decide) (fun _ _ _ h => h) (Or.inl ⟨by rfl, ?y11a⟩) hHeld ?r11a
                          case y11a => (intro w hSw; (try dsimp only at hSw); go_simp; try with_reducible rfl)
                          try simp only [Act.put, List.setIfInBounds_toArray, List.set_cons_zero, List.set_cons_succ]
                          refine last.take (i := 12) (oi := { dst := some 89, op := Op.indexAddr 33 (Operand.tmp 87) (Operand.tmp 88), type := 0, pos := "l11_three.go:220", after := #[{ on := 10, ground := Ground.data }, { on := 11, ground := Ground.data }], guard := none }) (v := ?v12a) rfl (by kernel_rfl) (by kernel_rfl) (by kernel_rfl) (by kernel_rfl) (by decide) (fun _ _ _ h => h) (Or.inl ⟨by rfl, ?y12a⟩) hHeld ?r12a
                          case y12a => (intro w hSw; (try dsimp only at hSw); go_simp; try with_reducible rfl)
                          try simp only [Act.put, List.setIfInBounds_toArray, List.set_cons_zero, List.set_cons_succ]
                          refine last.take (i := 13) (oi := { dst := some 90, op := Op.load 3 (Operand.tmp 89), type := 3, pos := "l11_three.go:220", after := #[{ on := 12, ground := Ground.data }], guard := none }) (v := ?v13a) rfl (by kernel_rfl) (by kernel_rfl) (by kernel_rfl) (by kernel_rfl) (by decide) (fun _ _ _ h => h) (Or.inl ⟨by rfl, ?y13a⟩) hHeld ?r13a
                          case y13a => (intro w hSw; (try dsimp only at hSw); go_simp; try with_reducible rfl)
                          try simp only [Act.put, List.setIfInBounds_toArray, List.set_cons_zero, List.set_cons_succ]
                          refine last.take (i := 14) (oi := { dst := some 91, op := Op.binOp BinOp.add 3 (Operand.tmp 82) (Operand.tmp 90) 3, type := 3, pos := "l11_three.go:220", after := #[{ on := 5, ground := Ground.data }, { on := 13, ground := Ground.data }], guard := none }) (v := ?v14a) rfl (by kernel_rfl) (by kernel_rfl) (by kernel_rfl) (by kernel_rfl) (by decide) (fun _ _ _ h => h) (Or.inl ⟨by rfl, ?y14a⟩) hHeld ?r14a
                          case y14a => (intro w hSw; (try dsimp only at hSw); go_simp; try with_reducible rfl)
                          try simp only [Act.put, List.setIfInBounds_toArray, List.set_cons_zero, List.set_cons_succ]
                          refine last.take (i := 15) (oi := { dst := some 92, op := Op.indexAddr 33 (Operand.tmp 77) (Operand.tmp 78), type := 0, pos := "l11_three.go:220", after := #[{ on := 0, ground := Ground.data }, { on := 1, ground := Ground.data }, { on := 0, ground := Ground.phase }, { on := 1, ground := Ground.phase }, { on := 2, ground := Ground.phase }, { on := 3, ground := Ground.phase }, { on := 4, ground := Ground.phase }, { on := 5, ground := Ground.phase }, { on := 6, ground := Ground.phase }, { on := 7, ground := Ground.phase }, { on := 8, ground := Ground.phase }, { on := 9, ground := Ground.phase }, { on := 10, ground := Ground.phase }, { on := 11, ground := Ground.phase }, { on := 12, ground := Ground.phase }, { on := 13, ground := Ground.phase }, { on := 14, ground := Ground.phase }], guard := none }) (v := ?v15a) rfl (by kernel_rfl) (by kernel_rfl) (by kernel_rfl) (by kernel_rfl) (by decide) (fun _ _ _ h => h) (Or.inl ⟨by rfl, ?y15a⟩) hHeld ?r15a
                          case y15a => (intro w hSw; (try dsimp only at hSw); go_simp; try with_reducible rfl)
                          try simp only [Act.put, List.setIfInBounds_toArray, List.set_cons_zero, List.set_cons_succ]
                          obtain ⟨_, _, _, q9, f9, _⟩ := hHeld
                          clear t1 x1 x2 r1 f1
                          refine last.final (o := { dst := none, op := Op.store 3 (Operand.tmp 92) (Operand.tmp 91), type := 0, pos := "l11_three.go:220", after := #[{ on := 15, ground := Ground.data }, { on := 14, ground := Ground.data }, { on := 0, ground := Ground.phase }, { on := 1, ground := Ground.phase }, { on := 2, ground := Ground.phase }, { on := 3, ground := Ground.phase }, { on := 4, ground := Ground.phase }, { on := 5, ground := Ground.phase }, { on := 6, ground := Ground.phase }, { on := 7, ground := Ground.phase }, { on := 8, ground := Ground.phase }, { on := 9, ground := Ground.phase }, { on := 10, ground := Ground.phase }, { on := 11, ground := Ground.phase }, { on := 12, ground := Ground.phase }, { on := 13, ground := Ground.phase }, { on := 14, ground := Ground.phase }], guard := none }) (by kernel_rfl) rfl (fun K hK => ?_)
                          go_simp
                          refine hK.out _ _ ?_
                          clear hK K
                          try simp only [Act.put, List.setIfInBounds_toArray, List.set_cons_zero, List.set_cons_succ]
                          refine last.done (by kernel_rfl) ?_ _
                          generalize (wc.setCell ⟨wi.heap.size, A, none⟩ (.int .i64 (old + nm))).drew = w5 at *
                          go_wp2_with fail
                          go_roundg g3
                          case measure => omega
                          case rel => exact ⟨k + 1, by omega, by go_num, R2, B2⟩
                      | zero =>
                        obtain rfl : k = 8 := by omega
                        have RR : Hid (wk.rowIs wi.heap.size 3 4 (fun j => .int .i64 ((make.quad (NP xss p) (x * 2 + y)).getD j 0))) := Lib.hid (hR.out.congr (fun i hi => by
                          have e := acc_all xss hp ip hi
                          simp only [e]
                          rw [HIP.out]
                          obtain rfl | rfl | rfl | rfl : i = 0 ∨ i = 1 ∨ i = 2 ∨ i = 3 := by omega
                          all_goals rfl))
                        have WK := Lib.hid (hW.out.keep hB.out)
                        have OK := Lib.hid (app.owns_below hO.out hB.out)
                        have HFR : Hid (∀ (r g' : Nat), vals[r]? = some (Value.slice (some ⟨g', 0, none⟩) 4 4) → g' ≠ wi.heap.size) := Lib.hid (fun r g' hu => by
                          obtain ⟨g'', e, _, hr⟩ := hW.out.row r _ hu
                          injection e with e; injection e with e; injection e with e
                          have := hr.lt; omega)
                        have hz1 := WK.out.below.size
                        have hz2 := hW.out.blk.lt
                        have hz3 := hW.out.bge
                        have hz4 := hB.out.size
                        have hxy : x * 2 + y < 4 := by omega
                        obtain ⟨f0, f1, f2, f3, f4⟩ := four_cells WK.out.blk
                        have f3' := fun (o1 : Obj) => below_cell (below_al (Below.refl _ _) o1) _ _ f3
                        go_wp2_with (at_builtin; go_must (refine wpList_append_own _ rfl (.tmp 94) (.tmp 96) 22 rfl (wb.heap.size + 1) 33 s0 (.slice none 0 0) 1 24 Try.underlying22 si sz0 sz1 sz2 rfl (by decide) _ _ _ rfl ((WK.out.owns).alloc _) ⟨wk.heap.size, 0, none⟩ 1 1 [.slice (some ⟨wi.heap.size, 0, none⟩) 4 4] rfl rfl ?c1 ?c2 ?c3 ?c4 ?c5 ?_))
                        try (case c1 => first | exact app.one_at _ _ _ | (have := app.one_at wk (.slice (some ⟨wi.heap.size, 0, none⟩) 4 4) 33; simpa using this))
                        try (case c2 => first | rfl | (intro u hu; simp at hu; subst hu; rfl))
                        try (case c3 => unfold maxLen; omega)
                        try (case c4 => omega)
                        try (case c5 => first | omega | (simp; omega))
                        intro v' w4 hown' hgrow _
                        have HK := Lib.hid (WK.out.keep (below_al (Below.refl _ _) (.cells #[.slice (some ⟨wi.heap.size, 0, none⟩) 4 4] 33)))
                        obtain ⟨q1, q2⟩ := HK.out.field hgrow
                        have W4 := Lib.hid (HK.out.grow (RR.out.alloc (.cells #[.slice (some ⟨wi.heap.size, 0, none⟩) 4 4] 33)) (by omega) HFR.out hown' hgrow)
                        have O4 := Lib.hid (keep2 HK.out (OK.out.alloc (.cells #[.slice (some ⟨wi.heap.size, 0, none⟩) 4 4] 33)) hgrow v')
                        obtain ⟨xa, xl, xc, rfl⟩ := make.shape hown'
                        clear hown' hgrow WK OK HK RR HFR hR hB hW hO f0 f1 f2 f3 f4 f3' hz1 hz2 hz3 hz4
                        go_wp2_with fail
                        go_roundg g2
                        case measure => omega
                        case rel => exact ⟨y + 1, by omega, by go_num, _, _, W4, O4⟩
                | zero =>
                  obtain rfl : y = 2 := by omega
                  have HWn : Hid (make.Way wb wi T 2 2 wh ((x + 1) * 2) v vals (NP xss p)) := Lib.hid (by
                    have e : (x + 1) * 2 = x * 2 + 2 := by omega
                    rw [e]; exact hW.out)
                  clear hW
                  go_wp2_with fail
                  go_roundg g1
                  case measure => omega
                  case rel => exact ⟨x + 1, by omega, by go_num, _, _, HWn, hO⟩
            | zero =>
              obtain rfl : x = 2 := by omega
              obtain ⟨ra, rl, rc', rfl⟩ := make.shape hW.out.owns
              obtain ⟨c0, c1, c2, c3, c4⟩ := four_cells hW.out.blk
              have KR : Blk wo (w.heap.size + 1) 54 #[.int .i64 0, .int .i64 0, .int .i64 0, .slice none 0 0] := by rw [← Zb.out.1]; exact hW.out.res
              obtain ⟨r0, r1, r2, r3, r4⟩ := four_cells KR
              have rf : ∀ k, wo.frozen? ⟨w.heap.size + 1, k, none⟩ = false := fun k => Joins.unfrozen_of_block KR k
              have U1 := Lib.hid hW.out.done
              have B1 := Lib.hid (below_tr Bb.out.1 hW.out.below)
              clear KR
              go_wp2_with fail
              refine bodyPost_ret (v := .tuple #[.agg #[.int .i64 2, .int .i64 2, .int .i64 wh, .slice ra rl rc'], .bool true]) (by simp [results, Try.results46, go_sem, r0, r1, r2, r3]) rfl ⟨_, by rw [HR.out], ?_, ?_⟩
              · rw [HR.out]
                have hw : Wrote (fun q => q.block = w.heap.size + 1) wo ((((wo.setCell ⟨w.heap.size + 1, 0, none⟩ (.int .i64 2)).setCell ⟨w.heap.size + 1, 1, none⟩ (.int .i64 2)).setCell ⟨w.heap.size + 1, 2, none⟩ (.int .i64 wh)).setCell ⟨w.heap.size + 1, 3, none⟩ (.slice ra rl rc')) := Wrote.setCell (S := fun q => q.block = w.heap.size + 1) (Wrote.setCell (S := fun q => q.block = w.heap.size + 1) (Wrote.setCell (S := fun q => q.block = w.heap.size + 1) (Wrote.setCell (S := fun q => q.block = w.heap.size + 1) (Wrote.refl _ _) rfl _) rfl _) rfl _) rfl _
                exact (U1.out.wrote hw (fun q hq => .inl (by have e : q.block = w.heap.size + 1 := hq; have := Zb.out.1; omega))).rows
              · repeat (first | exact B1.out | refine Below.setCell ?_ (show w.heap.size ≤ w.heap.size + 1 by omega) _)
      · rw [res_no (fun h => ho h.2.2)]
        have HIN := Lib.hid (fun W => in_no out 0 2 W (by omega))
        clear hok hq ho
        go_enter Try.func46, Try.ntmps46
        go_wp2_with fail
        rw [← hW0]
        clear t0 t1
        refine HT'.out.mono ?_
        rintro e w1 ⟨rfl, hb⟩
        have E1 := Lib.hid hb
        obtain ⟨t0, t1, _⟩ := two_cells (Kt.out.below hb)
        clear hb HT'
        go_wp2_with fail
        refine (HQ.out w1 E1.out).mono ?_
        rintro e w2 ⟨rfl, hb⟩
        have E2 := Lib.hid (below_tr E1.out hb)
        clear hb HQ E1 t0 t1
        obtain ⟨t0, t1, _⟩ := two_cells (Kt.out.below E2.out)
        go_wp2_with fail
        refine (HIN.out _).mono ?_
        rintro e w' ⟨rfl, rfl⟩
        have KR := Kr.out.below E2.out
        obtain ⟨r0, r1, r2, r3, r4⟩ := four_cells KR
        have rf : ∀ k, w2.frozen? ⟨w.heap.size + 1, k, none⟩ = false := fun k => Joins.unfrozen_of_block KR k
        have BZ := Lib.hid (below_tr (below_tr Bb.out.1 Bb.out.2) E2.out)
        clear KR
        go_wp2_with fail
        refine bodyPost_ret (v := .tuple #[.agg #[.int .i64 0, .int .i64 0, .int .i64 0, .slice none 0 0], .bool false]) (by simp [results, Try.results46, go_sem, r0, r1, r2, r3]) rfl ⟨_, rfl, OwnRows.rows (OwnRows.nil _ 0 0), ?_⟩
        repeat (first | exact BZ.out | refine Below.setCell ?_ (show w.heap.size ≤ w.heap.size + 1 by omega) _)
    · rw [quB_no hq] at HQ
      rw [res_no (fun h => hq h.2.1)]
      clear hok hq
      go_enter Try.func46, Try.ntmps46
      go_wp2_with fail
      rw [← hW0]
      clear t0 t1
      refine HT'.out.mono ?_
      rintro e w1 ⟨rfl, hb⟩
      have E1 := Lib.hid hb
      obtain ⟨t0, t1, _⟩ := two_cells (Kt.out.below hb)
      clear hb HT'
      go_wp2_with fail
      refine (HQ.out w1 E1.out).mono ?_
      rintro e w2 ⟨rfl, hb⟩
      have E2 := Lib.hid (below_tr E1.out hb)
      clear hb HQ E1 t0 t1
      obtain ⟨t0, t1, _⟩ := two_cells (Kt.out.below E2.out)
      have KR := Kr.out.below E2.out
      obtain ⟨r0, r1, r2, r3, r4⟩ := four_cells KR
      have rf : ∀ k, w2.frozen? ⟨w.heap.size + 1, k, none⟩ = false := fun k => Joins.unfrozen_of_block KR k
      have BZ := Lib.hid (below_tr (below_tr Bb.out.1 Bb.out.2) E2.out)
      clear KR
      go_wp2_with fail
      refine bodyPost_ret (v := .tuple #[.agg #[.int .i64 0, .int .i64 0, .int .i64 0, .slice none 0 0], .bool false]) (by simp [results, Try.results46, go_sem, r0, r1, r2, r3]) rfl ⟨_, rfl, OwnRows.rows (OwnRows.nil _ 0 0), ?_⟩
      repeat (first | exact BZ.out | refine Below.setCell ?_ (show w.heap.size ≤ w.heap.size + 1 by omega) _)
  · rw [trioB_no hok] at HT
    rw [res_no (fun h => hok h.1)]
    have HT' := Lib.hid HT
    clear HT hok
    go_enter Try.func46, Try.ntmps46
    go_wp2_with fail
    rw [← hW0]
    clear t0 t1
    refine HT'.out.mono ?_
    rintro e w1 ⟨rfl, hb⟩
    have E1 := Lib.hid hb
    obtain ⟨t0, t1, _⟩ := two_cells (Kt.out.below hb)
    clear hb HT'
    have KR := Kr.out.below E1.out
    obtain ⟨r0, r1, r2, r3, r4⟩ := four_cells KR
    have rf : ∀ k, w1.frozen? ⟨w.heap.size + 1, k, none⟩ = false := fun k => Joins.unfrozen_of_block KR k
    have BZ := Lib.hid (below_tr (below_tr Bb.out.1 Bb.out.2) E1.out)
    clear KR
    go_wp2_with fail
    refine bodyPost_ret (v := .tuple #[.agg #[.int .i64 0, .int .i64 0, .int .i64 0, .slice none 0 0], .bool false]) (by simp [results, Try.results46, go_sem, r0, r1, r2, r3]) rfl ⟨_, rfl, OwnRows.rows (OwnRows.nil _ 0 0), ?_⟩
    repeat (first | exact BZ.out | refine Below.setCell ?_ (show w.heap.size ≤ w.heap.size + 1 by omega) _)
end Go.Proofs.Ytomofmmecpdalaa.tpm
