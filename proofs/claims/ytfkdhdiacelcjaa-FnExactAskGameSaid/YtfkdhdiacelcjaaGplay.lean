/- A Game with a play of it; PlayScore of both sides. -/
import Derived.Test.YtfkdhdiacelcjaaGscore
namespace Go.Proofs.Ytfkdhdiacelcjaa.gplay
open Go.RowKit Go.Deep Go.Proofs.Ytfkdhdiacelcjaa.base
open Go.Proofs.Ytfkdhdiacelcjaa.ints (ret_int)
open Go.Proofs.Ytfkdhdiacelcjaa.rws (total)
open Go.Proofs.Ytfkdhdiacelcjaa.val (okSizes ret_b)
open Go.Proofs.Ytfkdhdiacelcjaa.gval (okGame gameB gameB_yes gameB_no)
open Go.Proofs.Ytfkdhdiacelcjaa.play (within withinB withinB_yes withinB_no)
open Go.Proofs.Ytfkdhdiacelcjaa.gscore (score)

open Classical in
/-- whether there is a valid Game and a play of it -/
noncomputable def plB (x y : Int) (ws : List Int) (xss : List (List Int)) (p : List Int) : Bool := if okGame x y ws xss ∧ within (x + y) 0 1 p then true else false
theorem plB_yes {x y : Int} {ws : List Int} {xss : List (List Int)} {p : List Int} (h : okGame x y ws xss) (h' : within (x + y) 0 1 p) : plB x y ws xss p = true := if_pos ⟨h, h'⟩
theorem plB_no {x y : Int} {ws : List Int} {xss : List (List Int)} {p : List Int} (h : ¬ (okGame x y ws xss ∧ within (x + y) 0 1 p)) : plB x y ws xss p = false := if_neg h
open Classical in
noncomputable def res (x y : Int) (ws : List Int) (xss : List (List Int)) (p : List Int) : Int × Bool := if okGame x y ws xss ∧ within (x + y) 0 1 p then (score x.toNat y.toNat ws xss p, true) else (0, false)
theorem res_yes {x y : Int} {ws : List Int} {xss : List (List Int)} {p : List Int} (h : okGame x y ws xss) (h' : within (x + y) 0 1 p) : res x y ws xss p = (score x.toNat y.toNat ws xss p, true) := if_pos ⟨h, h'⟩
theorem res_no {x y : Int} {ws : List Int} {xss : List (List Int)} {p : List Int} (h : ¬ (okGame x y ws xss ∧ within (x + y) 0 1 p)) : res x y ws xss p = (0, false) := if_neg h


set_option maxHeartbeats 1000000 in
theorem l4played (x y : Int) (v : Value) (ws : List Int) (u : Value) (xss : List (List Int)) (pv : Value) (p : List Int) (w : World) (h : game.GV w v ws u xss) (hp : Ints w pv p) (hn : ws.length ≤ 1048576) (hm : total xss ≤ 1048576) :
    Calls Try.prog 66 #[.agg #[.int .i64 x, .int .i64 y, v, u], pv] w fun e w' => e = .returned (.bool (plB x y ws xss p)) ∧ Below w.heap.size w w' := by
  obtain ⟨va, vn, vc, ua, un, uc, rfl, rfl⟩ := h.shape
  obtain ⟨pa, pn, pc, rfl⟩ := hp.shape
  have H := Lib.hid h
  have HP := Lib.hid hp
  have K0 := Lib.hid (Blk.new w 25 #[.int .i64 x, .int .i64 y, .slice va vn vc, .slice ua un uc])
  have HC := Lib.hid (fun o => gval.spec_any x y _ ws _ xss (w.alloc o) (h.below (below_al (Below.refl _ _) o)) hn hm)
  clear h hp
  by_cases hok : okGame x y ws xss
  · have HE := Lib.hid (gameB_yes hok)
    obtain ⟨⟨s1, s2⟩, s3, s4⟩ := hok.1
    have HB : Hid (withinB (x + y) 0 1 p = plB x y ws xss p) := Lib.hid (by
      by_cases hw : within (x + y) 0 1 p
      · rw [withinB_yes hw, plB_yes hok hw]
      · rw [withinB_no hw, plB_no (fun h => hw h.2)])
    clear hok
    go_enter Try.func66, Try.ntmps66
    go_wp2_with fail
    refine (HC.out _).mono ?_
    rintro e w1 ⟨rfl, hb⟩
    rw [HE.out]
    have B1 := Lib.hid (below_tr (below_al (Below.refl _ _) _) hb)
    obtain ⟨c0, c1, c2, c3, c4⟩ := four_cells (K0.out.below hb)
    clear hb
    go_wp2_with fail
    refine (play.spec_bits _ p (x + y) _ (HP.out.below B1.out)).mono ?_
    rintro e w2 ⟨rfl, rfl⟩
    rw [HB.out]
    go_wp2_with fail
    go_ret
    exact ⟨rfl, B1.out⟩
  · have HE := Lib.hid (gameB_no hok)
    have HF := Lib.hid (plB_no (p := p) (fun h => hok h.1))
    clear hok
    go_enter Try.func66, Try.ntmps66
    go_wp2_with fail
    refine (HC.out _).mono ?_
    rintro e w1 ⟨rfl, hb⟩
    rw [HE.out]
    have B1 := Lib.hid (below_tr (below_al (Below.refl _ _) _) hb)
    clear hb
    go_wp2_with fail
    go_ret
    exact ⟨ret_b HF.out.symm, B1.out⟩








end Go.Proofs.Ytfkdhdiacelcjaa.gplay
