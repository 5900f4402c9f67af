/- IsTalk of both sides; l8Valid of the model, isTalkOf of the program. -/
import Derived.Test.YtggodllfaggjiaaTki
namespace Go.Proofs.Ytggodllfaggjiaa.tkt
open Go.RowKit Go.Deep Go.Proofs.Ytggodllfaggjiaa.base
open Go.Proofs.Ytggodllfaggjiaa.val (ret_b)
open Go.Proofs.Ytggodllfaggjiaa.play (ret_bb)
open Go.Proofs.Ytggodllfaggjiaa.talk (TV)
open Go.Proofs.Ytggodllfaggjiaa.scene (three_cells)
open Go.Proofs.Ytggodllfaggjiaa.tkv

def okSize (x y : Int) : Prop := 1 ≤ x ∧ x ≤ 4 ∧ 1 ≤ y ∧ y ≤ 4
open Classical in
/-- what IsTalk answers -/
noncomputable def res (ss : List Int) (xss : List (List Int)) (ps : List (Int × Int)) (x y : Int) : Bool × Bool := if okSize x y then (talkB ss xss ps x.toNat y.toNat, true) else (false, false)
theorem res_no {ss : List Int} {xss : List (List Int)} {ps : List (Int × Int)} {x y : Int} (h : ¬ okSize x y) : res ss xss ps x y = (false, false) := if_neg h
theorem res_yes {ss : List Int} {xss : List (List Int)} {ps : List (Int × Int)} {R C : Nat} (h : okSize R C) : res ss xss ps R C = (talkB ss xss ps R C, true) := by unfold res; rw [if_pos h]; simp
theorem nats {x y : Int} (h : okSize x y) : ∃ R C : Nat, x = R ∧ y = C := by
  obtain ⟨h1, _, h3, _⟩ := h
  exact ⟨x.toNat, y.toNat, by omega, by omega⟩


set_option maxRecDepth 100000 in
set_option maxHeartbeats 1000000 in
theorem spec_any (sv : Value) (ss : List Int) (u : Value) (xss : List (List Int)) (nv : Value) (ps : List (Int × Int)) (x y : Int) (w : World) (h : TV w sv ss u xss nv ps) :
    Calls Try.prog 20 #[.agg #[sv, u, nv], .int .i64 x, .int .i64 y] w fun e w' => e = .returned (.tuple #[.bool (res ss xss ps x y).1, .bool (res ss xss ps x y).2]) ∧ Below w.heap.size w w' := by
  obtain ⟨va, vn, vc, ua, un, uc, na, nn, nc, rfl, rfl, rfl⟩ := h.shape
  have H := Lib.hid (h.below (below_al (Below.refl w.heap.size w) (.cells #[.slice va vn vc, .slice ua un uc, .slice na nn nc] 34)))
  have BE := Lib.hid (below_al (Below.refl w.heap.size w) (.cells #[.slice va vn vc, .slice ua un uc, .slice na nn nc] 34))
  obtain ⟨c0, c1, c2, c3⟩ := three_cells (Blk.new w 34 #[.slice va vn vc, .slice ua un uc, .slice na nn nc])
  clear h
  by_cases hs : okSize x y
  · obtain ⟨R, C, rfl, rfl⟩ := nats hs
    have HC := Lib.hid (fun W => spec_size (R : Int) (C : Int) W true (by unfold okSize at hs; simp [hs]))
    have HT := Lib.hid (spec_steps _ ss _ xss _ ps R C _ H.out)
    rw [res_yes hs]
    clear hs
    go_enter Try.func20, Try.ntmps20
    go_wp2_with fail
    refine (HC.out _).mono ?_
    rintro e w' ⟨rfl, rfl⟩
    go_wp2_with fail
    refine HT.out.mono ?_
    rintro e w1 ⟨rfl, hb⟩
    have B1 := Lib.hid (below_tr BE.out hb)
    clear hb
    go_wp2_with fail
    go_ret2
    exact ⟨rfl, B1.out⟩
  · have HC := Lib.hid (fun W => spec_size x y W false (by unfold okSize at hs; simp only [hs, decide_false]))
    rw [res_no hs]
    clear hs
    go_enter Try.func20, Try.ntmps20
    go_wp2_with fail
    refine (HC.out _).mono ?_
    rintro e w' ⟨rfl, rfl⟩
    go_wp2_with fail
    go_ret2
    exact ⟨rfl, BE.out⟩



set_option maxRecDepth 100000 in
set_option maxHeartbeats 1000000 in
theorem impl_any (sv : Value) (ss : List Int) (u : Value) (xss : List (List Int)) (nv : Value) (ps : List (Int × Int)) (x y : Int) (w : World) (h : TV w sv ss u xss nv ps) :
    Calls Try.prog 22 #[.agg #[sv, u, nv], .int .i64 x, .int .i64 y] w fun e w' => e = .returned (.tuple #[.bool (res ss xss ps x y).1, .bool (res ss xss ps x y).2]) ∧ Below w.heap.size w w' := by
  obtain ⟨va, vn, vc, ua, un, uc, na, nn, nc, rfl, rfl, rfl⟩ := h.shape
  have H := Lib.hid (h.below (below_al (Below.refl w.heap.size w) (.cells #[.slice va vn vc, .slice ua un uc, .slice na nn nc] 34)))
  have BE := Lib.hid (below_al (Below.refl w.heap.size w) (.cells #[.slice va vn vc, .slice ua un uc, .slice na nn nc] 34))
  obtain ⟨c0, c1, c2, c3⟩ := three_cells (Blk.new w 34 #[.slice va vn vc, .slice ua un uc, .slice na nn nc])
  clear h
  by_cases hs : okSize x y
  · obtain ⟨R, C, rfl, rfl⟩ := nats hs
    have HC := Lib.hid (fun W => task.sides (R : Int) (C : Int) W true (by unfold okSize at hs; simp [hs]))
    have HT := Lib.hid (tki.impl_steps _ ss _ xss _ ps R C _ H.out)
    rw [res_yes hs]
    clear hs
    go_enter Try.func22, Try.ntmps22
    go_wp2_with fail
    refine (HC.out _).mono ?_
    rintro e w' ⟨rfl, rfl⟩
    go_wp2_with fail
    refine HT.out.mono ?_
    rintro e w1 ⟨rfl, hb⟩
    have B1 := Lib.hid (below_tr BE.out hb)
    clear hb
    go_wp2_with fail
    go_ret2
    exact ⟨rfl, B1.out⟩
  · have HC := Lib.hid (fun W => task.sides x y W false (by unfold okSize at hs; simp only [hs, decide_false]))
    rw [res_no hs]
    clear hs
    go_enter Try.func22, Try.ntmps22
    go_wp2_with fail
    refine (HC.out _).mono ?_
    rintro e w' ⟨rfl, rfl⟩
    go_wp2_with fail
    go_ret2
    exact ⟨rfl, BE.out⟩



set_option maxRecDepth 100000 in
set_option maxHeartbeats 1000000 in
theorem spec_valid (sv : Value) (ss : List Int) (u : Value) (xss : List (List Int)) (nv : Value) (ps : List (Int × Int)) (x y : Int) (w : World) (h : TV w sv ss u xss nv ps) :
    Calls Try.prog 64 #[.agg #[sv, u, nv], .int .i64 x, .int .i64 y] w fun e w' => e = .returned (.bool (res ss xss ps x y).1) ∧ Below w.heap.size w w' := by
  obtain ⟨va, vn, vc, ua, un, uc, na, nn, nc, rfl, rfl, rfl⟩ := h.shape
  have H := Lib.hid (h.below (below_al (Below.refl w.heap.size w) (.cells #[.slice va vn vc, .slice ua un uc, .slice na nn nc] 34)))
  have BE := Lib.hid (below_al (Below.refl w.heap.size w) (.cells #[.slice va vn vc, .slice ua un uc, .slice na nn nc] 34))
  obtain ⟨c0, c1, c2, c3⟩ := three_cells (Blk.new w 34 #[.slice va vn vc, .slice ua un uc, .slice na nn nc])
  clear h
  by_cases hs : okSize x y
  · obtain ⟨R, C, rfl, rfl⟩ := nats hs
    have HC := Lib.hid (fun W => spec_size (R : Int) (C : Int) W true (by unfold okSize at hs; simp [hs]))
    have HT := Lib.hid (spec_steps _ ss _ xss _ ps R C _ H.out)
    rw [res_yes hs]
    clear hs
    go_enter Try.func64, Try.ntmps64
    go_wp2_with fail
    refine (HC.out _).mono ?_
    rintro e w' ⟨rfl, rfl⟩
    go_wp2_with fail
    refine HT.out.mono ?_
    rintro e w1 ⟨rfl, hb⟩
    have B1 := Lib.hid (below_tr BE.out hb)
    clear hb
    go_wp2_with fail
    go_ret
    exact ⟨rfl, B1.out⟩
  · have HC := Lib.hid (fun W => spec_size x y W false (by unfold okSize at hs; simp only [hs, decide_false]))
    rw [res_no hs]
    clear hs
    go_enter Try.func64, Try.ntmps64
    go_wp2_with fail
    refine (HC.out _).mono ?_
    rintro e w' ⟨rfl, rfl⟩
    go_wp2_with fail
    go_ret
    exact ⟨rfl, BE.out⟩



set_option maxRecDepth 100000 in
set_option maxHeartbeats 1000000 in
theorem impl_valid (sv : Value) (ss : List Int) (u : Value) (xss : List (List Int)) (nv : Value) (ps : List (Int × Int)) (x y : Int) (w : World) (h : TV w sv ss u xss nv ps) :
    Calls Try.prog 67 #[.agg #[sv, u, nv], .int .i64 x, .int .i64 y] w fun e w' => e = .returned (.bool (res ss xss ps x y).1) ∧ Below w.heap.size w w' := by
  obtain ⟨va, vn, vc, ua, un, uc, na, nn, nc, rfl, rfl, rfl⟩ := h.shape
  have H := Lib.hid (h.below (below_al (Below.refl w.heap.size w) (.cells #[.slice va vn vc, .slice ua un uc, .slice na nn nc] 34)))
  have BE := Lib.hid (below_al (Below.refl w.heap.size w) (.cells #[.slice va vn vc, .slice ua un uc, .slice na nn nc] 34))
  obtain ⟨c0, c1, c2, c3⟩ := three_cells (Blk.new w 34 #[.slice va vn vc, .slice ua un uc, .slice na nn nc])
  clear h
  have HI := Lib.hid (impl_any _ ss _ xss _ ps x y _ H.out)
  by_cases hs : okSize x y
  · obtain ⟨R, C, rfl, rfl⟩ := nats hs
    rw [res_yes hs] at HI ⊢
    clear hs
    go_enter Try.func67, Try.ntmps67
    go_wp2_with fail
    refine HI.out.mono ?_
    rintro e w1 ⟨rfl, hb⟩
    have B1 := Lib.hid (below_tr BE.out hb)
    clear hb
    go_wp2_with fail
    go_ret
    exact ⟨rfl, B1.out⟩
  · rw [res_no hs] at HI ⊢
    clear hs
    go_enter Try.func67, Try.ntmps67
    go_wp2_with fail
    refine HI.out.mono ?_
    rintro e w1 ⟨rfl, hb⟩
    have B1 := Lib.hid (below_tr BE.out hb)
    clear hb
    go_wp2_with fail
    go_ret
    exact ⟨rfl, B1.out⟩


end Go.Proofs.Ytggodllfaggjiaa.tkt
