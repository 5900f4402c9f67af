/- Proved here: for all lists of strings and all separators, the law FnExactJoinStrings returns true: the program JoinStrings answers as its model and leaves its arguments as they were. Conditions: none beyond the row. -/
import Derived.Test.YtnjlginodafnjaaStg
import Derived.Test.YtnjlginodafnjaaStp
import Derived.Test.YtnjlginodafnjaaRows
namespace Go.Proofs.Ytnjlginodafnjaa.lawJoinStrings
open Go.ChangeShapes Go.WideShapes Go.ChangeAt Go.RowKit Go.Deep Go.Proofs.Ytnjlginodafnjaa.base
open Go.ChangeMaps (open_string shut_string)
open Go.Proofs.Ytnjlginodafnjaa.sta Go.Proofs.Ytnjlginodafnjaa.ste Go.Proofs.Ytnjlginodafnjaa.stg

set_option maxHeartbeats 4000000 in
theorem walk (v0 : Value) (ss : List ByteArray) (sep : ByteArray) (w : World) (g0 : Strs w v0 ss ∧ ∀ k (hk : k < ss.length), ss[k].size ≤ maxLen) (_w1 : sep.size ≤ maxLen) :
    Calls Try.prog 4 #[v0, .string sep] w fun e w' => e = .returned (.bool true) ∧ Below w.heap.size w w' := by
  obtain ⟨a0, c0, rfl⟩ : ∃ a c, v0 = .slice a ss.length c := by obtain ⟨A, b, o, cap, hv, _⟩ := g0.1.form; exact ⟨A, cap, hv⟩
  have G0 := Lib.hid g0
  by_cases h1 : (1048576 : Int) < (sep.size : Int)
  · clear g0
    go_enter Try.func4, Try.ntmps4
    go_wp2_with fail
    go_ret
    exact ⟨rfl, Below.refl _ _⟩
  have hs1 : sep.size ≤ 1048576 := by omega
  have HSZ := Lib.hid (sz_any _ ss w g0.1 g0.2)
  clear g0 _w1
  go_enter Try.func4, Try.ntmps4
  go_wp2_with fail
  refine HSZ.out.mono ?_
  rintro e w1 ⟨m, rfl, hm, rfl⟩
  by_cases hneg : m < 0
  · have hneg' : decide (m < 0) = true := decide_eq_true hneg
    clear hm
    go_wp2_with fail
    go_ret
    exact ⟨rfl, Below.refl _ _⟩
  have hneg' : decide (m < 0) = false := decide_eq_false hneg
  have hm' := hm (by omega)
  have hn : ss.length ≤ 1048576 := by omega
  have hz : sm ss ss.length ≤ 1048576 := by omega
  have HTO := Lib.hid (fun W (hW : Below w.heap.size w W) => to_any _ ss W (G0.out.1.below hW) hn)
  have HSP := Lib.hid (fun A c W (h : Strs W (.slice A ss.length c) ss) => spec_any A c ss sep W h hn hz hs1)
  have HIM := Lib.hid (fun A c W (h : Strs W (.slice A ss.length c) ss) => impl_any A c ss sep W h hn hz hs1)
  obtain ⟨R, hR⟩ : ∃ R, R = strR ss sep := ⟨_, rfl⟩
  obtain ⟨B, hB⟩ : ∃ B, B = boolR ss sep := ⟨_, rfl⟩
  rw [← hR, ← hB] at HSP HIM
  have tb : (B != B) = false := bne_self_eq_false _
  clear hR hB hm hm' hn hz h1 hs1 hneg HSZ
  go_wp2_with fail
  refine (HTO.out _ (Below.refl _ _)).mono ?_
  rintro e w1 ⟨A1, c1, rfl, hv1, hb1⟩
  have V1 := Lib.hid hv1
  have B1 := Lib.hid hb1
  clear hv1 hb1
  go_wp2_with fail
  refine (HSP.out _ _ _ V1.out).mono ?_
  rintro e w2 ⟨rfl, hb2⟩
  have B2 := Lib.hid (below_tr B1.out hb2)
  clear hb2
  go_wp2_with fail
  refine (HTO.out _ B2.out).mono ?_
  rintro e w3 ⟨A3, c3, rfl, hv3, hb3⟩
  have V3 := Lib.hid hv3
  have B3 := Lib.hid (below_tr B2.out hb3)
  clear hv3 hb3
  go_wp2_with fail
  refine (HIM.out _ _ _ V3.out).mono ?_
  rintro e w4 ⟨rfl, hb4⟩
  have V4 := Lib.hid (V3.out.below hb4)
  have B4 := Lib.hid (below_tr B3.out hb4)
  clear hb4
  go_wp2_with fail
  refine (HTO.out _ B4.out).mono ?_
  rintro e w5 ⟨A5, c5, rfl, hv5, hb5⟩
  have V5 := Lib.hid hv5
  have X5 := Lib.hid (V4.out.below hb5)
  have B5 := Lib.hid (below_tr B4.out hb5)
  clear hv5 hb5
  go_wp2_with fail
  refine (eq_same _ _ ss _ X5.out V5.out).mono ?_
  rintro e w6 ⟨rfl, hb6⟩
  have B6 := Lib.hid (below_tr B5.out hb6)
  clear hb6
  go_wp2_with fail
  go_ret
  exact ⟨rfl, B6.out⟩

/-! ### the frame of the row -/
theorem own : ownKnob Try.prog.godebug = none := by kernel_rfl
theorem laidOut : laidOutB Try.prog = true := by kernel_rfl
set_option maxRecDepth 100000 in
theorem lifted (os : Os) (started : os.Started) (H : Type) (enc : TypeId × Value → H) :
    ReturnsInHanded {} Try.checked os 4 .any (Rows.fnExactJoinStringsSpec.pre6 enc Try.prog Try.f4 Rows.fnExactJoinStringsRow.domain false) (Rows.fnExactJoinStringsSpec.post enc Try.prog Try.f4 false true false false) := by
  refine returnsInHanded_of_change (C := Try.checked) own started (by kernel_rfl) Try.func4
    (ChangeSpec.witness6 (enc := enc) (C := Try.checked) false ⟨#[], #[.slice none 0 0, .string ByteArray.empty], []⟩ 8 (by kernel_rfl) (by kernel_rfl) (by kernel_rfl) (by kernel_rfl)) ?_
  intro W base args ds gs before hval0 hW _ _
  have hval : ∀ (j : Nat) t v, Try.f4.params[j]? = some t → args[j]? = some v → Value.okWide Try.prog W .any base t v := hval0
  have hW' := hW
  obtain ⟨p, q, hA0, hV, rfl, hfz, hnd⟩ := hW
  have hA : DataW.TrodAll enc Try.prog W 0 (fun _ => true) true Try.f4.params.toList args.toList ds p := hA0
  rw [Try.params4] at hA hval
  obtain ⟨v0, vs0, d0, ds0, p0, q0, hargs, rfl, rfl, h0, r0⟩ := trodAll_cons hA
  obtain ⟨v1, vs1, d1, ds1, p1, q1, rfl, rfl, rfl, h1, r1⟩ := trodAll_cons r0
  obtain ⟨rfl, rfl, rfl⟩ := trodAll_nil r1
  obtain rfl : args = #[v0, v1] := by cases args; simp_all
  obtain ⟨rfl, rfl⟩ := trodVars_none hV
  have lt0 : ∀ x ∈ p0, x.block < W.heap.size := by obtain ⟨m, hm⟩ := h0; exact DataW.trod_lt m _ _ _ hm
  obtain ⟨ss0, g0⟩ := stp.strs_of_trod Try.underlying22 Try.underlying9 (by kernel_rfl) (hval 0 22 v0 rfl rfl) h0
  obtain ⟨s1, rfl, rfl, rfl, w1⟩ := open_string Try.underlying9 (hval 1 9 v1 rfl rfl) h1
  clear hA0 hval0
  refine (walk v0 ss0 s1 W g0 w1).mono fun e W' ⟨he, bel⟩ => ?_
  subst he
  exact ⟨_, rfl, _, _, _, [], _, [], hW', trodAll_mk1 (shut_bool Try.underlying4 _), (trodAll_cons_mk (Below.trod laidOut (by kernel_rfl) (of_decide_eq_true (by kernel_rfl)) h0 bel lt0) (trodAll_cons_mk (shut_string Try.underlying9 w1) trodAll_mk0)), rfl, bel.frame _, fun h => by cases h⟩

theorem over : Rows.fnExactJoinStringsRow.holds Try.pinned (OpenSpec.ofChange Rows.fnExactJoinStringsSpec) :=
  OpenClaim.holds_of_wide 4 Try.f4 rfl rfl rfl rfl rfl rfl rfl ⟨rfl, rfl, rfl, rfl, rfl⟩ rfl rfl rfl rfl rfl (by kernel_rfl) Try.func4 (by kernel_rfl)
    (of_decide_eq_true (by kernel_rfl)) (by unfold Func.isWrapper; first | (rw [if_pos (by decide +kernel)]; kernel_rfl) | (rw [if_neg (by decide +kernel)]; exact ⟨rfl, rfl⟩))
    (fun os started H enc _ => lifted os started H enc)

theorem proved : Rows.FnExactJoinStringsSaid := over
#print axioms proved
end Go.Proofs.Ytnjlginodafnjaa.lawJoinStrings
