/- Proved here: for all two strings, the law FnExactSplitString returns true: the program SplitString answers as its model, element by element, its answer owns its memory, and the arguments read afterwards as before. Conditions: none beyond the row. -/
import Derived.Test.YtnjlginodafnjaaStd
import Derived.Test.YtnjlginodafnjaaRows
namespace Go.Proofs.Ytnjlginodafnjaa.lawSplitString
open Go.ChangeShapes Go.WideShapes Go.ChangeAt Go.RowKit Go.Deep Go.Proofs.Ytnjlginodafnjaa.base
open Go.ChangeMaps (open_string shut_string)
open Go.Proofs.Ytnjlginodafnjaa.sta Go.Proofs.Ytnjlginodafnjaa.std

theorem strs_low {w w' : World} {B : Nat} {v : Value} {ss : List ByteArray} (h : Strs w v ss) (hl : ∀ p, In v p → p.block < B) (hb : Below B w w') : Strs w' v ss := by
  obtain ⟨A, cap, hv, h1, h2, hc⟩ := h
  refine ⟨A, cap, hv, h1, h2, fun k u hu => ?_⟩
  obtain ⟨b, o, hA, hcell⟩ := hc k u hu
  have hk : k < (ss.map Value.string).length := by
    rcases Nat.lt_or_ge k (ss.map Value.string).length with g | g
    · exact g
    · rw [List.getElem?_eq_none g] at hu; cases hu
  refine ⟨b, o, hA, ?_⟩
  have hin : In v ⟨b, o + k, none⟩ := ⟨b, o, _, cap, by rw [hv, hA], rfl, rfl, by simp, by simp at hk ⊢; omega⟩
  have := hb.block b (hl _ hin)
  simp only [World.cell?, this]
  exact hcell

set_option maxHeartbeats 4000000 in
theorem walk (s0 s1 : ByteArray) (w : World) (_w0 : s0.size ≤ maxLen) (_w1 : s1.size ≤ maxLen) :
    Calls Try.prog 3 #[.string s0, .string s1] w fun e w' => e = .returned (.bool true) ∧ Below w.heap.size w w' := by
  by_cases h0 : (1048576 : Int) < (s0.size : Int)
  · go_enter Try.func3, Try.ntmps3
    go_wp2_with fail
    go_ret
    exact ⟨rfl, Below.refl _ _⟩
  by_cases h1 : (1048576 : Int) < (s1.size : Int)
  · go_enter Try.func3, Try.ntmps3
    go_wp2_with fail
    go_ret
    exact ⟨rfl, Below.refl _ _⟩
  have hs0 : s0.size ≤ 1048576 := by omega
  have hs1 : s1.size ≤ 1048576 := by omega
  obtain ⟨L, hL⟩ : ∃ L, L = resL s0 s1 := ⟨_, rfl⟩
  obtain ⟨B, hB⟩ : ∃ B, B = resB s0 s1 := ⟨_, rfl⟩
  have HLen : Hid (L.length ≤ 1048575) := Lib.hid (by rw [hL]; exact len_res s0 s1)
  have HSP := Lib.hid (fun W => spec_any s0 s1 W hs0 hs1)
  have HIM := Lib.hid (fun W => impl_any s0 s1 W hs0 hs1)
  rw [← hL, ← hB] at HSP HIM
  have HMK : Hid (∀ v T W0 W, OwnStrs W W0 T v L → W0 ≤ W.heap.size → Calls Try.prog 8 #[v, .int .i64 1] W fun e w' => e = .returned (.int .i64 (1 + (L.length : Int))) ∧ Strs w' v (marksS 1 L.length) ∧ Below W0 W w') := Lib.hid (fun v T W0 W h hb => by
    have := mark_own v L 1 W0 T W h hb (by have := HLen.out; omega) (by omega) (by omega)
    simpa using this)
  have HHE : Hid (∀ v W, Strs W v (marksS 1 L.length) → Calls Try.prog 9 #[v, .int .i64 1] W fun e w' => e = .returned (.int .i64 (1 + (L.length : Int))) ∧ Below W.heap.size W w') := Lib.hid (fun v W h => by
    have := held v L.length 1 W h (by have := HLen.out; omega) (by omega) (by omega)
    simpa using this)
  have tb : (B != B) = false := bne_self_eq_false _
  have tq : ((1 + (L.length : Int)) != (1 + (L.length : Int))) = false := bne_self_eq_false _
  have dq : ¬ (1 + (L.length : Int) < 0) := by omega
  have dq' : decide (1 + (L.length : Int) < 0) = false := decide_eq_false dq
  clear hL hB hs0 hs1 _w0 _w1
  go_enter Try.func3, Try.ntmps3
  go_wp2_with fail
  refine (HSP.out _).mono ?_
  rintro e w1 ⟨v0, rfl, ho0, hb1⟩
  obtain ⟨a0, n0, c0, rfl⟩ : ∃ a n c, v0 = .slice a n c := by obtain ⟨A, b, o, cap, hv, _⟩ := ho0.strs.form; exact ⟨A, _, cap, hv⟩
  have O0 := Lib.hid ho0
  have B1 := Lib.hid hb1
  clear ho0 hb1
  go_wp2_with fail
  refine (HIM.out _).mono ?_
  rintro e w2 ⟨v1, rfl, ho1, hb2⟩
  obtain ⟨a1, n1, c1, rfl⟩ : ∃ a n c, v1 = .slice a n c := by obtain ⟨A, b, o, cap, hv, _⟩ := ho1.strs.form; exact ⟨A, _, cap, hv⟩
  have O1 := Lib.hid ho1
  have B2 := Lib.hid (below_tr B1.out hb2)
  have S2 := Lib.hid (O0.out.strs.below hb2)
  have Z2 := Lib.hid hb2.size
  clear ho1 hb2
  go_wp2_with fail
  refine (eq_same _ _ L _ O1.out.strs S2.out).mono ?_
  rintro e w3 ⟨rfl, hb3⟩
  have O3 := Lib.hid (O1.out.keep hb3)
  have B3 := Lib.hid (below_tr B2.out hb3)
  have S3 := Lib.hid (S2.out.below hb3)
  have Z3 := Lib.hid (Nat.le_trans Z2.out hb3.size)
  clear hb3
  go_wp2_with fail
  refine (HMK.out _ _ _ _ O3.out Z3.out).mono ?_
  rintro e w4 ⟨rfl, hm4, hb4⟩
  have S4 := Lib.hid (strs_low S3.out O0.out.lt hb4)
  have M4 := Lib.hid hm4
  have B4 := Lib.hid (B3.out.trans (hb4.mono B1.out.size))
  clear hm4 hb4
  go_wp2_with fail
  refine (HHE.out _ _ M4.out).mono ?_
  rintro e w5 ⟨rfl, hb5⟩
  have S5 := Lib.hid (S4.out.below hb5)
  have M5 := Lib.hid (M4.out.below hb5)
  have B5 := Lib.hid (below_tr B4.out hb5)
  clear hb5
  go_wp2_with fail
  refine (HIM.out _).mono ?_
  rintro e w6 ⟨v2, rfl, ho2, hb6⟩
  obtain ⟨a2, n2, c2, rfl⟩ : ∃ a n c, v2 = .slice a n c := by obtain ⟨A, b, o, cap, hv, _⟩ := ho2.strs.form; exact ⟨A, _, cap, hv⟩
  have O2 := Lib.hid ho2
  have S6 := Lib.hid (S5.out.below hb6)
  have M6 := Lib.hid (M5.out.below hb6)
  have B6 := Lib.hid (below_tr B5.out hb6)
  clear ho2 hb6
  go_wp2_with fail
  refine (eq_same _ _ L _ O2.out.strs S6.out).mono ?_
  rintro e w7 ⟨rfl, hb7⟩
  have M7 := Lib.hid (M6.out.below hb7)
  have B7 := Lib.hid (below_tr B6.out hb7)
  clear hb7
  go_wp2_with fail
  refine (HHE.out _ _ M7.out).mono ?_
  rintro e w8 ⟨rfl, hb8⟩
  have B8 := Lib.hid (below_tr B7.out hb8)
  clear hb8
  go_wp2_with fail
  go_ret
  exact ⟨rfl, B8.out⟩

/-! ### the frame of the row -/
theorem own : ownKnob Try.prog.godebug = none := by kernel_rfl
theorem laidOut : laidOutB Try.prog = true := by kernel_rfl
set_option maxRecDepth 100000 in
theorem lifted (os : Os) (started : os.Started) (H : Type) (enc : TypeId × Value → H) :
    ReturnsInHanded {} Try.checked os 3 .any (Rows.fnExactSplitStringSpec.pre6 enc Try.prog Try.f3 Rows.fnExactSplitStringRow.domain false) (Rows.fnExactSplitStringSpec.post enc Try.prog Try.f3 false true false false) := by
  refine returnsInHanded_of_change (C := Try.checked) own started (by kernel_rfl) Try.func3
    (ChangeSpec.witness6 (enc := enc) (C := Try.checked) false ⟨#[], #[.string ByteArray.empty, .string ByteArray.empty], []⟩ 8 (by kernel_rfl) (by kernel_rfl) (by kernel_rfl) (by kernel_rfl)) ?_
  intro W base args ds gs before hval0 hW _ _
  have hval : ∀ (j : Nat) t v, Try.f3.params[j]? = some t → args[j]? = some v → Value.okWide Try.prog W .any base t v := hval0
  have hW' := hW
  obtain ⟨p, q, hA0, hV, rfl, hfz, hnd⟩ := hW
  have hA : DataW.TrodAll enc Try.prog W 0 (fun _ => true) true Try.f3.params.toList args.toList ds p := hA0
  rw [Try.params3] at hA hval
  obtain ⟨v0, vs0, d0, ds0, p0, q0, hargs, rfl, rfl, h0, r0⟩ := trodAll_cons hA
  obtain ⟨v1, vs1, d1, ds1, p1, q1, rfl, rfl, rfl, h1, r1⟩ := trodAll_cons r0
  obtain ⟨rfl, rfl, rfl⟩ := trodAll_nil r1
  obtain rfl : args = #[v0, v1] := by cases args; simp_all
  obtain ⟨rfl, rfl⟩ := trodVars_none hV
  obtain ⟨s0, rfl, rfl, rfl, w0⟩ := open_string Try.underlying9 (hval 0 9 v0 rfl rfl) h0
  obtain ⟨s1, rfl, rfl, rfl, w1⟩ := open_string Try.underlying9 (hval 1 9 v1 rfl rfl) h1
  clear hA0 hval0
  refine (walk s0 s1 W w0 w1).mono fun e W' ⟨he, bel⟩ => ?_
  subst he
  exact ⟨_, rfl, _, _, _, [], _, [], hW', trodAll_mk1 (shut_bool Try.underlying4 _), (trodAll_cons_mk (shut_string Try.underlying9 w0) (trodAll_cons_mk (shut_string Try.underlying9 w1) trodAll_mk0)), rfl, bel.frame _, fun h => by cases h⟩

theorem over : Rows.fnExactSplitStringRow.holds Try.pinned (OpenSpec.ofChange Rows.fnExactSplitStringSpec) :=
  OpenClaim.holds_of_wide 3 Try.f3 rfl rfl rfl rfl rfl rfl rfl ⟨rfl, rfl, rfl, rfl, rfl⟩ rfl rfl rfl rfl rfl (by kernel_rfl) Try.func3 (by kernel_rfl)
    (of_decide_eq_true (by kernel_rfl)) (by unfold Func.isWrapper; first | (rw [if_pos (by decide +kernel)]; kernel_rfl) | (rw [if_neg (by decide +kernel)]; exact ⟨rfl, rfl⟩))
    (fun os started H enc _ => lifted os started H enc)

theorem proved : Rows.FnExactSplitStringSaid := over
#print axioms proved
end Go.Proofs.Ytnjlginodafnjaa.lawSplitString
