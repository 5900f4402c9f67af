/- Proved here: for all arguments, the law FnExactNamedRule returns true: the program's function answers as its model in every field, leaves its arguments as they were, and its answer owns its memory. Conditions: none beyond the row. -/
import Derived.Test.YtneonebgneonkaaRule
import Derived.Test.YtneonebgneonkaaMad
import Derived.Test.YtneonebgneonkaaOpen
import Derived.Test.YtneonebgneonkaaRows
import Derived.Deep.RegionHeld3
namespace Go.Proofs.Ytneonebgneonkaa.lawNamedRule
open Go.ChangeShapes Go.WideShapes Go.ChangeAt Go.RowKit Go.Deep Go.Proofs.Ytneonebgneonkaa.base
open Go.ChangeMaps (open_string shut_string)

set_option maxRecDepth 100000 in
set_option maxHeartbeats 4000000 in
theorem walk (a0 : Int) (w : World) (_f0 : (Lit.int .i64 a0).wf = true) :
    Calls Try.prog 4 #[.int .i64 a0] w fun e w' => e = .returned (.bool true) ∧ Below w.heap.size w w' := by
  go_enter Try.func4, Try.ntmps4
  have BE0 := Lib.hid (Below.refl w.heap.size w)
  go_wp2_with fail
  refine (rby.spec_named a0 _).mono ?_
  rintro e wf1 ⟨vW, uW, nW, rfl, hu, hb⟩
  obtain ⟨Wa, Wn, Wc, Wd, Wm, We, Wf, Wo, Wg, rfl, rfl, rfl⟩ := hu.shape
  have BE2 := Lib.hid (below_tr BE0.out hb)
  have ZZ2 : Hid (w.heap.size ≤ wf1.heap.size) := Lib.hid (by have := (hb).size; simpa using this)
  clear BE0
  have VWW := Lib.hid hu
  have HBW := Lib.hid (Below.refl wf1.heap.size wf1)
  clear hu hb
  go_wp2_with fail
  have BE3 := Lib.hid (below_al BE2.out (.cells #[.slice Wa Wn Wc, .slice Wd Wm We, .slice Wf Wo Wg] 28))
  have HBW3 := Lib.hid (below_al HBW.out (.cells #[.slice Wa Wn Wc, .slice Wd Wm We, .slice Wf Wo Wg] 28))
  have KBbW3 := Lib.hid (Blk.new wf1 28 #[.slice Wa Wn Wc, .slice Wd Wm We, .slice Wf Wo Wg])
  clear BE2 HBW
  go_wp2_with fail
  refine (rby.namedRule a0 _).mono ?_
  rintro e wf4 ⟨vG, uG, nG, rfl, hu, hb⟩
  obtain ⟨Ga, Gn, Gc, Gd, Gm, Ge, Gf, Go, Gg, rfl, rfl, rfl⟩ := hu.view.shape
  have BE5 := Lib.hid (below_tr BE3.out hb)
  have HBW5 := Lib.hid (below_tr HBW3.out hb)
  have KBbW5 := Lib.hid (KBbW3.out.below hb)
  have ZZ5 : Hid (wf1.heap.size + 1 ≤ wf4.heap.size) := Lib.hid (by have := (hb).size; simpa using this)
  clear BE3 HBW3 KBbW3
  obtain ⟨bWc0, bWc1, bWc2, bWc3⟩ := scene.three_cells KBbW5.out
  have OWG := Lib.hid (hu.mono (B' := wf1.heap.size + 1) (by simp) (Nat.le_refl _))
  clear hu hb
  go_wp2_with fail
  have BE6 := Lib.hid (below_al BE5.out (.cells #[.slice Ga Gn Gc, .slice Gd Gm Ge, .slice Gf Go Gg] 28))
  have HBW6 := Lib.hid (below_al HBW5.out (.cells #[.slice Ga Gn Gc, .slice Gd Gm Ge, .slice Gf Go Gg] 28))
  have OWG6 := Lib.hid (OWG.out.keep (below_al (Below.refl _ _) (.cells #[.slice Ga Gn Gc, .slice Gd Gm Ge, .slice Gf Go Gg] 28)))
  have KBbW6 := Lib.hid (KBbW5.out.alloc (.cells #[.slice Ga Gn Gc, .slice Gd Gm Ge, .slice Gf Go Gg] 28))
  have KBbG6 := Lib.hid (Blk.new wf4 28 #[.slice Ga Gn Gc, .slice Gd Gm Ge, .slice Gf Go Gg])
  clear BE5 HBW5 OWG KBbW5
  have tk0 : (((rby.named a0).ok) != ((rby.named a0).ok)) = false := bne_self_eq_false _
  go_wp2_with fail
  refine (rule.eq_same _ _ ((rby.named a0).f) _ _ ((rby.named a0).k) _ _ ((rby.named a0).s) _ OWG6.out.view (VWW.out.below HBW6.out) (rby.len_named a0).1 (rby.len_named a0).2.1 (rby.len_named a0).2.2).mono ?_
  rintro e we7 ⟨rfl, hb⟩
  clear bWc0 bWc1 bWc2 bWc3
  have BE8 := Lib.hid (below_tr BE6.out hb)
  have HBW8 := Lib.hid (below_tr HBW6.out hb)
  have OWG8 := Lib.hid (OWG6.out.keep hb)
  have KBbW8 := Lib.hid (KBbW6.out.below hb)
  have KBbG8 := Lib.hid (KBbG6.out.below hb)
  have ZZ8 : Hid (wf4.heap.size + 1 ≤ we7.heap.size) := Lib.hid (by have := (hb).size; simpa using this)
  clear BE6 HBW6 OWG6 KBbW6 KBbG6
  obtain ⟨bWc0, bWc1, bWc2, bWc3⟩ := scene.three_cells KBbW8.out
  obtain ⟨bGc0, bGc1, bGc2, bGc3⟩ := scene.three_cells KBbG8.out
  clear hb
  have blr := Nat.le_trans (rws.before_le ((rby.named a0).k) ((rby.named a0).k).length) (rby.len_named a0).2.1
  have blw := (rby.len_named a0).1
  have blr2 := Nat.le_trans (rws.before_le ((rby.named a0).s) ((rby.named a0).s).length) (rby.len_named a0).2.2
  have dq : ¬ (1 + (((rby.named a0).f).length : Int) + (rws.before ((rby.named a0).k) ((rby.named a0).k).length : Int) + (rws.before ((rby.named a0).s) ((rby.named a0).s).length : Int) < 0) := by omega
  have tq : ((1 + (((rby.named a0).f).length : Int) + (rws.before ((rby.named a0).k) ((rby.named a0).k).length : Int) + (rws.before ((rby.named a0).s) ((rby.named a0).s).length : Int)) != (1 + (((rby.named a0).f).length : Int) + (rws.before ((rby.named a0).k) ((rby.named a0).k).length : Int) + (rws.before ((rby.named a0).s) ((rby.named a0).s).length : Int))) = false := bne_self_eq_false _
  go_wp2_with fail
  refine (rule.mark_any _ ((rby.named a0).f) _ ((rby.named a0).k) _ ((rby.named a0).s) (1) (wf1.heap.size + 1) (wf4.heap.size) _ OWG8.out (by have := ZZ2.out; have := ZZ5.out; have := ZZ8.out; omega) (rby.len_named a0).1 (rby.len_named a0).2.1 (rby.len_named a0).2.2 (by omega) (by omega)).mono ?_
  rintro e wm9 ⟨rfl, hi, S, wl10, hb, hw, hs⟩
  clear OWG8
  clear bWc0 bWc1 bWc2 bWc3 bGc0 bGc1 bGc2 bGc3
  have BE11 := Lib.hid (below_tr BE8.out hb)
  have HBW11 := Lib.hid (below_tr HBW8.out hb)
  have KBbW11 := Lib.hid (KBbW8.out.below hb)
  have KBbG11 := Lib.hid (KBbG8.out.below hb)
  have ZZ11 : Hid (we7.heap.size ≤ wl10.heap.size) := Lib.hid (by have := (hb).size; simpa using this)
  clear BE8 HBW8 KBbW8 KBbG8
  obtain ⟨bWc0, bWc1, bWc2, bWc3⟩ := scene.three_cells KBbW11.out
  obtain ⟨bGc0, bGc1, bGc2, bGc3⟩ := scene.three_cells KBbG11.out
  clear bWc0 bWc1 bWc2 bWc3 bGc0 bGc1 bGc2 bGc3
  have BE12 := Lib.hid (BE11.out.trans (hw.below (fun p hp => by have := (hs p hp).1; have := ZZ2.out; have := ZZ5.out; have := ZZ8.out; have := ZZ11.out; omega)))
  have HBW12 := Lib.hid (HBW11.out.trans (hw.below (fun p hp => by have := (hs p hp).1; have := ZZ2.out; have := ZZ5.out; have := ZZ8.out; have := ZZ11.out; omega)))
  have KBbW12 := Lib.hid (KBbW11.out.wrote hw (fun p hp e => by have := hs p hp; have := ZZ2.out; have := ZZ5.out; have := ZZ8.out; have := ZZ11.out; omega))
  have KBbG12 := Lib.hid (KBbG11.out.wrote hw (fun p hp e => by have := hs p hp; have := ZZ2.out; have := ZZ5.out; have := ZZ8.out; have := ZZ11.out; omega))
  have ZZ12 : Hid (wl10.heap.size ≤ wm9.heap.size) := Lib.hid (by have := hw.size; omega)
  clear BE11 HBW11 KBbW11 KBbG11
  obtain ⟨bWc0, bWc1, bWc2, bWc3⟩ := scene.three_cells KBbW12.out
  obtain ⟨bGc0, bGc1, bGc2, bGc3⟩ := scene.three_cells KBbG12.out
  clear hb
  clear hw hs
  have VWM := Lib.hid hi
  have HBM := Lib.hid (Below.refl wm9.heap.size wm9)
  clear hi
  go_wp2_with fail
  refine (rule.held_any _ ((rby.named a0).f).length _ ((rby.named a0).k) _ ((rby.named a0).s) 1 _ (VWM.out.below HBM.out) (rby.len_named a0).1 (rby.len_named a0).2.1 (rby.len_named a0).2.2 (by omega) (by omega)).mono ?_
  rintro e wh13 ⟨rfl, hb⟩
  clear bWc0 bWc1 bWc2 bWc3 bGc0 bGc1 bGc2 bGc3
  have BE14 := Lib.hid (below_tr BE12.out hb)
  have HBW14 := Lib.hid (below_tr HBW12.out hb)
  have HBM14 := Lib.hid (below_tr HBM.out hb)
  have KBbW14 := Lib.hid (KBbW12.out.below hb)
  have KBbG14 := Lib.hid (KBbG12.out.below hb)
  have ZZ14 : Hid (wm9.heap.size ≤ wh13.heap.size) := Lib.hid (by have := (hb).size; simpa using this)
  clear BE12 HBW12 HBM KBbW12 KBbG12
  obtain ⟨bWc0, bWc1, bWc2, bWc3⟩ := scene.three_cells KBbW14.out
  obtain ⟨bGc0, bGc1, bGc2, bGc3⟩ := scene.three_cells KBbG14.out
  clear hb
  go_wp2_with fail
  refine (rby.namedRule a0 _).mono ?_
  rintro e wf15 ⟨vHh, uHh, nHh, rfl, hu, hb⟩
  obtain ⟨Hha, Hhn, Hhc, Hhd, Hhm, Hhe, Hhf, Hho, Hhg, rfl, rfl, rfl⟩ := hu.view.shape
  clear bWc0 bWc1 bWc2 bWc3 bGc0 bGc1 bGc2 bGc3
  have BE16 := Lib.hid (below_tr BE14.out hb)
  have HBW16 := Lib.hid (below_tr HBW14.out hb)
  have HBM16 := Lib.hid (below_tr HBM14.out hb)
  have KBbW16 := Lib.hid (KBbW14.out.below hb)
  have KBbG16 := Lib.hid (KBbG14.out.below hb)
  have ZZ16 : Hid (wh13.heap.size ≤ wf15.heap.size) := Lib.hid (by have := (hb).size; simpa using this)
  clear BE14 HBW14 HBM14 KBbW14 KBbG14
  obtain ⟨bWc0, bWc1, bWc2, bWc3⟩ := scene.three_cells KBbW16.out
  obtain ⟨bGc0, bGc1, bGc2, bGc3⟩ := scene.three_cells KBbG16.out
  have OWHh := Lib.hid (hu.mono (B' := wh13.heap.size) (by simp) (Nat.le_refl _))
  clear hu hb
  go_wp2_with fail
  have BE17 := Lib.hid (below_al BE16.out (.cells #[.slice Hha Hhn Hhc, .slice Hhd Hhm Hhe, .slice Hhf Hho Hhg] 28))
  have HBW17 := Lib.hid (below_al HBW16.out (.cells #[.slice Hha Hhn Hhc, .slice Hhd Hhm Hhe, .slice Hhf Hho Hhg] 28))
  have HBM17 := Lib.hid (below_al HBM16.out (.cells #[.slice Hha Hhn Hhc, .slice Hhd Hhm Hhe, .slice Hhf Hho Hhg] 28))
  have OWHh17 := Lib.hid (OWHh.out.keep (below_al (Below.refl _ _) (.cells #[.slice Hha Hhn Hhc, .slice Hhd Hhm Hhe, .slice Hhf Hho Hhg] 28)))
  have KBbW17 := Lib.hid (KBbW16.out.alloc (.cells #[.slice Hha Hhn Hhc, .slice Hhd Hhm Hhe, .slice Hhf Hho Hhg] 28))
  have KBbG17 := Lib.hid (KBbG16.out.alloc (.cells #[.slice Hha Hhn Hhc, .slice Hhd Hhm Hhe, .slice Hhf Hho Hhg] 28))
  have KBbHh17 := Lib.hid (Blk.new wf15 28 #[.slice Hha Hhn Hhc, .slice Hhd Hhm Hhe, .slice Hhf Hho Hhg])
  clear BE16 HBW16 HBM16 OWHh KBbW16 KBbG16
  go_wp2_with fail
  refine (rule.eq_same _ _ ((rby.named a0).f) _ _ ((rby.named a0).k) _ _ ((rby.named a0).s) _ OWHh17.out.view (VWW.out.below HBW17.out) (rby.len_named a0).1 (rby.len_named a0).2.1 (rby.len_named a0).2.2).mono ?_
  rintro e we18 ⟨rfl, hb⟩
  clear bWc0 bWc1 bWc2 bWc3 bGc0 bGc1 bGc2 bGc3
  have BE19 := Lib.hid (below_tr BE17.out hb)
  have HBW19 := Lib.hid (below_tr HBW17.out hb)
  have HBM19 := Lib.hid (below_tr HBM17.out hb)
  have OWHh19 := Lib.hid (OWHh17.out.keep hb)
  have KBbW19 := Lib.hid (KBbW17.out.below hb)
  have KBbG19 := Lib.hid (KBbG17.out.below hb)
  have KBbHh19 := Lib.hid (KBbHh17.out.below hb)
  have ZZ19 : Hid (wf15.heap.size + 1 ≤ we18.heap.size) := Lib.hid (by have := (hb).size; simpa using this)
  clear BE17 HBW17 HBM17 OWHh17 KBbW17 KBbG17 KBbHh17
  obtain ⟨bWc0, bWc1, bWc2, bWc3⟩ := scene.three_cells KBbW19.out
  obtain ⟨bGc0, bGc1, bGc2, bGc3⟩ := scene.three_cells KBbG19.out
  obtain ⟨bHhc0, bHhc1, bHhc2, bHhc3⟩ := scene.three_cells KBbHh19.out
  clear hb
  go_wp2_with fail
  refine (rule.held_any _ ((rby.named a0).f).length _ ((rby.named a0).k) _ ((rby.named a0).s) 1 _ (VWM.out.below HBM19.out) (rby.len_named a0).1 (rby.len_named a0).2.1 (rby.len_named a0).2.2 (by omega) (by omega)).mono ?_
  rintro e wh20 ⟨rfl, hb⟩
  clear bWc0 bWc1 bWc2 bWc3 bGc0 bGc1 bGc2 bGc3 bHhc0 bHhc1 bHhc2 bHhc3
  have BE21 := Lib.hid (below_tr BE19.out hb)
  have HBW21 := Lib.hid (below_tr HBW19.out hb)
  have HBM21 := Lib.hid (below_tr HBM19.out hb)
  have OWHh21 := Lib.hid (OWHh19.out.keep hb)
  have KBbW21 := Lib.hid (KBbW19.out.below hb)
  have KBbG21 := Lib.hid (KBbG19.out.below hb)
  have KBbHh21 := Lib.hid (KBbHh19.out.below hb)
  have ZZ21 : Hid (we18.heap.size ≤ wh20.heap.size) := Lib.hid (by have := (hb).size; simpa using this)
  clear BE19 HBW19 HBM19 OWHh19 KBbW19 KBbG19 KBbHh19
  obtain ⟨bWc0, bWc1, bWc2, bWc3⟩ := scene.three_cells KBbW21.out
  obtain ⟨bGc0, bGc1, bGc2, bGc3⟩ := scene.three_cells KBbG21.out
  obtain ⟨bHhc0, bHhc1, bHhc2, bHhc3⟩ := scene.three_cells KBbHh21.out
  clear hb
  go_wp2_with fail
  go_ret
  exact ⟨rfl, BE21.out⟩

/-! ### the frame of the row -/
theorem own : ownKnob Try.prog.godebug = none := by kernel_rfl
theorem laidOut : laidOutB Try.prog = true := by kernel_rfl
set_option maxRecDepth 100000 in
theorem lifted (os : Os) (started : os.Started) (H : Type) (enc : TypeId × Value → H) :
    ReturnsInHanded {} Try.checked os 4 .any (Rows.fnExactNamedRuleSpec.pre6 enc Try.prog Try.f4 Rows.fnExactNamedRuleRow.domain false) (Rows.fnExactNamedRuleSpec.post enc Try.prog Try.f4 false true false false) := by
  refine returnsInHanded_of_change (C := Try.checked) own started (by kernel_rfl) Try.func4
    (ChangeSpec.witness6 (enc := enc) (C := Try.checked) false ⟨#[], #[.int .i64 0], []⟩ 8 (by kernel_rfl) (by kernel_rfl) (by kernel_rfl) (by kernel_rfl)) ?_
  intro W base args ds gs before hval0 hW _ _
  have hval : ∀ (j : Nat) t v, Try.f4.params[j]? = some t → args[j]? = some v → Value.okWide Try.prog W .any base t v := hval0
  have hW' := hW
  obtain ⟨p, q, hA0, hV, rfl, hfz, hnd⟩ := hW
  have hA : DataW.TrodAll enc Try.prog W 0 (fun _ => true) true Try.f4.params.toList args.toList ds p := hA0
  rw [Try.params4] at hA hval
  obtain ⟨v0, vs0, d0, ds0, p0, q0, hargs, rfl, rfl, h0, r0⟩ := trodAll_cons hA
  obtain ⟨rfl, rfl, rfl⟩ := trodAll_nil r0
  obtain rfl : args = #[v0] := by cases args; simp_all
  obtain ⟨rfl, rfl⟩ := trodVars_none hV
  obtain ⟨a0, rfl, rfl, rfl, w0⟩ := open_int Try.underlying3 (hval 0 3 v0 rfl rfl) h0
  clear hA0 hval0
  refine (walk a0 W w0).mono fun e W' ⟨he, bel⟩ => ?_
  subst he
  exact ⟨_, rfl, _, _, _, [], _, [], hW', trodAll_mk1 (shut_bool Try.underlying4 _), (trodAll_cons_mk (shut_int Try.underlying3 w0) trodAll_mk0), rfl, bel.frame _, fun h => by cases h⟩

theorem over : Rows.fnExactNamedRuleRow.holds Try.pinned (OpenSpec.ofChange Rows.fnExactNamedRuleSpec) :=
  OpenClaim.holds_of_wide 4 Try.f4 rfl rfl rfl rfl rfl rfl rfl ⟨rfl, rfl, rfl, rfl, rfl⟩ rfl rfl rfl rfl rfl (by kernel_rfl) Try.func4 (by kernel_rfl)
    (of_decide_eq_true (by kernel_rfl)) (by unfold Func.isWrapper; first | (rw [if_pos (by decide +kernel)]; kernel_rfl) | (rw [if_neg (by decide +kernel)]; exact ⟨rfl, rfl⟩))
    (fun os started H enc _ => lifted os started H enc)

theorem proved : Rows.FnExactNamedRuleSaid := over
#print axioms proved
end Go.Proofs.Ytneonebgneonkaa.lawNamedRule
