/- Proved here: for all arguments, the law FnExactSignSum returns true: the program's function answers as its model in every field, leaves its arguments as they were, and its answer owns its memory. Conditions: none beyond the row. -/
import Derived.Test.YtomofmmecpdalaaTri
import Derived.Test.YtomofmmecpdalaaTrs
import Derived.Test.YtomofmmecpdalaaOpent
import Derived.Test.YtomofmmecpdalaaRows
import Derived.Deep.RegionHeld3
namespace Go.Proofs.Ytomofmmecpdalaa.lawSignSum
open Go.ChangeShapes Go.WideShapes Go.ChangeAt Go.RowKit Go.Deep Go.Proofs.Ytomofmmecpdalaa.base
open Go.ChangeMaps (open_string shut_string)

set_option maxRecDepth 100000 in
set_option maxHeartbeats 4000000 in
theorem walk (wh0 : Int) (u0 : Value) (xss0 : List (List Int)) (w : World) (h0 : IRows w u0 xss0) :
    Calls Try.prog 10 #[.agg #[.int .i64 wh0, u0]] w fun e w' => e = .returned (.bool true) ∧ Below w.heap.size w w' := by
  obtain ⟨va0, vn0, vc0, rfl⟩ := h0.shape
  have H0 := Lib.hid h0
  clear h0
  by_cases hs0 : rws.sz xss0 (1048576) < 0
  · skip
    go_enter Try.func10, Try.ntmps10
    have BE0 := Lib.hid (Below.refl w.heap.size w)
    have BE1 := Lib.hid (below_al BE0.out (.cells #[.int .i64 wh0, .slice va0 vn0 vc0] 24))
    have KBp01 := Lib.hid (Blk.new w 24 #[.int .i64 wh0, .slice va0 vn0 vc0])
    clear BE0
    go_wp2_with fail
    refine (tri.sz_any wh0 _ xss0 (1048576) _ (H0.out.below BE1.out) (by omega) (by omega)).mono ?_
    rintro e wz2 ⟨rfl, hb⟩
    have BE3 := Lib.hid (below_tr BE1.out hb)
    have KBp03 := Lib.hid (KBp01.out.below hb)
    have ZZ3 : Hid (w.heap.size + 1 ≤ wz2.heap.size) := Lib.hid (by have := (hb).size; simpa using this)
    clear BE1 KBp01
    obtain ⟨p0c0, p0c1, p0c2⟩ := tri.two_cells KBp03.out
    clear hb
    go_wp2_with fail
    go_ret
    exact ⟨rfl, BE3.out⟩
  have hq0 := rws.sz_bound hs0
  have hn0 : rws.total xss0 ≤ 1048576 := by omega
  go_enter Try.func10, Try.ntmps10
  have BE0 := Lib.hid (Below.refl w.heap.size w)
  have BE4 := Lib.hid (below_al BE0.out (.cells #[.int .i64 wh0, .slice va0 vn0 vc0] 24))
  have KBp04 := Lib.hid (Blk.new w 24 #[.int .i64 wh0, .slice va0 vn0 vc0])
  clear BE0
  go_wp2_with fail
  refine (tri.sz_any wh0 _ xss0 (1048576) _ (H0.out.below BE4.out) (by omega) (by omega)).mono ?_
  rintro e wz5 ⟨rfl, hb⟩
  have BE6 := Lib.hid (below_tr BE4.out hb)
  have KBp06 := Lib.hid (KBp04.out.below hb)
  have ZZ6 : Hid (w.heap.size + 1 ≤ wz5.heap.size) := Lib.hid (by have := (hb).size; simpa using this)
  clear BE4 KBp04
  obtain ⟨p0c0, p0c1, p0c2⟩ := tri.two_cells KBp06.out
  clear hb
  go_wp2_with fail
  refine (tri.to_any wh0 _ xss0 _ (H0.out.below BE6.out) hn0).mono ?_
  rintro e wc7 ⟨us0, rfl, hu, hb⟩
  obtain ⟨s0a, s0n, s0c, rfl⟩ := hu.rows.shape
  clear p0c0 p0c1 p0c2
  have BE8 := Lib.hid (below_tr BE6.out hb)
  have KBp08 := Lib.hid (KBp06.out.below hb)
  have ZZ8 : Hid (wz5.heap.size ≤ wc7.heap.size) := Lib.hid (by have := (hb).size; simpa using this)
  clear BE6 KBp06
  obtain ⟨p0c0, p0c1, p0c2⟩ := tri.two_cells KBp08.out
  have OWs0 := Lib.hid (hu.mono (B' := wz5.heap.size) (by simp) (Nat.le_refl _))
  clear hu hb
  go_wp2_with fail
  refine (trs.spec_sgn wh0 (.slice s0a s0n s0c) xss0 _ OWs0.out.rows hn0).mono ?_
  rintro e wf9 ⟨rfl, hb⟩
  clear p0c0 p0c1 p0c2
  have BE10 := Lib.hid (below_tr BE8.out hb)
  have OWs010 := Lib.hid (OWs0.out.keep hb)
  have KBp010 := Lib.hid (KBp08.out.below hb)
  have ZZ10 : Hid (wc7.heap.size ≤ wf9.heap.size) := Lib.hid (by have := (hb).size; simpa using this)
  clear BE8 OWs0 KBp08
  obtain ⟨p0c0, p0c1, p0c2⟩ := tri.two_cells KBp010.out
  clear hb
  go_wp2_with fail
  refine (tri.to_any wh0 _ xss0 _ (H0.out.below BE10.out) hn0).mono ?_
  rintro e wc11 ⟨ux0, rfl, hu, hb⟩
  obtain ⟨x0a, x0n, x0c, rfl⟩ := hu.rows.shape
  clear p0c0 p0c1 p0c2
  have BE12 := Lib.hid (below_tr BE10.out hb)
  have KBp012 := Lib.hid (KBp010.out.below hb)
  have ZZ12 : Hid (wf9.heap.size ≤ wc11.heap.size) := Lib.hid (by have := (hb).size; simpa using this)
  clear BE10 KBp010
  obtain ⟨p0c0, p0c1, p0c2⟩ := tri.two_cells KBp012.out
  have OWx0 := Lib.hid (hu.mono (B' := wf9.heap.size) (by simp) (Nat.le_refl _))
  clear hu hb
  go_wp2_with fail
  have BE13 := Lib.hid (below_al BE12.out (.cells #[.int .i64 wh0, .slice x0a x0n x0c] 27))
  have OWx013 := Lib.hid (OWx0.out.keep (below_al (Below.refl _ _) (.cells #[.int .i64 wh0, .slice x0a x0n x0c] 27)))
  have KBp013 := Lib.hid (KBp012.out.alloc (.cells #[.int .i64 wh0, .slice x0a x0n x0c] 27))
  have KBbx013 := Lib.hid (Blk.new wc11 27 #[.int .i64 wh0, .slice x0a x0n x0c])
  clear BE12 OWx0 KBp012
  go_wp2_with fail
  refine (trs.impl_sgn wh0 (.slice x0a x0n x0c) xss0 _ OWx013.out.rows hn0).mono ?_
  rintro e wf14 ⟨rfl, hb⟩
  clear p0c0 p0c1 p0c2
  have BE15 := Lib.hid (below_tr BE13.out hb)
  have OWx015 := Lib.hid (OWx013.out.keep hb)
  have KBp015 := Lib.hid (KBp013.out.below hb)
  have KBbx015 := Lib.hid (KBbx013.out.below hb)
  have ZZ15 : Hid (wc11.heap.size + 1 ≤ wf14.heap.size) := Lib.hid (by have := (hb).size; simpa using this)
  clear BE13 OWx013 KBp013 KBbx013
  obtain ⟨p0c0, p0c1, p0c2⟩ := tri.two_cells KBp015.out
  obtain ⟨bx0c0, bx0c1, bx0c2⟩ := tri.two_cells KBbx015.out
  clear hb
  have tk0 : (((trs.resS trb.sgn wh0 xss0).1) != ((trs.resS trb.sgn wh0 xss0).1)) = false := bne_self_eq_false _
  have tk1 : (((trs.resS trb.sgn wh0 xss0).2) != ((trs.resS trb.sgn wh0 xss0).2)) = false := bne_self_eq_false _
  go_wp2_with fail
  have HA := Lib.hid (H0.out.below BE15.out)
  have HX := Lib.hid (OWx015.out.rows)
  go_region_held3 (fun w' => w'.cell? ⟨w.heap.size, 0, none⟩ = some (.int .i64 wh0) ∧ w'.cell? ⟨w.heap.size, 1, none⟩ = some (.slice va0 vn0 vc0) ∧ w'.cell? ⟨wc11.heap.size, 0, none⟩ = some (.int .i64 wh0) ∧ w'.cell? ⟨wc11.heap.size, 1, none⟩ = some (.slice x0a x0n x0c) ∧ Below wf14.heap.size wf14 w')
    ((refine held4 p0c0 p0c1 bx0c0 bx0c1 ?_; repeat (first | exact Below.refl _ _ | assumption | refine below_dr ?_ | refine below_tr ?_ (by assumption))))
    (first | (go_at_call 17; refine (tri.to_any wh0 _ xss0 _ (HA.out.below ?_) hn0).mono ?_; (simp [*]); rintro e wq ⟨uqq0, rfl, huq, hbq⟩) | (go_at_call 19; refine (tri.eq_same wh0 _ _ xss0 _ (HX.out.below (below_tr (below_dr (Below.refl _ _)) hbq)) huq.rows hn0).mono ?_; rintro e wd16 ⟨rfl, hbr⟩))
  have hbt := below_tr (below_tr (below_dr (Below.refl _ _)) hbq) hbr
  clear HA HX huq hbq hbr
  clear p0c0 p0c1 p0c2 bx0c0 bx0c1 bx0c2
  have BE17 := Lib.hid (below_tr BE15.out hbt)
  have OWx017 := Lib.hid (OWx015.out.keep hbt)
  have KBp017 := Lib.hid (KBp015.out.below hbt)
  have KBbx017 := Lib.hid (KBbx015.out.below hbt)
  have ZZ17 : Hid (wf14.heap.size ≤ wd16.heap.size) := Lib.hid (by have := (hbt).size; simpa using this)
  clear BE15 OWx015 KBp015 KBbx015
  obtain ⟨p0c0, p0c1, p0c2⟩ := tri.two_cells KBp017.out
  obtain ⟨bx0c0, bx0c1, bx0c2⟩ := tri.two_cells KBbx017.out
  clear hbt
  go_wp2_with fail
  go_ret
  exact ⟨rfl, BE17.out⟩

/-! ### the frame of the row -/
theorem own : ownKnob Try.prog.godebug = none := by kernel_rfl
theorem laidOut : laidOutB Try.prog = true := by kernel_rfl
set_option maxRecDepth 100000 in
theorem lifted (os : Os) (started : os.Started) (H : Type) (enc : TypeId × Value → H) :
    ReturnsInHanded {} Try.checked os 10 .any (Rows.fnExactSignSumSpec.pre6 enc Try.prog Try.f10 Rows.fnExactSignSumRow.domain false) (Rows.fnExactSignSumSpec.post enc Try.prog Try.f10 false true false false) := by
  refine returnsInHanded_of_change (C := Try.checked) own started (by kernel_rfl) Try.func10
    (ChangeSpec.witness6 (enc := enc) (C := Try.checked) false ⟨#[], #[.agg #[.int .i64 0, .slice none 0 0]], []⟩ 8 (by kernel_rfl) (by kernel_rfl) (by kernel_rfl) (by kernel_rfl)) ?_
  intro W base args ds gs before hval0 hW _ _
  have hval : ∀ (j : Nat) t v, Try.f10.params[j]? = some t → args[j]? = some v → Value.okWide Try.prog W .any base t v := hval0
  have hW' := hW
  obtain ⟨p, q, hA0, hV, rfl, hfz, hnd⟩ := hW
  have hA : DataW.TrodAll enc Try.prog W 0 (fun _ => true) true Try.f10.params.toList args.toList ds p := hA0
  rw [Try.params10] at hA hval
  obtain ⟨v0, vs0, d0, ds0, p0, q0, hargs, rfl, rfl, h0, r0⟩ := trodAll_cons hA
  obtain ⟨rfl, rfl, rfl⟩ := trodAll_nil r0
  obtain rfl : args = #[v0] := by cases args; simp_all
  obtain ⟨rfl, rfl⟩ := trodVars_none hV
  have lt0 : ∀ x ∈ p0, x.block < W.heap.size := by obtain ⟨m, hm⟩ := h0; exact DataW.trod_lt m _ _ _ hm
  obtain ⟨wh0, u0, xss0, rfl, g0⟩ := opnt.trio_of_trod Try.underlying24 (by kernel_rfl) (by kernel_rfl) Try.underlying3 Try.underlying22 Try.underlying33 Try.underlying3 (by kernel_rfl) (by kernel_rfl) (hval 0 24 v0 rfl rfl) h0
  clear hA0 hval0
  refine (walk wh0 u0 xss0 W g0).mono fun e W' ⟨he, bel⟩ => ?_
  subst he
  exact ⟨_, rfl, _, _, _, [], _, [], hW', trodAll_mk1 (shut_bool Try.underlying4 _), (trodAll_cons_mk (Below.trod laidOut (by kernel_rfl) (of_decide_eq_true (by kernel_rfl)) h0 bel lt0) trodAll_mk0), rfl, bel.frame _, fun h => by cases h⟩

theorem over : Rows.fnExactSignSumRow.holds Try.pinned (OpenSpec.ofChange Rows.fnExactSignSumSpec) :=
  OpenClaim.holds_of_wide 10 Try.f10 rfl rfl rfl rfl rfl rfl rfl ⟨rfl, rfl, rfl, rfl, rfl⟩ rfl rfl rfl rfl rfl (by kernel_rfl) Try.func10 (by kernel_rfl)
    (of_decide_eq_true (by kernel_rfl)) (by unfold Func.isWrapper; first | (rw [if_pos (by decide +kernel)]; kernel_rfl) | (rw [if_neg (by decide +kernel)]; exact ⟨rfl, rfl⟩))
    (fun os started H enc _ => lifted os started H enc)

theorem proved : Rows.FnExactSignSumSaid := over
#print axioms proved
end Go.Proofs.Ytomofmmecpdalaa.lawSignSum
