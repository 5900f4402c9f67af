/- Proved here: for every Box, the law FnExactIsBox returns true: the program IsBox answers as its model, and the argument reads afterwards as before. Conditions: none beyond the row. -/
import Derived.Test.YtblhoggdnpblmaaVal
import Derived.Test.YtblhoggdnpblmaaBox
import Derived.Test.YtblhoggdnpblmaaRows
import Derived.Test.YtblhoggdnpblmaaOpen
import Derived.Deep.RegionHeld3
namespace Go.Proofs.Ytblhoggdnpblmaa.lawIsBox
open Go.ChangeShapes Go.WideShapes Go.ChangeAt Go.RowKit Go.Deep Go.Proofs.Ytblhoggdnpblmaa.base
open Go.ChangeMaps (open_string shut_string)
open Go.Proofs.Ytblhoggdnpblmaa.val (boxB)
open Go.Proofs.Ytblhoggdnpblmaa.rws (total sz)

theorem specw_any (x y wh : Int) (v : Value) (xss : List (List Int)) (w : World) (h : IRows w v xss) (hn : total xss ≤ 1048576) :
    Calls Try.prog 16 #[.agg #[.int .i64 x, .int .i64 y, .int .i64 wh, v]] w fun e w' => e = .returned (.bool (boxB x y wh xss)) ∧ Below w.heap.size w w' := by
  obtain ⟨va, vn, vc, rfl⟩ := h.shape
  have H := Lib.hid h
  clear h
  go_enter Try.func16, Try.ntmps16
  go_wp2_with fail
  refine (val.spec_any x y wh _ xss _ (H.out.below (below_al (Below.refl _ _) _)) hn).mono ?_
  rintro e w' ⟨rfl, hb⟩
  have HB := Lib.hid hb
  clear hb
  go_wp2_with fail
  go_ret
  exact ⟨rfl, below_tr (below_al (Below.refl _ _) _) HB.out⟩

theorem sz_total {xss : List (List Int)} {l : Int} (h : ¬ sz xss l < 0) : (total xss : Int) ≤ l := by
  unfold sz at h; split at h <;> omega

set_option maxHeartbeats 2000000 in
theorem walk (x y wh : Int) (v : Value) (xss : List (List Int)) (w : World) (h : IRows w v xss) :
    Calls Try.prog 3 #[.agg #[.int .i64 x, .int .i64 y, .int .i64 wh, v]] w fun e w' => e = .returned (.bool true) ∧ Below w.heap.size w w' := by
  obtain ⟨va, vn, vc, rfl⟩ := h.shape
  have H := Lib.hid h
  clear h
  by_cases hs : sz xss 1048576 < 0
  · go_enter Try.func3, Try.ntmps3
    go_wp2_with fail
    refine (box.sz_any x y wh _ xss _ _ (H.out.below (below_al (Below.refl _ _) _)) (by omega) (by omega)).mono ?_
    rintro e w1 ⟨rfl, hb⟩
    have HB := Lib.hid hb
    clear hb
    go_wp2_with fail
    go_ret
    exact ⟨rfl, below_tr (below_al (Below.refl _ _) _) HB.out⟩
  · have hn : total xss ≤ 1048576 := by have := sz_total hs; omega
    go_enter Try.func3, Try.ntmps3
    go_wp2_with fail
    refine (box.sz_any x y wh _ xss _ _ (H.out.below (below_al (Below.refl _ _) _)) (by omega) (by omega)).mono ?_
    rintro e w1 ⟨rfl, hb⟩
    have B1 := Lib.hid (below_tr (below_al (Below.refl _ _) _) hb)
    have K1 := Lib.hid ((Blk.new w 24 #[.int .i64 x, .int .i64 y, .int .i64 wh, .slice va vn vc]).below hb)
    obtain ⟨a0, a1, a2, a3, a4⟩ := four_cells K1.out
    clear hb
    go_wp2_with fail
    refine (box.to_any x y wh _ xss _ (H.out.below B1.out) hn).mono ?_
    rintro e w2 ⟨u, rfl, hu, hb⟩
    have B2 := Lib.hid (below_tr B1.out hb)
    have K2 := Lib.hid (K1.out.below hb)
    have U2 := Lib.hid hu.rows
    clear a0 a1 a2 a3 a4 hb hu
    go_wp2_with fail
    refine (specw_any x y wh _ xss _ U2.out hn).mono ?_
    rintro e w3 ⟨rfl, hb⟩
    have B3 := Lib.hid (below_tr B2.out hb)
    have K3 := Lib.hid (K2.out.below hb)
    obtain ⟨a0, a1, a2, a3, a4⟩ := four_cells K3.out
    clear hb
    go_wp2_with fail
    refine (box.to_any x y wh _ xss _ (H.out.below B3.out) hn).mono ?_
    rintro e w4 ⟨u4, rfl, hu, hb⟩
    obtain ⟨ua, un, uc, rfl⟩ := hu.rows.shape
    have B4 := Lib.hid (below_tr B3.out hb)
    have K4 := Lib.hid (K3.out.below hb)
    have U4 := Lib.hid hu
    clear a0 a1 a2 a3 a4
    obtain ⟨a0, a1, a2, a3, a4⟩ := four_cells K4.out
    clear hb hu
    go_wp2_with fail
    have K4b := Lib.hid (Blk.new w4 27 #[.int .i64 x, .int .i64 y, .int .i64 wh, .slice ua un uc])
    refine (val.impl_any x y wh _ xss _ (U4.out.rows.below (below_al (Below.refl _ _) _)) hn).mono ?_
    rintro e w5 ⟨rfl, hb⟩
    have B5 := Lib.hid (below_tr (below_al B4.out _) hb)
    have K5 := Lib.hid ((K4.out.alloc _).below hb)
    have K5b := Lib.hid (K4b.out.below hb)
    have U5 := Lib.hid (U4.out.keep (below_tr (below_al (Below.refl _ _) _) hb))
    clear a0 a1 a2 a3 a4 hb
    have h45 : w4.heap.size < w5.heap.size := K5b.out.lt
    obtain ⟨a0, a1, a2, a3, a4⟩ := four_cells K5.out
    obtain ⟨b0, b1, b2, b3, b4⟩ := four_cells K5b.out
    have tt : (boxB x y wh xss != boxB x y wh xss) = false := by simp
    go_wp2_with fail
    have H5 := Lib.hid (H.out.below B5.out)
    have R5 := Lib.hid U5.out.rows
    clear H K1 K2 K3 K4 K4b K5 K5b U2 U4 U5 B1 B2 B3 B4 h45
    go_region_held3 (fun w' => w'.cell? ⟨w.heap.size, 0, none⟩ = some (.int .i64 x) ∧ w'.cell? ⟨w.heap.size, 1, none⟩ = some (.int .i64 y) ∧ w'.cell? ⟨w.heap.size, 2, none⟩ = some (.int .i64 wh) ∧ w'.cell? ⟨w.heap.size, 3, none⟩ = some (.slice va vn vc) ∧
        w'.cell? ⟨w4.heap.size, 0, none⟩ = some (.int .i64 x) ∧ w'.cell? ⟨w4.heap.size, 1, none⟩ = some (.int .i64 y) ∧ w'.cell? ⟨w4.heap.size, 2, none⟩ = some (.int .i64 wh) ∧ w'.cell? ⟨w4.heap.size, 3, none⟩ = some (.slice ua un uc) ∧ Below w5.heap.size w5 w')
      ((refine held8 a0 a1 a2 a3 b0 b1 b2 b3 ?_; repeat (first | exact Below.refl _ _ | assumption | refine below_dr ?_ | refine below_tr ?_ (by assumption))))
      (first | (go_at_call 17; refine (box.to_any x y wh _ xss _ (H5.out.below ?_) hn).mono ?_; (simp [*]); rintro e w6 ⟨u6, rfl, hu, hb⟩) | (go_at_call 19; refine (box.eq_any x y wh x y wh _ _ xss xss _ (R5.out.below (below_tr (below_dr (Below.refl _ _)) hb)) hu.rows hn).mono ?_; rintro e w7 ⟨rfl, hb7⟩))
    go_wp2_with fail
    go_ret
    exact ⟨rfl, below_tr B5.out (below_tr (below_tr (below_dr (Below.refl _ _)) hb) hb7)⟩

/-! ### the frame of the row -/
theorem own : ownKnob Try.prog.godebug = none := by kernel_rfl
theorem laidOut : laidOutB Try.prog = true := by kernel_rfl
set_option maxRecDepth 100000 in
theorem lifted (os : Os) (started : os.Started) (H : Type) (enc : TypeId × Value → H) :
    ReturnsInHanded {} Try.checked os 3 .any (Rows.fnExactIsBoxSpec.pre6 enc Try.prog Try.f3 Rows.fnExactIsBoxRow.domain false) (Rows.fnExactIsBoxSpec.post enc Try.prog Try.f3 false true false false) := by
  refine returnsInHanded_of_change (C := Try.checked) own started (by kernel_rfl) Try.func3
    (ChangeSpec.witness6 (enc := enc) (C := Try.checked) false ⟨#[], #[.agg #[.int .i64 0, .int .i64 0, .int .i64 0, .slice none 0 0]], []⟩ 8 (by kernel_rfl) (by kernel_rfl) (by kernel_rfl) (by kernel_rfl)) ?_
  intro W base args ds gs before hval0 hW _ _
  have hval : ∀ (j : Nat) t v, Try.f3.params[j]? = some t → args[j]? = some v → Value.okWide Try.prog W .any base t v := hval0
  have hW' := hW
  obtain ⟨p, q, hA0, hV, rfl, hfz, hnd⟩ := hW
  have hA : DataW.TrodAll enc Try.prog W 0 (fun _ => true) true Try.f3.params.toList args.toList ds p := hA0
  rw [Try.params3] at hA hval
  obtain ⟨v0, vs0, d0, ds0, p0, q0, hargs, rfl, rfl, h0, r0⟩ := trodAll_cons hA
  obtain ⟨rfl, rfl, rfl⟩ := trodAll_nil r0
  obtain rfl : args = #[v0] := by cases args; simp_all
  obtain ⟨rfl, rfl⟩ := trodVars_none hV
  have lt0 : ∀ x ∈ p0, x.block < W.heap.size := by obtain ⟨m, hm⟩ := h0; exact DataW.trod_lt m _ _ _ hm
  obtain ⟨x0, y0, wh0, u0, xss0, rfl, g0⟩ := opn.box_of_trod Try.underlying24 (by kernel_rfl) (by kernel_rfl) Try.underlying3 Try.underlying3 Try.underlying3 Try.underlying22 Try.underlying35 Try.underlying3 (by kernel_rfl) (by kernel_rfl) (hval 0 24 v0 rfl rfl) h0
  clear hA0 hval0
  refine (walk x0 y0 wh0 u0 xss0 W g0).mono fun e W' ⟨he, bel⟩ => ?_
  subst he
  exact ⟨_, rfl, _, _, _, [], _, [], hW', trodAll_mk1 (shut_bool Try.underlying4 _), (trodAll_cons_mk (Below.trod laidOut (by kernel_rfl) (of_decide_eq_true (by kernel_rfl)) h0 bel lt0) trodAll_mk0), rfl, bel.frame _, fun h => by cases h⟩

theorem over : Rows.fnExactIsBoxRow.holds Try.pinned (OpenSpec.ofChange Rows.fnExactIsBoxSpec) :=
  OpenClaim.holds_of_wide 3 Try.f3 rfl rfl rfl rfl rfl rfl rfl ⟨rfl, rfl, rfl, rfl, rfl⟩ rfl rfl rfl rfl rfl (by kernel_rfl) Try.func3 (by kernel_rfl)
    (of_decide_eq_true (by kernel_rfl)) (by unfold Func.isWrapper; first | (rw [if_pos (by decide +kernel)]; kernel_rfl) | (rw [if_neg (by decide +kernel)]; exact ⟨rfl, rfl⟩))
    (fun os started H enc _ => lifted os started H enc)

theorem proved : Rows.FnExactIsBoxSaid := over
#print axioms proved
end Go.Proofs.Ytblhoggdnpblmaa.lawIsBox
