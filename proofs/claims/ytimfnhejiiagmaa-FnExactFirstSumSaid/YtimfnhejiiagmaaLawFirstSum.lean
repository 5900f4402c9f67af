/- Proved here: for all arguments, the law FnExactFirstSum returns true: the program's function answers as its model in every field, leaves its arguments as they were, and its answer owns its memory. Conditions: none beyond the row. -/
import Derived.Test.YtimfnhejiiagmaaBox
import Derived.Test.YtimfnhejiiagmaaFss
import Derived.Test.YtimfnhejiiagmaaFst
import Derived.Test.YtimfnhejiiagmaaOpen
import Derived.Test.YtimfnhejiiagmaaRows
import Derived.Deep.RegionHeld3
namespace Go.Proofs.Ytimfnhejiiagmaa.lawFirstSum
open Go.ChangeShapes Go.WideShapes Go.ChangeAt Go.RowKit Go.Deep Go.Proofs.Ytimfnhejiiagmaa.base
open Go.ChangeMaps (open_string shut_string)

/-- two pairs made one behind the other -/
def WP (w : World) (a b c d : Int) : World := (w.alloc (.cells #[.int .i64 a, .int .i64 b] 26)).alloc (.cells #[.int .i64 c, .int .i64 d] 26)
theorem wp_is (w : World) (a b c d : Int) : Below w.heap.size w (WP w a b c d) ∧ Blk (WP w a b c d) w.heap.size 26 #[.int .i64 a, .int .i64 b] ∧ Blk (WP w a b c d) (w.heap.size + 1) 26 #[.int .i64 c, .int .i64 d] := by
  refine ⟨below_al (below_al (Below.refl _ _) _) _, (Blk.new _ _ _).alloc _, ?_⟩
  have := Blk.new (w.alloc (.cells #[.int .i64 a, .int .i64 b] 26)) 26 #[.int .i64 c, .int .i64 d]
  unfold WP
  simpa using this
theorem eq_same (a b : Int) (w : World) : Calls Try.prog 19 #[.agg #[.int .i64 a, .int .i64 b], .agg #[.int .i64 a, .int .i64 b]] w fun e w' => e = .returned (.bool true) ∧ Below w.heap.size w w' := by
  have h := prt.eq_one a b a b w
  rw [decide_eq_true (⟨rfl, rfl⟩ : a = a ∧ b = b)] at h
  exact h

set_option maxRecDepth 100000 in
set_option maxHeartbeats 16000000 in
theorem walk (x y wh : Int) (v : Value) (xss : List (List Int)) (w : World) (h : IRows w v xss) :
    Calls Try.prog 3 #[.agg #[.int .i64 x, .int .i64 y, .int .i64 wh, v]] w fun e w' => e = .returned (.bool true) ∧ Below w.heap.size w w' := by
  obtain ⟨va, vn, vc, rfl⟩ := h.shape
  have H1 := Lib.hid h
  clear h
  have B0 := Lib.hid (below_al (Below.refl w.heap.size w) (.cells #[.int .i64 x, .int .i64 y, .int .i64 wh, .slice va vn vc] 24))
  have K0 := Lib.hid (Blk.new w 24 #[.int .i64 x, .int .i64 y, .int .i64 wh, .slice va vn vc])
  obtain ⟨b0, b1, b2, b3, _⟩ := four_cells K0.out
  by_cases hs : rws.sz xss (1048576) < 0
  · go_enter Try.func3, Try.ntmps3
    go_wp2_with fail
    refine (box.sz_any x y wh _ xss (1048576) _ (H1.out.below B0.out) (by omega) (by omega)).mono ?_
    rintro e w1 ⟨rfl, hb⟩
    have B1 := Lib.hid (below_tr B0.out hb)
    clear hb b0 b1 b2 b3 B0 K0
    go_wp2_with fail
    go_ret
    exact ⟨rfl, B1.out⟩
  have hq := rws.sz_bound hs
  have hn : rws.total xss ≤ 1048576 := by omega
  obtain ⟨r, hr⟩ : ∃ r, fst.res x y wh xss = r := ⟨_, rfl⟩
  have HS := Lib.hid (fun v W (hx : IRows W v xss) => fss.spec_any x y wh v xss W hx hn)
  have HI := Lib.hid (fun v W (hx : IRows W v xss) => fst.impl_any x y wh v xss W hx hn)
  rw [hr] at HS HI
  obtain ⟨a, b, c, d, m, ok⟩ := r
  unfold fst.tup at HS HI
  dsimp only at HS HI
  clear hr
  go_enter Try.func3, Try.ntmps3
  go_wp2_with fail
  refine (box.sz_any x y wh _ xss (1048576) _ (H1.out.below B0.out) (by omega) (by omega)).mono ?_
  rintro e w1 ⟨rfl, hb⟩
  have B1 := Lib.hid (below_tr B0.out hb)
  have K1 := Lib.hid (K0.out.below hb)
  clear hb b0 b1 b2 b3 B0 K0
  obtain ⟨b0, b1, b2, b3, _⟩ := four_cells K1.out
  go_wp2_with fail
  refine (box.to_any x y wh _ xss _ (H1.out.below B1.out) hn).mono ?_
  rintro e w2 ⟨ub, rfl, hub, hb⟩
  have B2 := Lib.hid (below_tr B1.out hb)
  have K2 := Lib.hid (K1.out.below hb)
  have UB := Lib.hid hub.rows
  obtain ⟨uba, ubn, ubc, rfl⟩ := hub.rows.shape
  clear hub hb b0 b1 b2 b3 B1 K1
  go_wp2_with fail
  refine (HS.out _ _ UB.out).mono ?_
  rintro e w3 ⟨rfl, hb⟩
  have B3 := Lib.hid (below_tr B2.out hb)
  have K3 := Lib.hid (K2.out.below hb)
  clear hb B2 K2 UB HS
  have hbE := (wp_is w3 a b c d).1
  have hkE := (wp_is w3 a b c d).2
  unfold WP at hbE hkE
  have BE := Lib.hid (below_tr B3.out hbE)
  have KE := Lib.hid (K3.out.below hbE)
  have PA := Lib.hid hkE.1
  have PB := Lib.hid hkE.2
  clear hbE hkE B3 K3
  obtain ⟨b0, b1, b2, b3, _⟩ := four_cells KE.out
  go_wp2_with fail
  refine (box.to_any x y wh _ xss _ (H1.out.below BE.out) hn).mono ?_
  rintro e w4 ⟨ux, rfl, hux, hb⟩
  have B4 := Lib.hid (below_tr BE.out hb)
  have K4 := Lib.hid (KE.out.below hb)
  have PA4 := Lib.hid (PA.out.below hb)
  have PB4 := Lib.hid (PB.out.below hb)
  obtain ⟨uxa, uxn, uxc, rfl⟩ := hux.rows.shape
  have XA := Lib.hid hux.rows
  clear hux hb b0 b1 b2 b3 BE KE PA PB
  go_wp2_with fail
  have o1 := below_al (Below.refl w4.heap.size w4) (.cells #[.int .i64 x, .int .i64 y, .int .i64 wh, .slice uxa uxn uxc] 29)
  have B5 := Lib.hid (below_tr B4.out o1)
  have K5 := Lib.hid (K4.out.below o1)
  have PA5 := Lib.hid (PA4.out.below o1)
  have PB5 := Lib.hid (PB4.out.below o1)
  have XA5 := Lib.hid (XA.out.below o1)
  have KX5 := Lib.hid (Blk.new w4 29 #[.int .i64 x, .int .i64 y, .int .i64 wh, .slice uxa uxn uxc])
  clear o1 B4 K4 PA4 PB4 XA
  refine (HI.out _ _ XA5.out).mono ?_
  rintro e w6 ⟨rfl, hb⟩
  have B6 := Lib.hid (below_tr B5.out hb)
  have K6 := Lib.hid (K5.out.below hb)
  have PA6 := Lib.hid (PA5.out.below hb)
  have PB6 := Lib.hid (PB5.out.below hb)
  have XA6 := Lib.hid (XA5.out.below hb)
  have KX6 := Lib.hid (KX5.out.below hb)
  clear hb B5 K5 PA5 PB5 XA5 KX5 HI
  have hbE := (wp_is w6 a b c d).1
  have hkE := (wp_is w6 a b c d).2
  unfold WP at hbE hkE
  have B7 := Lib.hid (below_tr B6.out hbE)
  have K7 := Lib.hid (K6.out.below hbE)
  have PA7 := Lib.hid (PA6.out.below hbE)
  have PB7 := Lib.hid (PB6.out.below hbE)
  have XA7 := Lib.hid (XA6.out.below hbE)
  have KX7 := Lib.hid (KX6.out.below hbE)
  have QA := Lib.hid hkE.1
  have QB := Lib.hid hkE.2
  clear hbE hkE B6 K6 PA6 PB6 XA6 KX6
  obtain ⟨a0, a1, _⟩ := prt.two_cells QA.out
  obtain ⟨c0, c1, _⟩ := prt.two_cells PA7.out
  go_wp2_with fail
  refine (eq_same a b _).mono ?_
  rintro e w8 ⟨rfl, hb⟩
  have B8 := Lib.hid (below_tr B7.out hb)
  have K8 := Lib.hid (K7.out.below hb)
  have PB8 := Lib.hid (PB7.out.below hb)
  have XA8 := Lib.hid (XA7.out.below hb)
  have KX8 := Lib.hid (KX7.out.below hb)
  have QB8 := Lib.hid (QB.out.below hb)
  clear hb a0 a1 c0 c1 B7 K7 PA7 PB7 XA7 KX7 QA QB
  obtain ⟨a0, a1, _⟩ := prt.two_cells QB8.out
  obtain ⟨c0, c1, _⟩ := prt.two_cells PB8.out
  go_wp2_with fail
  refine (eq_same c d _).mono ?_
  rintro e w9 ⟨rfl, hb⟩
  have B9 := Lib.hid (below_tr B8.out hb)
  have K9 := Lib.hid (K8.out.below hb)
  have XA9 := Lib.hid (XA8.out.below hb)
  have KX9 := Lib.hid (KX8.out.below hb)
  clear hb a0 a1 c0 c1 B8 K8 PB8 XA8 KX8 QB8
  obtain ⟨b0, b1, b2, b3, _⟩ := four_cells K9.out
  obtain ⟨e0, e1, e2, e3, _⟩ := four_cells KX9.out
  have tk0 : (m != m) = false := bne_self_eq_false _
  have tk1 : (ok != ok) = false := bne_self_eq_false _
  go_wp2_with fail
  have HA := Lib.hid (H1.out.below B9.out)
  have HX := Lib.hid XA9.out
  go_region_held3 (fun w' => w'.cell? ⟨w.heap.size, 0, none⟩ = some (.int .i64 x) ∧ w'.cell? ⟨w.heap.size, 1, none⟩ = some (.int .i64 y) ∧ w'.cell? ⟨w.heap.size, 2, none⟩ = some (.int .i64 wh) ∧ w'.cell? ⟨w.heap.size, 3, none⟩ = some (.slice va vn vc) ∧ w'.cell? ⟨w4.heap.size, 0, none⟩ = some (.int .i64 x) ∧ w'.cell? ⟨w4.heap.size, 1, none⟩ = some (.int .i64 y) ∧ w'.cell? ⟨w4.heap.size, 2, none⟩ = some (.int .i64 wh) ∧ w'.cell? ⟨w4.heap.size, 3, none⟩ = some (.slice uxa uxn uxc) ∧ Below w9.heap.size w9 w')
    ((refine held8 b0 b1 b2 b3 e0 e1 e2 e3 ?_; repeat (first | exact Below.refl _ _ | assumption | refine below_dr ?_ | refine below_tr ?_ (by assumption))))
    (first | (go_at_call 17; refine (box.to_any x y wh _ xss _ (HA.out.below ?_) hn).mono ?_; (simp [*]); rintro e wq ⟨uqq0, rfl, huq, hbq⟩) | (go_at_call 20; refine (box.eq_same x y wh _ _ xss _ (HX.out.below (below_tr (below_dr (Below.refl _ _)) hbq)) huq.rows hn).mono ?_; rintro e wd ⟨rfl, hbr⟩))
  have hbt := below_tr (below_tr (below_dr (Below.refl _ _)) hbq) hbr
  clear HA HX huq hbq hbr b0 b1 b2 b3 e0 e1 e2 e3
  have BT := Lib.hid (below_tr B9.out hbt)
  go_wp2_with fail
  go_ret
  exact ⟨rfl, BT.out⟩

/-! ### the frame of the row -/
theorem own : ownKnob Try.prog.godebug = none := by kernel_rfl
theorem laidOut : laidOutB Try.prog = true := by kernel_rfl
set_option maxRecDepth 100000 in
theorem lifted (os : Os) (started : os.Started) (H : Type) (enc : TypeId × Value → H) :
    ReturnsInHanded {} Try.checked os 3 .any (Rows.fnExactFirstSumSpec.pre6 enc Try.prog Try.f3 Rows.fnExactFirstSumRow.domain false) (Rows.fnExactFirstSumSpec.post enc Try.prog Try.f3 false true false false) := by
  refine returnsInHanded_of_change (C := Try.checked) own started (by kernel_rfl) Try.func3
    (ChangeSpec.witness6 (enc := enc) (C := Try.checked) false ⟨#[], #[.agg #[.int .i64 0, .int .i64 0, .int .i64 0, .slice none 0 0]], []⟩ 8 (by kernel_rfl) (by kernel_rfl) (by kernel_rfl) (by kernel_rfl)) ?_
  intro W base args ds gs before hval0 hW _ _
  have hval : ∀ (j : Nat) t v, Try.f3.params[j]? = some t → args[j]? = some v → Value.okWide Try.prog W .any base t v := hval0
  have hW' := hW
  obtain ⟨p, q, hA0, hV, rfl, hfz, hnd⟩ := hW
  have hA : DataW.TrodAll enc Try.prog W 0 (fun _ => true) true Try.f3.params.toList args.toList ds p := hA0
  rw [Try.params3] at hA hval
  obtain ⟨v0, vs0, d0, ds0, p0, q0, hargs, rfl, rfl, h0, r0⟩ := trodAll_cons hA
  obtain ⟨rfl, rfl, rfl⟩ := trodAll_nil r0
  obtain rfl : args = #[v0] := by cases args; simp_all
  obtain ⟨rfl, rfl⟩ := trodVars_none hV
  have lt0 : ∀ x ∈ p0, x.block < W.heap.size := by obtain ⟨m, hm⟩ := h0; exact DataW.trod_lt m _ _ _ hm
  obtain ⟨x0, y0, wh0, u0, xss0, rfl, g0⟩ := opn.box_of_trod Try.underlying24 (by kernel_rfl) (by kernel_rfl) Try.underlying3 Try.underlying3 Try.underlying3 Try.underlying22 Try.underlying34 Try.underlying3 (by kernel_rfl) (by kernel_rfl) (hval 0 24 v0 rfl rfl) h0
  clear hA0 hval0
  refine (walk x0 y0 wh0 u0 xss0 W g0).mono fun e W' ⟨he, bel⟩ => ?_
  subst he
  exact ⟨_, rfl, _, _, _, [], _, [], hW', trodAll_mk1 (shut_bool Try.underlying4 _), (trodAll_cons_mk (Below.trod laidOut (by kernel_rfl) (of_decide_eq_true (by kernel_rfl)) h0 bel lt0) trodAll_mk0), rfl, bel.frame _, fun h => by cases h⟩

theorem over : Rows.fnExactFirstSumRow.holds Try.pinned (OpenSpec.ofChange Rows.fnExactFirstSumSpec) :=
  OpenClaim.holds_of_wide 3 Try.f3 rfl rfl rfl rfl rfl rfl rfl ⟨rfl, rfl, rfl, rfl, rfl⟩ rfl rfl rfl rfl rfl (by kernel_rfl) Try.func3 (by kernel_rfl)
    (of_decide_eq_true (by kernel_rfl)) (by unfold Func.isWrapper; first | (rw [if_pos (by decide +kernel)]; kernel_rfl) | (rw [if_neg (by decide +kernel)]; exact ⟨rfl, rfl⟩))
    (fun os started H enc _ => lifted os started H enc)

theorem proved : Rows.FnExactFirstSumSaid := over
#print axioms proved
end Go.Proofs.Ytimfnhejiiagmaa.lawFirstSum
