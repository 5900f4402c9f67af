/- IsMixture: both sides. -/
import Derived.Test.YtggodllfaggjiacMxv
import Derived.Test.YtggodllfaggjiacMxi
import Derived.Test.YtggodllfaggjiacAlike
import Derived.Deep.RegionHeld3
namespace Go.Proofs.Ytggodllfaggjiac.ismix
open Go.RowKit Go.Deep Go.Proofs.Ytggodllfaggjiac.base
open Go.Proofs.Ytggodllfaggjiac.val (okSizes okBox boxB_yes boxB_no)
open Go.Proofs.Ytggodllfaggjiac.rws (total)
open Go.Proofs.Ytggodllfaggjiac.mxb (okShares sharesB_yes sharesB_no)

/-- what IsMixture answers -/
noncomputable def res (x y wh : Int) (xss : List (List Int)) (ss : List Int) : Bool × Bool :=
  if (mxb.res x y ss).ok = true then alike.res x y wh xss (mxb.res x y ss).x (mxb.res x y ss).y (mxb.res x y ss).wh (mxb.res x y ss).rows else (false, false)
theorem res_no {x y wh : Int} {xss : List (List Int)} {ss : List Int} (h : ¬ okShares x y ss) : res x y wh xss ss = (false, false) := by
  unfold res; rw [mxb.res_no h]; rfl
theorem res_bad {x y wh : Int} {xss : List (List Int)} {ss : List Int} (h : ¬ okBox x y wh xss) : res x y wh xss ss = (false, false) := by
  unfold res; split
  · exact alike.res_no (fun hs => h hs.1)
  · rfl
theorem res_yes {X Y : Nat} {wh : Int} {xss : List (List Int)} {ss : List Int} (hb : okBox X Y wh xss) (hs : okShares X Y ss) :
    res X Y wh xss ss = (alike.alikeB wh xss ss.sum (make.rowsOf (mxb.N X Y ss) (X * Y)), true) := by
  unfold res
  rw [mxb.res_yes hs]
  have e : ((X : Int) * (Y : Int)).toNat = X * Y := by rw [← Int.natCast_mul, Int.toNat_natCast]
  simp only [e, Int.toNat_natCast, if_true]
  exact alike.res_yes ⟨hb, mxb.box_ok hs, rfl, rfl⟩


set_option maxHeartbeats 2000000 in
theorem spec_any (x y wh : Int) (v : Value) (xss : List (List Int)) (v' : Value) (ss : List Int) (w : World) (h : IRows w v xss) (h' : Ints w v' ss) (hn : total xss ≤ 1048576) (hm : ss.length ≤ 1048576) :
    Calls Try.prog 15 #[.agg #[.int .i64 x, .int .i64 y, .int .i64 wh, v], v'] w fun e w' => e = .returned (.tuple #[.bool (res x y wh xss ss).1, .bool (res x y wh xss ss).2]) ∧ Below w.heap.size w w' := by
  have HV := Lib.hid h
  have HI := Lib.hid h'
  obtain ⟨va, vn, vc, rfl⟩ := h.shape
  obtain ⟨A, cap, rfl⟩ : ∃ A c, v' = .slice A ss.length c := by obtain ⟨A, b, o, cap, hv, _⟩ := h'.form; exact ⟨A, cap, hv⟩
  clear h h'
  have B0 := Lib.hid (below_al (Below.refl w.heap.size w) (.cells #[.int .i64 x, .int .i64 y, .int .i64 wh, .slice va vn vc] 29))
  have P0 := Lib.hid (Blk.new w 29 #[.int .i64 x, .int .i64 y, .int .i64 wh, .slice va vn vc])
  have CP := Lib.hid (val.spec_any x y wh _ xss _ (HV.out.below B0.out) hn)
  by_cases hs : okBox x y wh xss
  · have EB := Lib.hid (boxB_yes hs)
    by_cases hk : okShares x y ss
    · have ES := Lib.hid (sharesB_yes hk)
      obtain ⟨X, rfl⟩ : ∃ X : Nat, x = X := ⟨x.toNat, by have := hk.1.1; omega⟩
      obtain ⟨Y, rfl⟩ : ∃ Y : Nat, y = Y := ⟨y.toNat, by have := hk.1.2; omega⟩
      rw [res_yes hs hk]
      have HSM : Hid (alike.same X Y wh xss X Y ss.sum (make.rowsOf (mxb.N X Y ss) (X * Y))) := Lib.hid ⟨hs, mxb.box_ok hk, rfl, rfl⟩
      have HMX := Lib.hid (fun (W : World) (hb : Below w.heap.size w W) => mxb.l3mix X Y _ ss W (HI.out.below hb) hk)
      clear hs hk
      go_enter Try.func15, Try.ntmps15
      go_wp2_with fail
      refine CP.out.mono ?_
      rintro e w1 ⟨rfl, hb⟩
      have B1 := Lib.hid (below_tr B0.out hb)
      have P1 := Lib.hid (P0.out.below hb)
      obtain ⟨c0, c1, c2, c3, c4⟩ := four_cells P1.out
      clear hb
      rw [EB.out]
      go_wp2_with fail
      refine (mxb.l3shares X Y _ ss _ (HI.out.below B1.out) hm).mono ?_
      rintro e w' ⟨rfl, rfl⟩
      rw [ES.out]
      go_wp2_with fail
      have HVW := Lib.hid (fun (W : World) (hb : Below w1.heap.size w1 W) => HV.out.below (below_tr B1.out hb))
      have HIW := Lib.hid (fun (W : World) (hb : Below w1.heap.size w1 W) => HMX.out W (below_tr B1.out hb))
      have H4 := Lib.hid (fun (W : World) (hb : Below w1.heap.size w1 W) => held4 c0 c1 c2 c3 hb)
      go_region_held3 (fun w' => w'.cell? ⟨w.heap.size, 0, none⟩ = some (.int .i64 X) ∧ w'.cell? ⟨w.heap.size, 1, none⟩ = some (.int .i64 Y) ∧ w'.cell? ⟨w.heap.size, 2, none⟩ = some (.int .i64 wh) ∧ w'.cell? ⟨w.heap.size, 3, none⟩ = some (.slice va vn vc) ∧ Below w1.heap.size w1 w')
        ((refine held4 c0 c1 c2 c3 ?_; repeat (first | (with_reducible exact Below.refl _ _) | (with_reducible assumption) | (with_reducible refine below_dr ?_) | (with_reducible refine below_al ?_ _) | (with_reducible refine below_tr ?_ (by assumption)))))
        (first
          | (go_at_call 56; (with_reducible refine (HIW.out _ ?_).mono ?_); (exact below_dr (Below.refl _ _)); rintro e w2 ⟨u1, rfl, ⟨T1, hu1⟩, hb1⟩; obtain ⟨ya, yl, yc, rfl⟩ := hu1.rows.shape; have hur : IRows w2 (.slice ya yl yc) (make.rowsOf (mxb.N X Y ss) (X * Y)) := hu1.rows)
          | (go_at_call 55; (with_reducible refine (alike.l2alike X Y wh _ xss X Y ss.sum _ _ _ (HVW.out _ ?_) hur HSM.out).mono ?_); (exact below_tr (below_dr (Below.refl _ _)) hb1); rintro e w3 ⟨rfl, hb2⟩))
      have B3 := Lib.hid (below_tr B1.out (below_tr (below_tr (below_dr (Below.refl _ w1)) hb1) hb2))
      clear hb1 hb2 hu1 hur
      go_wp2_with fail
      go_ret2
      exact ⟨rfl, B3.out⟩
    · have ES := Lib.hid (sharesB_no hk)
      rw [res_no hk]
      clear hs hk
      go_enter Try.func15, Try.ntmps15
      go_wp2_with fail
      refine CP.out.mono ?_
      rintro e w1 ⟨rfl, hb⟩
      have B1 := Lib.hid (below_tr B0.out hb)
      have P1 := Lib.hid (P0.out.below hb)
      obtain ⟨c0, c1, c2, c3, c4⟩ := four_cells P1.out
      clear hb
      rw [EB.out]
      go_wp2_with fail
      refine (mxb.l3shares x y _ ss _ (HI.out.below B1.out) hm).mono ?_
      rintro e w' ⟨rfl, rfl⟩
      rw [ES.out]
      go_wp2_with fail
      go_ret2
      exact ⟨rfl, B1.out⟩
  · have EB := Lib.hid (boxB_no hs)
    rw [res_bad hs]
    clear hs
    go_enter Try.func15, Try.ntmps15
    go_wp2_with fail
    refine CP.out.mono ?_
    rintro e w1 ⟨rfl, hb⟩
    have B1 := Lib.hid (below_tr B0.out hb)
    clear hb
    rw [EB.out]
    go_wp2_with fail
    go_ret2
    exact ⟨rfl, B1.out⟩



set_option maxHeartbeats 2000000 in
theorem impl_any (x y wh : Int) (v : Value) (xss : List (List Int)) (v' : Value) (ss : List Int) (w : World) (h : IRows w v xss) (h' : Ints w v' ss) (hn : total xss ≤ 1048576) :
    Calls Try.prog 18 #[.agg #[.int .i64 x, .int .i64 y, .int .i64 wh, v], v'] w fun e w' => e = .returned (.tuple #[.bool (res x y wh xss ss).1, .bool (res x y wh xss ss).2]) ∧ Below w.heap.size w w' := by
  have HV := Lib.hid h
  have HI := Lib.hid h'
  obtain ⟨va, vn, vc, rfl⟩ := h.shape
  obtain ⟨A, cap, rfl⟩ : ∃ A c, v' = .slice A ss.length c := by obtain ⟨A, b, o, cap, hv, _⟩ := h'.form; exact ⟨A, cap, hv⟩
  clear h h'
  have B0 := Lib.hid (below_al (Below.refl w.heap.size w) (.cells #[.int .i64 x, .int .i64 y, .int .i64 wh, .slice va vn vc] 29))
  have P0 := Lib.hid (Blk.new w 29 #[.int .i64 x, .int .i64 y, .int .i64 wh, .slice va vn vc])
  have CM := Lib.hid (mxb.impl_any x y _ ss _ (HI.out.below B0.out))
  have HT := Lib.hid (mxb.tot x y ss)
  obtain ⟨z, hz0⟩ : ∃ z, z = mxb.res x y ss := ⟨_, rfl⟩
  have HR : Hid (res x y wh xss ss = if z.ok = true then alike.res x y wh xss z.x z.y z.wh z.rows else (false, false)) := Lib.hid (by rw [hz0]; rfl)
  rw [← hz0] at CM HT
  clear hz0
  cases hk : z.ok
  · rw [hk] at CM HR
    rw [if_neg (by simp)] at HR
    rw [HR.out]
    clear hk
    go_enter Try.func18, Try.ntmps18
    go_wp2_with fail
    refine CM.out.mono ?_
    rintro e w1 ⟨u, rfl, hu, hb⟩
    obtain ⟨ua, ul, uc, rfl⟩ := hu.rows.shape
    have B1 := Lib.hid (below_al (below_tr B0.out hb) (.cells #[.int .i64 z.x, .int .i64 z.y, .int .i64 z.wh, .slice ua ul uc] 29))
    clear hb hu CM
    go_wp2_with fail
    go_ret2
    exact ⟨rfl, B1.out⟩
  · rw [hk] at CM HR
    rw [if_pos rfl] at HR
    rw [HR.out]
    clear hk
    go_enter Try.func18, Try.ntmps18
    go_wp2_with fail
    refine CM.out.mono ?_
    rintro e w1 ⟨u, rfl, hu, hb⟩
    obtain ⟨ua, ul, uc, rfl⟩ := hu.rows.shape
    have HU := Lib.hid hu.rows
    have B1 := Lib.hid (below_tr B0.out hb)
    have P1 := Lib.hid (P0.out.below hb)
    obtain ⟨c0, c1, c2, c3, c4⟩ := four_cells P1.out
    have BM := Lib.hid (below_al (Below.refl w1.heap.size w1) (.cells #[.int .i64 z.x, .int .i64 z.y, .int .i64 z.wh, .slice ua ul uc] 29))
    have CA := Lib.hid (alike.impl_any x y wh _ xss z.x z.y z.wh _ z.rows _ ((HV.out.below B1.out).below BM.out) (HU.out.below BM.out) hn HT.out)
    clear hb hu CM
    go_wp2_with fail
    refine CA.out.mono ?_
    rintro e w2 ⟨rfl, hb⟩
    have B2 := Lib.hid (below_tr B1.out (below_tr BM.out hb))
    clear hb CA
    go_wp2_with fail
    go_ret2
    exact ⟨rfl, B2.out⟩


end Go.Proofs.Ytggodllfaggjiac.ismix
