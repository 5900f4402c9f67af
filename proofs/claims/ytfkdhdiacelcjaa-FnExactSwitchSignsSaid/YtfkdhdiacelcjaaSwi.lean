/- SwitchSigns of the program. -/
import Derived.Test.YtfkdhdiacelcjaaMul
namespace Go.Proofs.Ytfkdhdiacelcjaa.sws
open Go.RowKit Go.Deep Go.Proofs.Ytfkdhdiacelcjaa.base
open Go.Proofs.Ytfkdhdiacelcjaa.sgn (wide okSign signB signB_yes signB_no)

set_option maxHeartbeats 4000000 in
theorem impl_any (v vr vp : Value) (xss : List (List Int)) (rs ps : List Int) (w : World) (h : IRows w v xss) (hr : Ints w vr rs) (hp : Ints w vp ps) :
    Calls Try.prog 53 #[v, vr, vp] w fun e w' => ∃ u', e = .returned (.tuple #[u', .bool (res xss rs ps).2]) ∧ OwnRows w' w.heap.size w'.heap.size u' (res xss rs ps).1 ∧ Below w.heap.size w w' := by
  have H := Lib.hid h
  have HR := Lib.hid hr
  have HP := Lib.hid hp
  have HC := Lib.hid (sgn.impl_sign v xss w h)
  by_cases hok : okSign xss
  · have HE := Lib.hid (signB_yes hok)
    obtain ⟨d, q, cap, rfl, ⟨m0, m1, mc⟩, _⟩ := sgn.cell0 hok h
    have hpos := sgn.pos hok
    have hkz : (0 : Int) < (xss.length : Int) := by omega
    obtain ⟨ra, rn, rc, rfl⟩ := hr.shape
    obtain ⟨pa, pn, pc, rfl⟩ := hp.shape
    have HOK := Lib.hid hok
    clear h hr hp
    by_cases hrs : signs xss.length rs
    · have HE1 := Lib.hid (signsB_yes hrs)
      by_cases hps : signs ((wide xss : Nat) : Int) ps
      · have HE2 := Lib.hid (signsB_yes hps)
        rw [res_yes ⟨hok, hrs, hps⟩]
        have HRS := Lib.hid hrs
        have HPS := Lib.hid hps
        clear hok hrs hps
        go_enter Try.func53, Try.ntmps53
        go_wp2_with fail
        refine HC.out.mono ?_
        rintro e w1 ⟨rfl, rfl⟩
        rw [HE.out]
        go_wp2_with fail
        refine (impl_are _ rs _ _ HR.out).mono ?_
        rintro e w2 ⟨rfl, rfl⟩
        rw [HE1.out]
        go_wp2_with fail
        refine (impl_are _ ps _ _ HP.out).mono ?_
        rintro e w3 ⟨rfl, rfl⟩
        rw [HE2.out]
        go_wp2_with fail
        refine (tab.mult _ _ _ xss rs ps _ H.out HR.out HP.out HOK.out HRS.out HPS.out).mono ?_
        rintro e w4 ⟨u', rfl, hu, hb⟩
        obtain ⟨xa, xn, xc, rfl⟩ := hu.rows.shape
        have U2 := Lib.hid hu
        have B4 := Lib.hid hb
        clear hu hb
        go_wp2_with fail
        go_ret2
        exact ⟨_, rfl, U2.out, B4.out⟩
      · have HE2 := Lib.hid (signsB_no hps)
        rw [res_no (fun h => hps h.2.2)]
        clear hok hrs hps
        go_enter Try.func53, Try.ntmps53
        go_wp2_with fail
        refine HC.out.mono ?_
        rintro e w1 ⟨rfl, rfl⟩
        rw [HE.out]
        go_wp2_with fail
        refine (impl_are _ rs _ _ HR.out).mono ?_
        rintro e w2 ⟨rfl, rfl⟩
        rw [HE1.out]
        go_wp2_with fail
        refine (impl_are _ ps _ _ HP.out).mono ?_
        rintro e w3 ⟨rfl, rfl⟩
        rw [HE2.out]
        go_wp2_with fail
        go_ret2
        exact ⟨_, rfl, OwnRows.nil _ _ _, Below.refl _ _⟩
    · have HE1 := Lib.hid (signsB_no hrs)
      rw [res_no (fun h => hrs h.2.1)]
      clear hok hrs
      go_enter Try.func53, Try.ntmps53
      go_wp2_with fail
      refine HC.out.mono ?_
      rintro e w1 ⟨rfl, rfl⟩
      rw [HE.out]
      go_wp2_with fail
      refine (impl_are _ rs _ _ HR.out).mono ?_
      rintro e w2 ⟨rfl, rfl⟩
      rw [HE1.out]
      go_wp2_with fail
      go_ret2
      exact ⟨_, rfl, OwnRows.nil _ _ _, Below.refl _ _⟩
  · have HE := Lib.hid (signB_no hok)
    rw [res_no (fun h => hok h.1)]
    obtain ⟨va, vn, vc, rfl⟩ := h.shape
    obtain ⟨ra, rn, rc, rfl⟩ := hr.shape
    obtain ⟨pa, pn, pc, rfl⟩ := hp.shape
    clear hok h hr hp
    go_enter Try.func53, Try.ntmps53
    go_wp2_with fail
    refine HC.out.mono ?_
    rintro e w1 ⟨rfl, rfl⟩
    rw [HE.out]
    go_wp2_with fail
    go_ret2
    exact ⟨_, rfl, OwnRows.nil _ _ _, Below.refl _ _⟩

end Go.Proofs.Ytfkdhdiacelcjaa.sws
