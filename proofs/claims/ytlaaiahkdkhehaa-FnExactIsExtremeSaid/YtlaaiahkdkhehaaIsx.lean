/- IsExtreme of the model and of the program. -/
import Derived.Test.YtlaaiahkdkhehaaEq
import Derived.Test.YtlaaiahkdkhehaaFrg
import Derived.Test.YtlaaiahkdkhehaaExw
import Derived.Test.YtlaaiahkdkhehaaEvb
import Derived.Test.YtlaaiahkdkhehaaAlike
import Derived.Deep.RegionHeld3
namespace Go.Proofs.Ytlaaiahkdkhehaa.isx
open Go.RowKit Go.Deep Go.Proofs.Ytlaaiahkdkhehaa.base
open Go.Proofs.Ytlaaiahkdkhehaa.rws (total)
open Go.Proofs.Ytlaaiahkdkhehaa.val (okBox okSizes)
open Go.Proofs.Ytlaaiahkdkhehaa.row (nn nn_bd)
open Go.Proofs.Ytlaaiahkdkhehaa.two (two qt qtB qtB_yes qtB_no)
open Go.Proofs.Ytlaaiahkdkhehaa.four (arr rv cells16)
open Go.Proofs.Ytlaaiahkdkhehaa.boxl (Pl)
open Go.Proofs.Ytlaaiahkdkhehaa.ext (ext exts len_exts ext_ok ext_tot)
open Go.Proofs.Ytlaaiahkdkhehaa.alike (alike alikeB alikeB_yes alikeB_no same)

def isx (wh : Int) (xss : List (List Int)) : Prop := ∃ i, i < 24 ∧ alike wh xss 2 (ext i)
open Classical in
noncomputable def isB (wh : Int) (xss : List (List Int)) : Bool := if isx wh xss then true else false
theorem isB_yes {wh : Int} {xss : List (List Int)} (h : isx wh xss) : isB wh xss = true := if_pos h
theorem isB_no {wh : Int} {xss : List (List Int)} (h : ¬ isx wh xss) : isB wh xss = false := if_neg h
open Classical in
noncomputable def res (x y wh : Int) (xss : List (List Int)) : Bool × Bool := if qt x y wh xss then (isB wh xss, true) else (false, false)
theorem res_yes {x y wh : Int} {xss : List (List Int)} (h : qt x y wh xss) : res x y wh xss = (isB wh xss, true) := if_pos h
theorem res_no {x y wh : Int} {xss : List (List Int)} (h : ¬ qt x y wh xss) : res x y wh xss = (false, false) := if_neg h
theorem same_ext {wh : Int} {xss : List (List Int)} (h : okBox 2 2 wh xss) (i : Nat) : same 2 2 wh xss 2 2 2 (ext i) := ⟨h, ext_ok i, rfl, rfl⟩


set_option maxHeartbeats 8000000 in
theorem spec_any (x y wh : Int) (v : Value) (xss : List (List Int)) (w : World) (h : IRows w v xss) (hn : total xss ≤ 1048576) :
    Calls Try.prog 23 #[.agg #[.int .i64 x, .int .i64 y, .int .i64 wh, v]] w fun e w' => e = .returned (.tuple #[.bool (res x y wh xss).1, .bool (res x y wh xss).2]) ∧ Below w.heap.size w w' := by
  obtain ⟨va, vn, vc, rfl⟩ := h.shape
  have H := Lib.hid h
  have B0 := Lib.hid (below_al (Below.refl w.heap.size w) (.cells #[.int .i64 x, .int .i64 y, .int .i64 wh, .slice va vn vc] 24))
  have K0 := Lib.hid (Blk.new w 24 #[.int .i64 x, .int .i64 y, .int .i64 wh, .slice va vn vc])
  have hr := two.l6quiet x y wh _ xss _ (h.below B0.out) hn
  clear h
  by_cases hq : qt x y wh xss
  · rw [qtB_yes hq] at hr
    rw [res_yes hq]
    obtain ⟨⟨hok, rfl, rfl⟩, _⟩ := hq
    have HOK := Lib.hid hok
    have HR := Lib.hid hr
    clear hr hok
    go_enter Try.func23, Try.ntmps23
    go_wp2_with fail
    refine HR.out.mono ?_
    rintro e w0 ⟨rfl, hb⟩
    have B1 := Lib.hid (below_tr B0.out hb)
    have K1 := Lib.hid (K0.out.below hb)
    clear hb HR B0 K0
    go_wp2_with fail
    refine (ext.l6extremes _).mono ?_
    rintro e w1 ⟨bv, us, rfl, hP⟩
    have h0 : ∃ gb cap, bv = .slice (some ⟨gb, 0, none⟩) 24 cap := by
      obtain ⟨gb, cap, u0, hbv, _⟩ := hP.at_ (i := 0) (by rw [len_exts]; omega)
      rw [len_exts] at hbv
      exact ⟨gb, cap, hbv⟩
    obtain ⟨gb, cap, rfl⟩ := h0
    have P1 := Lib.hid hP
    have B2 := Lib.hid (below_tr B1.out hP.below)
    have K2 := Lib.hid (K1.out.below hP.below)
    clear hP K1 B1
    go_wp2_with fail
    go_loopw [5] (fun i wr => ∃ k : Nat, k ≤ 24 ∧ i = .int .i64 k ∧ Hid (∀ j, j < k → ¬ alike wh xss 2 (ext j)) ∧ Hid (Below w1.heap.size w1 wr)) (fun i _ => 24 - (intOf i).toNat)
    case atStart => exact ⟨0, Nat.zero_le _, rfl, Lib.hid (fun j hj => by omega), Lib.hid (Below.refl _ _)⟩
    case round =>
      obtain ⟨k, hk, rfl, hN, hB⟩ := hrel
      obtain ⟨wi, rfl⟩ : ∃ wi : World, wi = wr := ⟨_, rfl⟩
      by_cases hlt : k < 24
      · have hkz : (k : Int) < 24 := by omega
        obtain ⟨ua, ul, uc, a0, a1, a2, a3, hbr⟩ := exw.mid P1.out (B' := w0.heap.size) (Nat.le_refl _) (fun q _ h2 => hB.out.block q h2) (i := k) (by rw [len_exts]; exact hlt)
        rw [show (exts 24)[k]'(by rw [len_exts]; exact hlt) = ext k from by simp [exts]] at hbr
        have HA := Lib.hid (fun (W : World) (hb : Below wi.heap.size wi W) => alike.l2alike 2 2 wh (.slice va vn vc) xss 2 2 2 (.slice ua ul uc) (ext k) W (H.out.below (below_tr (below_tr B2.out hB.out) hb)) (hbr.below hb) (same_ext HOK.out k))
        obtain ⟨c0, c1, c2, c3, c4⟩ := four_cells (K2.out.below hB.out)
        clear hbr
        by_cases ha : alike wh xss 2 (ext k)
        · rw [alikeB_yes ha] at HA
          have HX : Hid (isx wh xss) := Lib.hid ⟨k, hlt, ha⟩
          clear ha
          go_wp2_with fail
          go_region_held3 (fun w' => w'.cell? ⟨w.heap.size, 0, none⟩ = some (.int .i64 2) ∧ w'.cell? ⟨w.heap.size, 1, none⟩ = some (.int .i64 2) ∧ w'.cell? ⟨w.heap.size, 2, none⟩ = some (.int .i64 wh) ∧ w'.cell? ⟨w.heap.size, 3, none⟩ = some (.slice va vn vc) ∧ w'.cell? ⟨gb, k * 4, none⟩ = some (.int .i64 2) ∧ w'.cell? ⟨gb, k * 4 + 1, none⟩ = some (.int .i64 2) ∧ w'.cell? ⟨gb, k * 4 + 2, none⟩ = some (.int .i64 2) ∧ w'.cell? ⟨gb, k * 4 + 3, none⟩ = some (.slice ua ul uc) ∧ Below wi.heap.size wi w')
            ((refine held8 c0 c1 c2 c3 a0 a1 a2 a3 ?_; repeat (first | exact Below.refl _ _ | assumption | refine below_dr ?_ | refine below_tr ?_ (by assumption))))
            (first | (go_at_call 65; (with_reducible refine (HA.out _ ?_).mono ?_); (with_reducible exact below_dr (Below.refl _ _)); rintro e w5 ⟨rfl, hb1⟩))
          have B6 := Lib.hid (below_tr hB.out (below_tr (below_dr (Below.refl wi.heap.size wi)) hb1))
          clear HA c0 c1 c2 c3 c4 a0 a1 a2 a3 hb1
          go_wp2_with fail
          go_ret2
          exact ⟨evb.ret_p (isB_yes HX.out).symm, below_tr B2.out B6.out⟩
        · rw [alikeB_no ha] at HA
          have HX := Lib.hid ha
          clear ha
          go_wp2_with fail
          go_region_held3 (fun w' => w'.cell? ⟨w.heap.size, 0, none⟩ = some (.int .i64 2) ∧ w'.cell? ⟨w.heap.size, 1, none⟩ = some (.int .i64 2) ∧ w'.cell? ⟨w.heap.size, 2, none⟩ = some (.int .i64 wh) ∧ w'.cell? ⟨w.heap.size, 3, none⟩ = some (.slice va vn vc) ∧ w'.cell? ⟨gb, k * 4, none⟩ = some (.int .i64 2) ∧ w'.cell? ⟨gb, k * 4 + 1, none⟩ = some (.int .i64 2) ∧ w'.cell? ⟨gb, k * 4 + 2, none⟩ = some (.int .i64 2) ∧ w'.cell? ⟨gb, k * 4 + 3, none⟩ = some (.slice ua ul uc) ∧ Below wi.heap.size wi w')
            ((refine held8 c0 c1 c2 c3 a0 a1 a2 a3 ?_; repeat (first | exact Below.refl _ _ | assumption | refine below_dr ?_ | refine below_tr ?_ (by assumption))))
            (first | (go_at_call 65; (with_reducible refine (HA.out _ ?_).mono ?_); (with_reducible exact below_dr (Below.refl _ _)); rintro e w5 ⟨rfl, hb1⟩))
          have B6 := Lib.hid (below_tr hB.out (below_tr (below_dr (Below.refl wi.heap.size wi)) hb1))
          clear HA c0 c1 c2 c3 c4 a0 a1 a2 a3 hb1
          go_wp2_with fail
          go_roundw
          case rel =>
            refine ⟨k + 1, by omega, by go_num, Lib.hid (fun j hj => ?_), B6⟩
            by_cases e : j = k
            · subst e; exact HX.out
            · exact hN.out j (by omega)
          case measure => simp [intOf]; omega
      · have hkz : ¬ (k : Int) < 24 := by omega
        have HX : Hid (¬ isx wh xss) := Lib.hid (by
          rintro ⟨i, hi, ha⟩
          exact hN.out i (by omega) ha)
        go_wp2_with fail
        go_ret2
        exact ⟨evb.ret_p (isB_no HX.out).symm, below_tr B2.out hB.out⟩
  · rw [qtB_no hq] at hr
    rw [res_no hq]
    have HR := Lib.hid hr
    clear hr hq
    go_enter Try.func23, Try.ntmps23
    go_wp2_with fail
    refine HR.out.mono ?_
    rintro e w1 ⟨rfl, hb⟩
    have B1 := Lib.hid (below_tr B0.out hb)
    clear hb HR B0 K0
    go_wp2_with fail
    go_ret2
    exact ⟨rfl, B1.out⟩


end Go.Proofs.Ytlaaiahkdkhehaa.isx
