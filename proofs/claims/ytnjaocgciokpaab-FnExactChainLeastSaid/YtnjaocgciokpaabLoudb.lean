/- l2Loud of the model. -/
import Derived.Test.YtnjaocgciokpaabLoud
namespace Go.Proofs.Ytnjaocgciokpaab.loud
open Go.RowKit Go.Deep Go.Proofs.Ytnjaocgciokpaab.base
open Go.Proofs.Ytnjaocgciokpaab.val (okBox okRow okSizes boxB boxB_yes boxB_no)
open Go.Proofs.Ytnjaocgciokpaab.ints (ret_int)
open Go.Proofs.Ytnjaocgciokpaab.rws (total)
open Go.Proofs.Ytnjaocgciokpaab.row (one at_ nn)

def LoudPost (xss : List (List Int)) (X Y : Nat) (w : World) (e : Ending) (w' : World) : Prop :=
  ∃ a b : Int, e = .returned (.tuple #[.int .i64 a, .int .i64 b]) ∧ ((Quiet xss X Y ∧ a = -1 ∧ b = -1) ∨ ∃ p q : Nat, First xss X Y p q ∧ a = p ∧ b = q) ∧ Below w.heap.size w w'


set_option maxRecDepth 100000 in
set_option maxHeartbeats 8000000 in
theorem l2loud (X Y : Nat) (wh : Int) (v : Value) (xss : List (List Int)) (w : World) (h : IRows w v xss) (hok : okBox X Y wh xss) :
    Calls Try.prog 162 #[.agg #[.int .i64 (X : Int), .int .i64 (Y : Int), .int .i64 wh, v]] w (LoudPost xss X Y w) := by
  obtain ⟨va, vn, vc, rfl⟩ := h.shape
  have H := Lib.hid h
  have HOK := Lib.hid hok
  obtain ⟨⟨hX1, hX2⟩, hY1, hY2⟩ := hok.1
  have B1 := Lib.hid (below_al (Below.refl w.heap.size w) (.cells #[.int .i64 (X : Int), .int .i64 (Y : Int), .int .i64 wh, .slice va vn vc] 28))
  have K1 := Lib.hid (Blk.new w 28 #[.int .i64 (X : Int), .int .i64 (Y : Int), .int .i64 wh, .slice va vn vc])
  clear h hok
  go_enter Try.func162, Try.ntmps162
  go_wp2_with fail
  go_loopw [4] (fun i wr => ∃ a : Nat, a ≤ X ∧ i = .int .i64 a ∧ Hid (∀ j, j < a → ¬ loud0 xss Y j) ∧ Hid (Below w.heap.size w wr) ∧ Hid (Blk wr w.heap.size 28 #[.int .i64 (X : Int), .int .i64 (Y : Int), .int .i64 wh, .slice va vn vc])) (fun i _ => X - (intOf i).toNat)
  case atStart => exact ⟨0, Nat.zero_le _, rfl, Lib.hid (fun j hj => by omega), B1, K1⟩
  case round =>
    obtain ⟨a, ha, rfl, hS, hB, hK⟩ := hrel
    clear B1 K1
    obtain ⟨wo, rfl⟩ : ∃ wo : World, wo = wr := ⟨_, rfl⟩
    obtain ⟨c0, c1, c2, c3, c4⟩ := four_cells hK.out
    by_cases hlt : a < X
    · have hkz : (a : Int) < (X : Int) := by omega
      go_wp2_with fail
      clear c0 c1 c2 c3 c4
      go_loopw [5] (fun j wi => ∃ c : Nat, 1 ≤ c ∧ c ≤ Y ∧ j = .int .i64 c ∧ Hid (∀ j, j < c → one xss (a * Y + j) 0 = one xss (a * Y) 0) ∧ Hid (Below w.heap.size w wi) ∧ Hid (Blk wi w.heap.size 28 #[.int .i64 (X : Int), .int .i64 (Y : Int), .int .i64 wh, .slice va vn vc])) (fun j _ => Y - (intOf j).toNat)
      case atStart => exact ⟨1, by omega, by omega, rfl, Lib.hid (fun j hj => by have e : j = 0 := (by omega); subst e; simp), hB, hK⟩
      case round =>
        obtain ⟨c, hc1, hc, rfl, hT, hB, hK⟩ := hrel
        obtain ⟨c0, c1, c2, c3, c4⟩ := four_cells hK.out
        by_cases hlc : c < Y
        · have hkc : (c : Int) < (Y : Int) := by omega
          have hv1 := row.at_lt HOK.out (i := (a : Int)) (j := (c : Int)) (by omega) (by omega) (by omega) (by omega)
          have hv2 := row.at_lt HOK.out (i := (a : Int)) (j := 0) (by omega) (by omega) (by omega) (by omega)
          rw [at_cast] at hv1
          rw [at_zero] at hv2
          have HV1 := Lib.hid hv1
          have HV2 := Lib.hid hv2
          have HR := Lib.hid (fun (W : World) (hW : Below w.heap.size w W) => row.l2row X Y wh (a : Int) (c : Int) _ xss W (H.out.below hW) HOK.out (by omega) (by omega) (by omega) (by omega))
          have HR2 := Lib.hid (fun (W : World) (hW : Below w.heap.size w W) => row.l2row X Y wh (a : Int) 0 _ xss W (H.out.below hW) HOK.out (by omega) (by omega) (by omega) (by omega))
          rw [at_cast] at HR
          rw [at_zero] at HR2
          clear hv1 hv2
          obtain ⟨wi, rfl⟩ : ∃ wi : World, wi = wr := ⟨_, rfl⟩
          by_cases he : one xss (a * Y + c) 0 = one xss (a * Y) 0
          · have t : (one xss (a * Y + c) 0 != one xss (a * Y) 0) = false := by simp [he]
            have HE := Lib.hid he
            clear he
            go_wp2_with fail
            go_region_held3 (fun w' => w'.cell? ⟨w.heap.size, 0, none⟩ = some (.int .i64 (X : Int)) ∧ w'.cell? ⟨w.heap.size, 1, none⟩ = some (.int .i64 (Y : Int)) ∧ w'.cell? ⟨w.heap.size, 2, none⟩ = some (.int .i64 wh) ∧ w'.cell? ⟨w.heap.size, 3, none⟩ = some (.slice va vn vc) ∧ Below wi.heap.size wi w')
              ((refine held4 c0 c1 c2 c3 ?_; repeat (first | exact Below.refl _ _ | assumption | refine below_dr ?_ | refine below_tr ?_ (by assumption))))
              (first
                | (go_at_call 124; (with_reducible refine (HR.out _ (below_tr hB.out ?_)).mono ?_); (exact below_dr (Below.refl _ _)); rintro e w5 ⟨u1, rfl, hu1, hb1⟩)
                | (go_at_call 176; (with_reducible refine (row.l2one _ X Y wh 0 xss (a * Y + c) _ HOK.out HV1.out hu1).mono ?_); rintro e w6 ⟨rfl, hb2⟩)
                | (go_at_call 124; (with_reducible refine (HR2.out _ (below_tr hB.out ?_)).mono ?_); (exact below_tr (below_tr (below_dr (Below.refl _ _)) hb1) hb2); rintro e w7 ⟨u2, rfl, hu2, hb3⟩)
                | (go_at_call 176; (with_reducible refine (row.l2one _ X Y wh 0 xss (a * Y) _ HOK.out HV2.out hu2).mono ?_); rintro e w8 ⟨rfl, hb4⟩))
            have hbt := below_tr (below_tr (below_tr (below_tr (below_dr (Below.refl _ _)) hb1) hb2) hb3) hb4
            have B9 := Lib.hid (below_tr hB.out hbt)
            have K9 := Lib.hid (hK.out.below hbt)
            clear hbt hB hK hb1 hb2 hb3 hb4 hu1 hu2 c0 c1 c2 c3 c4
            go_wp2_with fail
            go_roundw
            case rel =>
              refine ⟨c + 1, by omega, by omega, by go_num, Lib.hid (fun j hj => ?_), B9, K9⟩
              by_cases e : j = c
              · subst e; exact HE.out
              · exact hT.out j (by omega)
            case measure => simp [intOf]; omega
          · have t : (one xss (a * Y + c) 0 != one xss (a * Y) 0) = true := by simp [he]
            have HE := Lib.hid he
            clear he
            go_wp2_with fail
            go_region_held3 (fun w' => w'.cell? ⟨w.heap.size, 0, none⟩ = some (.int .i64 (X : Int)) ∧ w'.cell? ⟨w.heap.size, 1, none⟩ = some (.int .i64 (Y : Int)) ∧ w'.cell? ⟨w.heap.size, 2, none⟩ = some (.int .i64 wh) ∧ w'.cell? ⟨w.heap.size, 3, none⟩ = some (.slice va vn vc) ∧ Below wi.heap.size wi w')
              ((refine held4 c0 c1 c2 c3 ?_; repeat (first | exact Below.refl _ _ | assumption | refine below_dr ?_ | refine below_tr ?_ (by assumption))))
              (first
                | (go_at_call 124; (with_reducible refine (HR.out _ (below_tr hB.out ?_)).mono ?_); (exact below_dr (Below.refl _ _)); rintro e w5 ⟨u1, rfl, hu1, hb1⟩)
                | (go_at_call 176; (with_reducible refine (row.l2one _ X Y wh 0 xss (a * Y + c) _ HOK.out HV1.out hu1).mono ?_); rintro e w6 ⟨rfl, hb2⟩)
                | (go_at_call 124; (with_reducible refine (HR2.out _ (below_tr hB.out ?_)).mono ?_); (exact below_tr (below_tr (below_dr (Below.refl _ _)) hb1) hb2); rintro e w7 ⟨u2, rfl, hu2, hb3⟩)
                | (go_at_call 176; (with_reducible refine (row.l2one _ X Y wh 0 xss (a * Y) _ HOK.out HV2.out hu2).mono ?_); rintro e w8 ⟨rfl, hb4⟩))
            have hbt := below_tr (below_tr (below_tr (below_tr (below_dr (Below.refl _ _)) hb1) hb2) hb3) hb4
            have B9 := Lib.hid (below_tr hB.out hbt)
            clear hbt hB hK hb1 hb2 hb3 hb4 hu1 hu2 c0 c1 c2 c3 c4
            go_wp2_with fail
            go_ret2
            exact ⟨_, _, rfl, Or.inr ⟨0, a, Or.inl ⟨rfl, hlt, ⟨c, hlc, HE.out⟩, hS.out⟩, rfl, rfl⟩, B9.out⟩
        · have hkc : ¬ (c : Int) < (Y : Int) := by omega
          have HD : Hid (∀ j, j < a + 1 → ¬ loud0 xss Y j) := Lib.hid (fun j hj => by
            by_cases e : j = a
            · subst e
              rintro ⟨q, hq, hne⟩
              exact hne (hT.out q (by omega))
            · exact hS.out j (by omega))
          go_wp2_with fail
          go_roundw
          case rel => exact ⟨a + 1, by omega, by go_num, HD, hB, hK⟩
          case measure => simp [intOf]; omega
    · have hkz : ¬ (a : Int) < (X : Int) := by omega
      have HQ0 : Hid (∀ j, j < X → ¬ loud0 xss Y j) := Lib.hid (fun j hj => hS.out j (by omega))
      go_wp2_with fail
      clear c0 c1 c2 c3 c4
      have B1 := hB
      have K1 := hK
      clear hS hB hK
      go_loopw [6] (fun i wr => ∃ a : Nat, a ≤ Y ∧ i = .int .i64 a ∧ Hid (∀ j, j < a → ¬ loud1 xss X Y j) ∧ Hid (Below w.heap.size w wr) ∧ Hid (Blk wr w.heap.size 28 #[.int .i64 (X : Int), .int .i64 (Y : Int), .int .i64 wh, .slice va vn vc])) (fun i _ => Y - (intOf i).toNat)
      case atStart => exact ⟨0, Nat.zero_le _, rfl, Lib.hid (fun j hj => by omega), B1, K1⟩
      case round =>
        obtain ⟨a, ha, rfl, hS, hB, hK⟩ := hrel
        clear B1 K1
        obtain ⟨wo, rfl⟩ : ∃ wo : World, wo = wr := ⟨_, rfl⟩
        obtain ⟨c0, c1, c2, c3, c4⟩ := four_cells hK.out
        by_cases hlt : a < Y
        · have hkz : (a : Int) < (Y : Int) := by omega
          go_wp2_with fail
          clear c0 c1 c2 c3 c4
          go_loopw [7] (fun j wi => ∃ c : Nat, 1 ≤ c ∧ c ≤ X ∧ j = .int .i64 c ∧ Hid (∀ j, j < c → one xss (j * Y + a) 1 = one xss a 1) ∧ Hid (Below w.heap.size w wi) ∧ Hid (Blk wi w.heap.size 28 #[.int .i64 (X : Int), .int .i64 (Y : Int), .int .i64 wh, .slice va vn vc])) (fun j _ => X - (intOf j).toNat)
          case atStart => exact ⟨1, by omega, by omega, rfl, Lib.hid (fun j hj => by have e : j = 0 := (by omega); subst e; simp), hB, hK⟩
          case round =>
            obtain ⟨c, hc1, hc, rfl, hT, hB, hK⟩ := hrel
            obtain ⟨c0, c1, c2, c3, c4⟩ := four_cells hK.out
            by_cases hlc : c < X
            · have hkc : (c : Int) < (X : Int) := by omega
              have hv1 := row.at_lt HOK.out (i := (c : Int)) (j := (a : Int)) (by omega) (by omega) (by omega) (by omega)
              have hv2 := row.at_lt HOK.out (i := 0) (j := (a : Int)) (by omega) (by omega) (by omega) (by omega)
              rw [at_cast] at hv1
              rw [at_top] at hv2
              have HV1 := Lib.hid hv1
              have HV2 := Lib.hid hv2
              have HR := Lib.hid (fun (W : World) (hW : Below w.heap.size w W) => row.l2row X Y wh (c : Int) (a : Int) _ xss W (H.out.below hW) HOK.out (by omega) (by omega) (by omega) (by omega))
              have HR2 := Lib.hid (fun (W : World) (hW : Below w.heap.size w W) => row.l2row X Y wh 0 (a : Int) _ xss W (H.out.below hW) HOK.out (by omega) (by omega) (by omega) (by omega))
              rw [at_cast] at HR
              rw [at_top] at HR2
              clear hv1 hv2
              obtain ⟨wi, rfl⟩ : ∃ wi : World, wi = wr := ⟨_, rfl⟩
              by_cases he : one xss (c * Y + a) 1 = one xss a 1
              · have t : (one xss (c * Y + a) 1 != one xss a 1) = false := by simp [he]
                have HE := Lib.hid he
                clear he
                go_wp2_with fail
                go_region_held3 (fun w' => w'.cell? ⟨w.heap.size, 0, none⟩ = some (.int .i64 (X : Int)) ∧ w'.cell? ⟨w.heap.size, 1, none⟩ = some (.int .i64 (Y : Int)) ∧ w'.cell? ⟨w.heap.size, 2, none⟩ = some (.int .i64 wh) ∧ w'.cell? ⟨w.heap.size, 3, none⟩ = some (.slice va vn vc) ∧ Below wi.heap.size wi w')
                  ((refine held4 c0 c1 c2 c3 ?_; repeat (first | exact Below.refl _ _ | assumption | refine below_dr ?_ | refine below_tr ?_ (by assumption))))
                  (first
                    | (go_at_call 124; (with_reducible refine (HR.out _ (below_tr hB.out ?_)).mono ?_); (exact below_dr (Below.refl _ _)); rintro e w5 ⟨u1, rfl, hu1, hb1⟩)
                    | (go_at_call 176; (with_reducible refine (row.l2one _ X Y wh 1 xss (c * Y + a) _ HOK.out HV1.out hu1).mono ?_); rintro e w6 ⟨rfl, hb2⟩)
                    | (go_at_call 124; (with_reducible refine (HR2.out _ (below_tr hB.out ?_)).mono ?_); (exact below_tr (below_tr (below_dr (Below.refl _ _)) hb1) hb2); rintro e w7 ⟨u2, rfl, hu2, hb3⟩)
                    | (go_at_call 176; (with_reducible refine (row.l2one _ X Y wh 1 xss (a) _ HOK.out HV2.out hu2).mono ?_); rintro e w8 ⟨rfl, hb4⟩))
                have hbt := below_tr (below_tr (below_tr (below_tr (below_dr (Below.refl _ _)) hb1) hb2) hb3) hb4
                have B9 := Lib.hid (below_tr hB.out hbt)
                have K9 := Lib.hid (hK.out.below hbt)
                clear hbt hB hK hb1 hb2 hb3 hb4 hu1 hu2 c0 c1 c2 c3 c4
                go_wp2_with fail
                go_roundw
                case rel =>
                  refine ⟨c + 1, by omega, by omega, by go_num, Lib.hid (fun j hj => ?_), B9, K9⟩
                  by_cases e : j = c
                  · subst e; exact HE.out
                  · exact hT.out j (by omega)
                case measure => simp [intOf]; omega
              · have t : (one xss (c * Y + a) 1 != one xss a 1) = true := by simp [he]
                have HE := Lib.hid he
                clear he
                go_wp2_with fail
                go_region_held3 (fun w' => w'.cell? ⟨w.heap.size, 0, none⟩ = some (.int .i64 (X : Int)) ∧ w'.cell? ⟨w.heap.size, 1, none⟩ = some (.int .i64 (Y : Int)) ∧ w'.cell? ⟨w.heap.size, 2, none⟩ = some (.int .i64 wh) ∧ w'.cell? ⟨w.heap.size, 3, none⟩ = some (.slice va vn vc) ∧ Below wi.heap.size wi w')
                  ((refine held4 c0 c1 c2 c3 ?_; repeat (first | exact Below.refl _ _ | assumption | refine below_dr ?_ | refine below_tr ?_ (by assumption))))
                  (first
                    | (go_at_call 124; (with_reducible refine (HR.out _ (below_tr hB.out ?_)).mono ?_); (exact below_dr (Below.refl _ _)); rintro e w5 ⟨u1, rfl, hu1, hb1⟩)
                    | (go_at_call 176; (with_reducible refine (row.l2one _ X Y wh 1 xss (c * Y + a) _ HOK.out HV1.out hu1).mono ?_); rintro e w6 ⟨rfl, hb2⟩)
                    | (go_at_call 124; (with_reducible refine (HR2.out _ (below_tr hB.out ?_)).mono ?_); (exact below_tr (below_tr (below_dr (Below.refl _ _)) hb1) hb2); rintro e w7 ⟨u2, rfl, hu2, hb3⟩)
                    | (go_at_call 176; (with_reducible refine (row.l2one _ X Y wh 1 xss (a) _ HOK.out HV2.out hu2).mono ?_); rintro e w8 ⟨rfl, hb4⟩))
                have hbt := below_tr (below_tr (below_tr (below_tr (below_dr (Below.refl _ _)) hb1) hb2) hb3) hb4
                have B9 := Lib.hid (below_tr hB.out hbt)
                clear hbt hB hK hb1 hb2 hb3 hb4 hu1 hu2 c0 c1 c2 c3 c4
                go_wp2_with fail
                go_ret2
                exact ⟨_, _, rfl, Or.inr ⟨1, a, Or.inr ⟨rfl, HQ0.out, hlt, ⟨c, hlc, HE.out⟩, hS.out⟩, rfl, rfl⟩, B9.out⟩
            · have hkc : ¬ (c : Int) < (X : Int) := by omega
              have HD : Hid (∀ j, j < a + 1 → ¬ loud1 xss X Y j) := Lib.hid (fun j hj => by
                by_cases e : j = a
                · subst e
                  rintro ⟨q, hq, hne⟩
                  exact hne (hT.out q (by omega))
                · exact hS.out j (by omega))
              go_wp2_with fail
              go_roundw
              case rel => exact ⟨a + 1, by omega, by go_num, HD, hB, hK⟩
              case measure => simp [intOf]; omega
        · have hkz : ¬ (a : Int) < (Y : Int) := by omega
          have HQ1 : Hid (Quiet xss X Y) := Lib.hid ⟨HQ0.out, fun j hj => hS.out j (by omega)⟩
          go_wp2_with fail
          go_ret2
          exact ⟨_, _, rfl, Or.inl ⟨HQ1.out, rfl, rfl⟩, hB.out⟩


end Go.Proofs.Ytnjaocgciokpaab.loud
