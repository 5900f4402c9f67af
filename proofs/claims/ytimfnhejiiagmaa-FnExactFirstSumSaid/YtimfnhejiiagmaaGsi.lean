/- GreatestSum of the program. -/
import Derived.Test.YtimfnhejiiagmaaGsp
namespace Go.Proofs.Ytimfnhejiiagmaa.gsi
open Go.RowKit Go.Deep Go.Proofs.Ytimfnhejiiagmaa.base
open Go.Proofs.Ytimfnhejiiagmaa.val (okSizes okBox boxB boxB_yes boxB_no ret_b)
open Go.Proofs.Ytimfnhejiiagmaa.gsm
open Go.Proofs.Ytimfnhejiiagmaa.gsp (cs place_cells)

def big (x y : Int) (xss : List (List Int)) : Int := mx (f xss x.toNat y.toNat) (num x.toNat y.toNat)
open Classical in
noncomputable def res (x y wh : Int) (xss : List (List Int)) : Int × Bool := if okBox x y wh xss then (big x y xss, true) else (0, false)
theorem res_yes {x y wh : Int} {xss : List (List Int)} (h : okBox x y wh xss) : res x y wh xss = (big x y xss, true) := if_pos h
theorem res_no {x y wh : Int} {xss : List (List Int)} (h : ¬ okBox x y wh xss) : res x y wh xss = (0, false) := if_neg h
theorem mx_bd {wh : Int} {xss : List (List Int)} {X Y : Nat} (hb : okBox X Y wh xss) : ∀ n, n ≤ num X Y → 0 ≤ mx (f xss X Y) n ∧ mx (f xss X Y) n ≤ 8000
  | 0, _ => ⟨Int.le_refl _, by show (0 : Int) ≤ 8000; omega⟩
  | n + 1, h => by
    have h1 := mx_bd hb n (by omega)
    have h2 := f_bd hb (t := n) (by omega)
    unfold mx
    split <;> omega
theorem ret_ib {a b : Int} {t : Bool} (h : a = b) : Ending.returned (.tuple #[.int .i64 a, .bool t]) = .returned (.tuple #[.int .i64 b, .bool t]) := by rw [h]


set_option maxRecDepth 100000 in
set_option maxHeartbeats 8000000 in
theorem impl_any (x y wh : Int) (v : Value) (xss : List (List Int)) (w : World) (h : IRows w v xss) (hn : rws.total xss ≤ 1048576) :
    Calls Try.prog 65 #[.agg #[.int .i64 x, .int .i64 y, .int .i64 wh, v]] w fun e w' => e = .returned (.tuple #[.int .i64 (res x y wh xss).1, .bool (res x y wh xss).2]) ∧ Below w.heap.size w w' := by
  obtain ⟨va, vn, vc, rfl⟩ := h.shape
  have HV := Lib.hid h
  have B0 := Lib.hid (below_al (Below.refl w.heap.size w) (.cells #[.int .i64 x, .int .i64 y, .int .i64 wh, .slice va vn vc] 29))
  have K0 := Lib.hid (Blk.new w 29 #[.int .i64 x, .int .i64 y, .int .i64 wh, .slice va vn vc])
  have HC := Lib.hid (fun W (hb : Below w.heap.size w W) => val.impl_any x y wh (.slice va vn vc) xss W (h.below hb) hn)
  obtain ⟨b0, b1, b2, b3, _⟩ := four_cells K0.out
  clear h
  by_cases hok : okBox x y wh xss
  · rw [boxB_yes hok] at HC
    rw [res_yes hok]
    obtain ⟨X, rfl⟩ : ∃ X : Nat, x = X := ⟨x.toNat, by have := hok.1.1; omega⟩
    obtain ⟨Y, rfl⟩ : ∃ Y : Nat, y = Y := ⟨y.toNat, by have := hok.1.2; omega⟩
    have hX : X ≤ 3 := by have := hok.1.1; omega
    have hY : Y ≤ 3 := by have := hok.1.2; omega
    have HP := Lib.hid (gsp.places X Y hX hY)
    have HNU := Lib.hid (num_le X Y hX hY)
    have HSZ := Lib.hid (fun t (ht : t < num X Y) W (hb : Below w.heap.size w W) => gsz.size_any X Y wh (.slice va vn vc) xss (pl1 X Y t).1 (pl1 X Y t).2 (pl2 Y t).1 (pl2 Y t).2 (pl3 t) W (HV.out.below hb) hn ⟨hok, pl_ok hok.1 ht⟩)
    have HFB := Lib.hid (fun t (ht : t < num X Y) => f_bd hok ht)
    have HMB := Lib.hid (mx_bd hok)
    have HF : Hid (∀ t, abs' (som.sum xss (pl1 X Y t).1 (pl1 X Y t).2 (pl2 Y t).1 (pl2 Y t).2 (pl3 t) Y) = f xss X Y t) := Lib.hid (fun t => rfl)
    have HBIG : Hid (big X Y xss = mx (f xss X Y) (num X Y)) := Lib.hid (by simp [big])
    rw [HBIG.out]
    clear hok hX hY
    go_enter Try.func65, Try.ntmps65
    go_wp2_with fail
    refine (HC.out _ B0.out).mono ?_
    rintro e w1 ⟨rfl, hb⟩
    have B1 := Lib.hid (below_tr B0.out hb)
    have K1 := Lib.hid (K0.out.below hb)
    clear hb b0 b1 b2 b3 B0 K0 HC
    obtain ⟨b0, b1, b2, b3, _⟩ := four_cells K1.out
    go_wp2_with fail
    refine (HP.out _).mono ?_
    rintro e w2 ⟨u, rfl, hu, hb⟩
    have U2 := Lib.hid hu
    have B2 := Lib.hid (below_tr B1.out hb)
    have K2 := Lib.hid (K1.out.below hb)
    obtain ⟨ua, un, uc, rfl⟩ : ∃ a n c, u = .slice a n c := by
      rcases hu.2 with ⟨rfl, _⟩ | ⟨g, cap, cur, rfl, _⟩
      · exact ⟨_, _, _, rfl⟩
      · exact ⟨_, _, _, rfl⟩
    have hun : un = num X Y := by
      rcases hu.2 with ⟨e1, e2⟩ | ⟨g, cap, cur, e1, _⟩
      · injection e1 with _ e3 _; omega
      · injection e1 with _ e3 _
    subst hun
    clear hu hb b0 b1 b2 b3 B1 K1 HP
    have N9 : ((num X Y : Nat) : Int) ≤ 324 := by have := HNU.out; omega
    go_wp2_with fail
    go_loopw [4, 6, 16] (fun z4 z6 s wr => ∃ t : Nat, t ≤ num X Y ∧ s = .int .i64 (t : Nat) ∧ (∃ z, z6 = z) ∧ (∃ M : Int, z4 = .int .i64 M ∧ Hid (M = mx (f xss X Y) t)) ∧ Hid (Below w2.heap.size w2 wr)) (fun _ _ s _ => num X Y - (intOf s).toNat)
    case atStart => exact ⟨0, Nat.zero_le _, rfl, ⟨_, rfl⟩, ⟨0, rfl, rfl⟩, Below.refl _ _⟩
    case round =>
      obtain ⟨t, ht, rfl, ⟨z6, rfl⟩, ⟨M, rfl, hM⟩, hB⟩ := hrel
      obtain ⟨wr, rfl⟩ : ∃ w9 : World, w9 = wr := ⟨_, rfl⟩
      by_cases hlt : t < num X Y
      · have hkz : (t : Int) < ((num X Y : Nat) : Int) := by omega
        obtain ⟨g, cap, hv, _, p0, p1, p2, p3, p4⟩ := place_cells U2.out hlt
        injection hv with e1 e2 e3
        subst e1
        clear e2 e3
        have p0 := below_cell hB.out _ _ p0
        have p1 := below_cell hB.out _ _ p1
        have p2 := below_cell hB.out _ _ p2
        have p3 := below_cell hB.out _ _ p3
        have p4 := below_cell hB.out _ _ p4
        obtain ⟨b0, b1, b2, b3, _⟩ := four_cells (K2.out.below hB.out)
        have HZ := Lib.hid (fun W hb => HSZ.out t hlt W hb)
        rw [HF.out] at HZ
        obtain ⟨f1, f2, _, _⟩ := HFB.out t hlt
        obtain ⟨m1, m2⟩ := HMB.out t ht
        rw [← hM.out] at m1 m2
        have HM2 : Hid ((if M < f xss X Y t then f xss X Y t else M) = mx (f xss X Y) (t + 1)) := Lib.hid (by rw [hM.out]; rfl)
        unfold gsz.pv at HZ
        obtain ⟨F, hF⟩ : ∃ F, f xss X Y t = F := ⟨_, rfl⟩
        rw [hF] at HZ HM2 f1 f2
        clear hF hM
        go_wp2_with fail
        refine (HZ.out _ (below_tr B2.out (below_tr hB.out (below_al (Below.refl _ _) _)))).mono ?_
        rintro e w3 ⟨rfl, hb⟩
        have B3 := Lib.hid (below_tr hB.out (below_tr (below_al (Below.refl _ _) _) hb))
        clear hb b0 b1 b2 b3 p0 p1 p2 p3 p4 hB HZ
        go_wp2_with fail
        all_goals
          go_roundw
          case rel => exact ⟨t + 1, by omega, by go_num, ⟨_, rfl⟩, ⟨_, rfl, Lib.hid (by have h9 := HM2.out; split at h9 <;> omega)⟩, B3⟩
          case measure => simp [intOf]; omega
      · have hkz : ¬ (t : Int) < ((num X Y : Nat) : Int) := by omega
        have hte : t = num X Y := by omega
        have HE : Hid (M = mx (f xss X Y) (num X Y)) := Lib.hid (by rw [← hte]; exact hM.out)
        have BE := Lib.hid (below_tr B2.out hB.out)
        clear hM hte hB
        go_wp2_with fail
        go_ret2
        exact ⟨ret_ib HE.out, BE.out⟩
  · rw [boxB_no hok] at HC
    rw [res_no hok]
    clear hok
    go_enter Try.func65, Try.ntmps65
    go_wp2_with fail
    refine (HC.out _ B0.out).mono ?_
    rintro e w1 ⟨rfl, hb⟩
    have B1 := Lib.hid (below_tr B0.out hb)
    clear hb b0 b1 b2 b3
    go_wp2_with fail
    go_ret2
    exact ⟨rfl, B1.out⟩

end Go.Proofs.Ytimfnhejiiagmaa.gsi
