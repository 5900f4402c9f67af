/- TalkValue of the program. -/
import Derived.Test.YtimfnhejiiagmaaTap
import Derived.Test.YtimfnhejiiagmaaTks
import Derived.Test.YtimfnhejiiagmaaBvp
namespace Go.Proofs.Ytimfnhejiiagmaa.tkp
open Go.RowKit Go.Deep Go.Proofs.Ytimfnhejiiagmaa.base
open Go.Proofs.Ytimfnhejiiagmaa.ints (ret_int)
open Go.Proofs.Ytimfnhejiiagmaa.rws (total)
open Go.Proofs.Ytimfnhejiiagmaa.gval (okGame gameB gameB_yes gameB_no)
open Go.Proofs.Ytimfnhejiiagmaa.plays (at_ bit len_at)
open Go.Proofs.Ytimfnhejiiagmaa.bvm (mx mx_nn mx_le mx_congr)
open Go.Proofs.Ytimfnhejiiagmaa.bvs (mx_yes mx_no)
open Go.Proofs.Ytimfnhejiiagmaa.tam Go.Proofs.Ytimfnhejiiagmaa.tks
open Go.Proofs.Ytimfnhejiiagmaa.worth (cum cum_congr)

theorem S_congr {X Y : Nat} {ws : List Int} {xss : List (List Int)} {T T' : Nat → Int} (h : ∀ x, x < X → T x = T' x) (d : Int) : S X Y ws xss T d = S X Y ws xss T' d := by
  unfold S
  refine mx_congr (fun p _ => ?_)
  show fullD X Y ws xss (bit X p) T d Y = fullD X Y ws xss (bit X p) T' d Y
  unfold fullD top sc
  refine cum_congr Y (fun y _ => ?_)
  have : ∀ b, cum (fun x => if T x = d then gwon.won ws xss (x * Y + y) (bit X p x) b else 0) X = cum (fun x => if T' x = d then gwon.won ws xss (x * Y + y) (bit X p x) b else 0) X := fun b => cum_congr X (fun x hx => by rw [h x hx])
  rw [this, this]

set_option maxRecDepth 100000 in
set_option maxHeartbeats 8000000 in
theorem impl_any (x y : Int) (v : Value) (ws : List Int) (u : Value) (xss : List (List Int)) (w : World) (h : game.GV w v ws u xss) (hn : ws.length ≤ 1048576) (hm : total xss ≤ 1048576) :
    Calls Try.prog 62 #[.agg #[.int .i64 x, .int .i64 y, v, u]] w fun e w' => e = .returned (.tuple #[.int .i64 (res x y ws xss).1, .bool (res x y ws xss).2]) ∧ Below w.heap.size w w' := by
  have H := Lib.hid h
  obtain ⟨va, vn, vc, ua, un, uc, rfl, rfl⟩ := h.shape
  have B0 := Lib.hid (below_al (Below.refl w.heap.size w) (.cells #[.int .i64 x, .int .i64 y, .slice va vn vc, .slice ua un uc] 40))
  have K0 := Lib.hid (Blk.new w 40 #[.int .i64 x, .int .i64 y, .slice va vn vc, .slice ua un uc])
  have HC := Lib.hid (gval.impl_any x y _ ws _ xss _ (h.below B0.out) hn hm)
  obtain ⟨c0, c1, c2, c3, c4⟩ := four_cells K0.out
  clear h
  by_cases hok : okGame x y ws xss
  · rw [gameB_yes hok] at HC
    rw [res_yes hok]
    obtain ⟨X, rfl⟩ : ∃ X : Nat, x = X := ⟨x.toNat, by have := hok.1.1; omega⟩
    obtain ⟨Y, rfl⟩ : ∃ X : Nat, y = X := ⟨y.toNat, by have := hok.1.2; omega⟩
    simp only [Int.toNat_natCast]
    have hX3 : (X : Int) ≤ 3 := hok.1.1.2
    obtain ⟨c, hc⟩ : ∃ c : Nat, 2 ^ X = c := ⟨_, rfl⟩
    have hc8 : c ≤ 8 := by rw [← hc]; exact Nat.le_trans (Nat.pow_le_pow_right (by omega) (show X ≤ 3 by omega)) (by decide)
    have e1 : (2 : Int) ^ X = (c : Int) := by rw [← hc]; simp
    have hw1 : wrap64 (2 ^ X) = (c : Int) := by rw [e1]; exact IntWalk.wrap64_in _ (by omega)
    have hcz : (c : Int) ≤ 8 := by omega
    obtain ⟨M, hM⟩ : ∃ M : Nat → Int, prg X Y ws xss = M := ⟨_, rfl⟩
    have HMB : Hid (∀ p, 0 ≤ M p ∧ M p ≤ 1782) := Lib.hid (fun p => by
      rw [← hM]
      have a := S_bd X Y ws xss hok (bit X p) 0
      have b := S_bd X Y ws xss hok (bit X p) 1
      unfold prg; omega)
    have HPA := Lib.hid (fun p W => plg.play_at X p W (by omega))
    have HTV : Hid (∀ (p : Nat) (W : World) (fv : Value), Below w.heap.size w W → Ints W fv (at_ X p) → Calls Try.prog 130 #[.agg #[.int .i64 (X : Int), .int .i64 (Y : Int), .slice va vn vc, .slice ua un uc], fv] W fun e w' => e = .returned (.int .i64 (M p)) ∧ Below W.heap.size W w') := Lib.hid (fun p W fv hW hf => by
      have := tap.told X Y _ ws _ xss fv (at_ X p) W (H.out.below hW) hf hok (len_at _ _) (bvp.at_bit X p)
      have e : ∀ d, S X Y ws xss (fun x => (at_ X p).getD x 0) d = S X Y ws xss (bit X p) d := fun d => S_congr (fun x hx => plays.get_at _ _ _ hx) d
      rw [e, e] at this
      rw [← hM]
      exact this)
    rw [hc, hM]
    clear hM hok hc e1
    go_enter Try.func62, Try.ntmps62
    go_wp2_with fail
    refine HC.out.mono ?_
    rintro e w1 ⟨rfl, hb⟩
    have B1 := Lib.hid (below_tr B0.out hb)
    have K1 := Lib.hid (K0.out.below hb)
    clear c0 c1 c2 c3 c4 hb B0 K0 HC
    obtain ⟨c0, c1, c2, c3, c4⟩ := four_cells K1.out
    go_wp2_with fail
    try simp only [hw1]
    clear c0 c1 c2 c3 c4 hw1
    go_loopw [4, 5, 12] (fun bv z5 j wr => ∃ p : Nat, ∃ t : Int, p ≤ c ∧ j = .int .i64 (p : Nat) ∧ bv = .int .i64 t ∧ 0 ≤ t ∧ t ≤ 1782 ∧ (∃ z, z5 = z) ∧ Hid (t = mx M p) ∧ Hid (Below w.heap.size w wr) ∧ Hid (Blk wr w.heap.size 40 #[.int .i64 (X : Int), .int .i64 (Y : Int), .slice va vn vc, .slice ua un uc])) (fun _ _ j _ => c - (intOf j).toNat)
    case atStart => exact ⟨0, 0, Nat.zero_le _, rfl, rfl, by omega, by omega, ⟨_, rfl⟩, Lib.hid rfl, B1, K1⟩
    case round =>
      clear B1 K1
      obtain ⟨p, t, hp, rfl, rfl, ht0, ht1, ⟨z5, rfl⟩, hT, hB, hK⟩ := hrel
      obtain ⟨wi, rfl⟩ : ∃ wi : World, wi = wr := ⟨_, rfl⟩
      by_cases hlt : p < c
      · have hkz : (p : Int) < (c : Int) := by omega
        obtain ⟨c0, c1, c2, c3, c4⟩ := four_cells hK.out
        have HPAk := Lib.hid (HPA.out p)
        obtain ⟨pz, hpz⟩ : ∃ pz, M p = pz := ⟨_, rfl⟩
        have hpb := HMB.out p
        have HTK := Lib.hid (HTV.out p)
        rw [hpz] at HTK hpb
        have HPZ := Lib.hid hpz
        clear hpz
        by_cases hmx : t < pz
        · have HN := Lib.hid (mx_yes hT.out HPZ.out hmx)
          have hmm : max t pz = pz := by omega
          go_wp2_with fail
          go_region_held3 (fun w' => w'.cell? ⟨w.heap.size, 0, none⟩ = some (.int .i64 (X : Int)) ∧ w'.cell? ⟨w.heap.size, 1, none⟩ = some (.int .i64 (Y : Int)) ∧ w'.cell? ⟨w.heap.size, 2, none⟩ = some (.slice va vn vc) ∧ w'.cell? ⟨w.heap.size, 3, none⟩ = some (.slice ua un uc) ∧ Below wi.heap.size wi w')
            (((with_reducible refine held4 c0 c1 c2 c3 ?_); repeat (first | (with_reducible exact Below.refl _ _) | (with_reducible refine below_dr ?_) | (with_reducible refine below_tr ?_ (by assumption)))))
            (first
              | (go_at_call 91; (with_reducible refine (HPAk.out _).mono ?_); rintro e wq1 ⟨fv, rfl, hf, hq1⟩)
              | (go_at_call 130; (with_reducible refine (HTK.out _ _ (below_tr hB.out ?_) ?_).mono ?_); (repeat (first | (with_reducible exact Below.refl _ _) | (with_reducible refine below_dr ?_) | (with_reducible refine below_tr ?_ (by assumption)))); (exact hf.ints); rintro e wq2 ⟨rfl, hq2⟩))
          have hbt : Below wi.heap.size wi wq2 := by repeat (first | (with_reducible exact Below.refl _ _) | (with_reducible refine below_dr ?_) | (with_reducible refine below_tr ?_ (by assumption)))
          have B2 := Lib.hid (below_tr hB.out hbt)
          have K2 := Lib.hid (hK.out.below hbt)
          clear hbt hq1 hq2 hf c0 c1 c2 c3 c4 hB hK HTK HPAk
          go_wp2_with fail
          go_roundw
          case rel => exact ⟨p + 1, pz, by omega, by go_num, rfl, by omega, by omega, ⟨_, rfl⟩, HN, B2, K2⟩
          case measure => simp [intOf]; omega
        · have HN := Lib.hid (mx_no hT.out HPZ.out hmx)
          have hmm : max t pz = t := by omega
          go_wp2_with fail
          go_region_held3 (fun w' => w'.cell? ⟨w.heap.size, 0, none⟩ = some (.int .i64 (X : Int)) ∧ w'.cell? ⟨w.heap.size, 1, none⟩ = some (.int .i64 (Y : Int)) ∧ w'.cell? ⟨w.heap.size, 2, none⟩ = some (.slice va vn vc) ∧ w'.cell? ⟨w.heap.size, 3, none⟩ = some (.slice ua un uc) ∧ Below wi.heap.size wi w')
            (((with_reducible refine held4 c0 c1 c2 c3 ?_); repeat (first | (with_reducible exact Below.refl _ _) | (with_reducible refine below_dr ?_) | (with_reducible refine below_tr ?_ (by assumption)))))
            (first
              | (go_at_call 91; (with_reducible refine (HPAk.out _).mono ?_); rintro e wq1 ⟨fv, rfl, hf, hq1⟩)
              | (go_at_call 130; (with_reducible refine (HTK.out _ _ (below_tr hB.out ?_) ?_).mono ?_); (repeat (first | (with_reducible exact Below.refl _ _) | (with_reducible refine below_dr ?_) | (with_reducible refine below_tr ?_ (by assumption)))); (exact hf.ints); rintro e wq2 ⟨rfl, hq2⟩))
          have hbt : Below wi.heap.size wi wq2 := by repeat (first | (with_reducible exact Below.refl _ _) | (with_reducible refine below_dr ?_) | (with_reducible refine below_tr ?_ (by assumption)))
          have B2 := Lib.hid (below_tr hB.out hbt)
          have K2 := Lib.hid (hK.out.below hbt)
          clear hbt hq1 hq2 hf c0 c1 c2 c3 c4 hB hK HTK HPAk
          go_wp2_with fail
          go_roundw
          case rel => exact ⟨p + 1, t, by omega, by go_num, rfl, by omega, by omega, ⟨_, rfl⟩, HN, B2, K2⟩
          case measure => simp [intOf]; omega
      · have hkz : ¬ (p : Int) < (c : Int) := by omega
        obtain rfl : p = c := by omega
        go_wp2_with fail
        go_ret2
        exact ⟨by rw [hT.out]; rfl, hB.out⟩
  · rw [gameB_no hok] at HC
    rw [res_no hok]
    clear hok
    go_enter Try.func62, Try.ntmps62
    go_wp2_with fail
    refine HC.out.mono ?_
    rintro e w1 ⟨rfl, hb⟩
    have B1 := Lib.hid (below_tr B0.out hb)
    clear c0 c1 c2 c3 c4 hb HC K0 B0
    go_wp2_with fail
    go_ret2
    exact ⟨rfl, B1.out⟩

end Go.Proofs.Ytimfnhejiiagmaa.tkp
