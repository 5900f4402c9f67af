/- SpreadWorth of both sides. -/
import Derived.Test.YtfkdhdiacelcjaaSpi
namespace Go.Proofs.Ytfkdhdiacelcjaa.spw
open Go.RowKit Go.Deep Go.Proofs.Ytfkdhdiacelcjaa.base
open Go.Proofs.Ytfkdhdiacelcjaa.ints (ret_int infoInts)
open Go.Proofs.Ytfkdhdiacelcjaa.play (within withinB withinB_yes withinB_no)
open Go.Proofs.Ytfkdhdiacelcjaa.sgn (wide okSign signB signB_yes signB_no)
open Go.Proofs.Ytfkdhdiacelcjaa.spd (dot)
open Go.Proofs.Ytfkdhdiacelcjaa.spr (okS lenS first spreadB)
open Go.Proofs.Ytfkdhdiacelcjaa.worth (cum cum_bd)
open Go.Proofs.Ytfkdhdiacelcjaa.row (nn)

theorem sq (a : Int) : 0 ≤ a * a := by
  rcases Int.le_total 0 a with h | h
  · exact Int.mul_nonneg h h
  · have := Int.mul_nonneg (Int.neg_nonneg_of_nonpos h) (Int.neg_nonneg_of_nonpos h)
    rwa [Int.neg_mul_neg] at this
theorem dot_nonneg (xs : List Int) : 0 ≤ dot xs xs := by
  have h : ∀ n, 0 ≤ cum (spd.term xs xs) n := by
    intro n
    induction n with
    | zero => exact Int.le_refl _
    | succ n ih => exact Int.add_nonneg ih (by unfold spd.term; exact sq _)
  exact h _
theorem len_nonneg (mss rss pss : List (List Int)) : 0 ≤ lenS mss rss pss := by
  by_cases h : okS mss rss pss
  · rw [spr.len_yes h]; exact dot_nonneg _
  · rw [spr.len_no h]; omega
theorem ok_of {mss rss pss : List (List Int)} (h : 0 < lenS mss rss pss) : okS mss rss pss := by
  by_cases h' : okS mss rss pss
  · exact h'
  · rw [spr.len_no h'] at h; omega

def pair (rss pss : List (List Int)) (r c : Nat) : Int := dot (rss.getD r []) (pss.getD c [])
def wterm (mss rss pss : List (List Int)) (t : Nat) : Int := nn mss (t / wide mss) (t % wide mss) * pair rss pss (t / wide mss) (t % wide mss)
/-- the worth of a spread -/
def worthS (mss rss pss : List (List Int)) : Int := cum (wterm mss rss pss) (mss.length * wide mss)
theorem wterm_at (mss rss pss : List (List Int)) (r c : Nat) (hc : c < wide mss) : wterm mss rss pss (r * wide mss + c) = nn mss r c * pair rss pss r c := by
  unfold wterm
  rw [show (r * wide mss + c) / wide mss = r from by rw [Nat.add_comm, Nat.add_mul_div_right _ _ (by omega), Nat.div_eq_of_lt hc, Nat.zero_add], show (r * wide mss + c) % wide mss = c from by rw [Nat.add_comm, Nat.add_mul_mod_self_right, Nat.mod_eq_of_lt hc]]
open Classical in
noncomputable def res (mss rss pss : List (List Int)) : Int × Int × Bool := if okSign mss ∧ 0 < lenS mss rss pss then (worthS mss rss pss, lenS mss rss pss, true) else (0, 0, false)
theorem res_yes {mss rss pss : List (List Int)} (h : okSign mss) (h' : 0 < lenS mss rss pss) : res mss rss pss = (worthS mss rss pss, lenS mss rss pss, true) := if_pos ⟨h, h'⟩
theorem res_no {mss rss pss : List (List Int)} (h : ¬ (okSign mss ∧ 0 < lenS mss rss pss)) : res mss rss pss = (0, 0, false) := if_neg h

theorem rrow {mss rss pss : List (List Int)} (h : okS mss rss pss) {r : Nat} (hr : r < rss.length) : within (wide rss) (-9) 9 rss[r] := by
  have := (h.2.2.2 r (by rw [List.length_append]; omega)).1
  rwa [List.getElem_append_left hr] at this
theorem prow {mss rss pss : List (List Int)} (h : okS mss rss pss) {r : Nat} (hr : r < pss.length) : within (wide rss) (-9) 9 pss[r] := by
  have := (h.2.2.2 (rss.length + r) (by rw [List.length_append]; omega)).1
  rw [List.getElem_append_right (by omega)] at this
  simpa using this
theorem pair_at {rss pss : List (List Int)} {r c : Nat} (hr : r < rss.length) (hc : c < pss.length) : pair rss pss r c = dot rss[r] pss[c] := by
  unfold pair; rw [row.getD_lt hr, row.getD_lt hc]
theorem pair_bd {mss rss pss : List (List Int)} (h : okS mss rss pss) {r c : Nat} (hr : r < rss.length) (hc : c < pss.length) : -324 ≤ pair rss pss r c ∧ pair rss pss r c ≤ 324 := by
  rw [pair_at hr hc]
  exact spd.dot_bd (rrow h hr) (prow h hc) (by have := h.2.2.1; omega)
theorem mul_bd {a b : Int} (a0 : -9 ≤ a) (a1 : a ≤ 9) (b0 : -324 ≤ b) (b1 : b ≤ 324) : -2916 ≤ a * b ∧ a * b ≤ 2916 := by
  have h1 : 0 ≤ (9 - a) * (324 + b) := Int.mul_nonneg (by omega) (by omega)
  have h2 : 0 ≤ (9 + a) * (324 - b) := Int.mul_nonneg (by omega) (by omega)
  have h3 : 0 ≤ (9 - a) * (324 - b) := Int.mul_nonneg (by omega) (by omega)
  have h4 : 0 ≤ (9 + a) * (324 + b) := Int.mul_nonneg (by omega) (by omega)
  rw [Int.sub_mul, Int.mul_add, Int.mul_add] at h1
  rw [Int.add_mul, Int.mul_sub, Int.mul_sub] at h2
  rw [Int.sub_mul, Int.mul_sub, Int.mul_sub] at h3
  rw [Int.add_mul, Int.mul_add, Int.mul_add] at h4
  omega
theorem step_bd {mss rss pss : List (List Int)} (hs : okSign mss) (h : okS mss rss pss) {r c : Nat} (hr : r < mss.length) (hc : c < wide mss) :
    IntKind.i64.wrap (nn mss r c * pair rss pss r c) = nn mss r c * pair rss pss r c ∧ IntKind.i64.wrap (cum (wterm mss rss pss) (r * wide mss + c) + nn mss r c * pair rss pss r c) = cum (wterm mss rss pss) (r * wide mss + c) + nn mss r c * pair rss pss r c := by
  have hx := sgn.len3 hs
  have hy := sgn.wide3 hs
  have m : ∀ r c, r < mss.length → c < wide mss → -2916 ≤ nn mss r c * pair rss pss r c ∧ nn mss r c * pair rss pss r c ≤ 2916 := fun r c hr hc => by
    have a := sgn.nn_bd hs hr hc
    have b := pair_bd h (r := r) (c := c) (by have := h.1; omega) (by have := h.2.1; omega)
    exact mul_bd a.1 a.2 b.1 b.2
  have h9 : r * wide mss + c < 9 := by
    have g1 : r * wide mss + c < (r + 1) * wide mss := by rw [Nat.add_mul]; omega
    have g2 : (r + 1) * wide mss ≤ mss.length * wide mss := Nat.mul_le_mul_right _ (by omega)
    have g3 : mss.length * wide mss ≤ 3 * 3 := Nat.mul_le_mul hx hy.2
    omega
  have s := cum_bd (g := wterm mss rss pss) (m := 2916) (r * wide mss + c) (fun t ht => by
    have q : t < mss.length * wide mss := by
      have g2 : (r + 1) * wide mss ≤ mss.length * wide mss := Nat.mul_le_mul_right _ (by omega)
      rw [Nat.add_mul] at g2; omega
    exact m _ _ (by rw [Nat.div_lt_iff_lt_mul (by omega)]; exact q) (Nat.mod_lt _ (by omega)))
  have t := m r c hr hc
  exact ⟨IntWalk.i64_in _ (by omega), IntWalk.i64_in _ (by omega)⟩
theorem ret3 {a b : Int} {c d : Int} {e f : Bool} (h1 : a = b) (h2 : c = d) (h3 : e = f) : Ending.returned (.tuple #[.int .i64 a, .int .i64 c, .bool e]) = .returned (.tuple #[.int .i64 b, .int .i64 d, .bool f]) := by rw [h1, h2, h3]


set_option maxRecDepth 100000 in
set_option maxHeartbeats 4000000 in
theorem spec_any (vm vr vp : Value) (mss rss pss : List (List Int)) (w : World) (hm : IRows w vm mss) (h : IRows w vr rss) (h' : IRows w vp pss) :
    Calls Try.prog 50 #[vm, vr, vp] w fun e w' => e = .returned (.tuple #[.int .i64 (res mss rss pss).1, .int .i64 (res mss rss pss).2.1, .bool (res mss rss pss).2.2]) ∧ Below w.heap.size w w' := by
  have HC := Lib.hid (sgn.spec_good vm mss w hm)
  have HL := Lib.hid (fun (W : World) (hW : Below w.heap.size w W) (hok : okSign mss) => spr.spec_len vm vr vp mss rss pss W (hm.below hW) (h.below hW) (h'.below hW) hok)
  by_cases hok : okSign mss
  · have HE0 := Lib.hid (signB_yes hok)
    by_cases hpos : 0 < lenS mss rss pss
    · rw [res_yes hok hpos]
      have d0 : (lenS mss rss pss == 0) = false := beq_eq_false_iff_ne.2 (by omega)
      obtain ⟨d, q, cap, rfl, _, hrm⟩ := sgn.cell0 hok hm
      have hX := sgn.len3 hok
      have hY := sgn.wide3 hok
      have hp := sgn.pos hok
      have ho := ok_of hpos
      obtain ⟨A1, b1, o1, c1, R1, rfl, _, _, hA1, hc1⟩ := h.form
      obtain ⟨A2, b2, o2, c2, R2, rfl, _, _, hA2, hc2⟩ := h'.form
      obtain rfl := hA1 (by have := ho.1; omega)
      obtain rfl := hA2 (by have := ho.2.1; omega)
      have HR1 : Hid (rss.length = mss.length) := Lib.hid ho.1
      have HR2 : Hid (pss.length = wide mss) := Lib.hid ho.2.1
      have HST := Lib.hid (fun (r c : Nat) (hr : r < mss.length) (hc : c < wide mss) => step_bd hok ho hr hc)
      have HDT := Lib.hid (fun (r c : Nat) (hr : r < rss.length) (hc : c < pss.length) (W : World) (hW : ∀ a u, w.cell? a = some u → W.cell? a = some u) => spd.spec_dot (R1 r) (R2 c) rss[r] pss[c] (wide rss) W ((hc1 r hr).2.keep hW) ((hc2 c hc).2.keep hW) (rrow ho hr) (prow ho hc) (by have := ho.2.2.1; omega))
      have HC1 := Lib.hid (fun (r : Nat) (hr : r < rss.length) => (hc1 r hr).1)
      have HC2 := Lib.hid (fun (r : Nat) (hr : r < pss.length) => (hc2 r hr).1)
      have HCM := Lib.hid hrm
      have HOK := Lib.hid hok
      have HOS := Lib.hid ho
      clear hm h h' hok hpos ho hc1 hc2 hrm hA1 hA2
      have HWS : Hid (worthS mss rss pss = cum (wterm mss rss pss) (mss.length * wide mss)) := Lib.hid rfl
      have HWT := Lib.hid (fun (r c : Nat) (hc : c < wide mss) => wterm_at mss rss pss r c hc)
      have HG : Hid (∀ n, Calls Try.prog 91 n = Calls Try.prog 91 n) := Lib.hid (fun _ => rfl)
      clear HG
      generalize hL : lenS mss rss pss = L at *
      obtain ⟨X, hXe⟩ : ∃ X, mss.length = X := ⟨_, rfl⟩
      obtain ⟨Y, hYe⟩ : ∃ Y, wide mss = Y := ⟨_, rfl⟩
      rw [hXe] at HR1 HST HCM HWS hX hp
      rw [hYe] at HR2 HST HCM HWS HWT hY
      rw [hXe] at HL HC ⊢
      go_enter Try.func50, Try.ntmps50
      go_wp2_with fail
      refine HC.out.mono ?_
      rintro e w1 ⟨rfl, n0, rfl⟩
      rw [HE0.out]
      go_wp2_with fail
      refine (HL.out _ (below_drewN (Below.refl _ _) _) HOK.out).mono ?_
      rintro e w2 ⟨rfl, hb⟩
      have B2 := Lib.hid (below_tr (below_drewN (Below.refl w.heap.size w) n0) hb)
      clear hb
      go_wp2_with fail
      go_loopw [9, 10, 11] (fun s i z wr => ∃ r : Nat, ∃ c : Int, r ≤ X ∧ i = .int .i64 r ∧ s = .int .i64 c ∧ (∃ z', z = z') ∧ Hid (c = cum (wterm mss rss pss) (r * Y)) ∧ ∃ n, wr = w2.drewN n) (fun _ i _ _ => X - (intOf i).toNat)
      case atStart => exact ⟨0, 0, Nat.zero_le _, rfl, rfl, ⟨_, rfl⟩, Lib.hid (by rw [Nat.zero_mul]; rfl), by first | exact ⟨0, rfl⟩ | exact ⟨_, rfl⟩⟩
      case round =>
        obtain ⟨r, c, hr, rfl, rfl, ⟨z0, rfl⟩, hC, n, rfl⟩ := hrel
        by_cases hlt : r < X
        · have hkz : (r : Int) < (X : Int) := by omega
          obtain ⟨b3, o3, c3, gm, gmc⟩ := HCM.out r hlt
          have GM := Lib.hid (below_cell B2.out _ _ gm)
          have GMC := Lib.hid (fun (c : Nat) (hc : c < Y) => below_cell B2.out _ _ (gmc c hc))
          have hlt1 : r < rss.length := by have := HR1.out; omega
          have hkr : (r : Int) < (rss.length : Int) := by omega
          have g1 := below_cell B2.out _ _ (HC1.out r hlt1)
          have GM2 := GM.out
          clear gm gmc
          go_wp2_with fail
          go_loopw [9, 11] (fun s  j wr => ∃ k : Nat, ∃ c : Int, k ≤ Y ∧ j = .int .i64 k ∧ s = .int .i64 c ∧ Hid (c = cum (wterm mss rss pss) (r * Y + k)) ∧ ∃ n, wr = w2.drewN n) (fun _ j _ => Y - (intOf j).toNat)
          case atStart => exact ⟨0, c, Nat.zero_le _, rfl, rfl, hC, n, rfl⟩
          case round =>
            clear hC
            obtain ⟨k, c, hk, rfl, rfl, hC, n, rfl⟩ := hrel
            by_cases hlk : k < Y
            · have hkk : (k : Int) < (Y : Int) := by omega
              have hlt2 : k < pss.length := by have := HR2.out; omega
              have hkp : (k : Int) < (pss.length : Int) := by omega
              have g2 := below_cell B2.out _ _ (HC2.out k hlt2)
              have g3 := GMC.out k hlk
              obtain ⟨k1, k2⟩ := HST.out r k hlt hlk
              rw [← hC.out] at k2
              have HN : Hid (c + nn mss r k * pair rss pss r k = cum (wterm mss rss pss) (r * Y + (k + 1))) := Lib.hid (by
                have hwt := HWT.out r k hlk
                rw [hC.out, ← hwt]; rfl)
              have HDD := Lib.hid (HDT.out r k hlt1 hlt2)
              rw [← pair_at hlt1 hlt2] at HDD
              generalize nn mss r k = m at *
              generalize pair rss pss r k = D at *
              go_wp2_with fail
              go_quiet ((go_at_call 93; go_must (exact ints.quiet_at (HDD.out _ (fun a u h => by have := below_cell B2.out a u h; simpa using this)))))
              go_wp2_with fail
              go_roundw
              case rel => exact ⟨k + 1, _, by omega, by go_num, rfl, HN, by first | exact ⟨_, rfl⟩ | exact ⟨_, World.drewN_drewN _ _ _⟩⟩
              case measure => simp [intOf]; omega
            · have hkk : ¬ (k : Int) < (Y : Int) := by omega
              have hky : r * Y + k = (r + 1) * Y := by rw [Nat.add_mul, Nat.one_mul]; omega
              rw [hky] at hC
              go_wp2_with fail
              go_roundw
              case rel => exact ⟨r + 1, c, by omega, by go_num, rfl, ⟨_, rfl⟩, hC, by first | exact ⟨_, rfl⟩ | exact ⟨_, World.drewN_drewN _ _ _⟩⟩
              case measure => simp [intOf]; omega
        · have hkz : ¬ (r : Int) < (X : Int) := by omega
          have HE : Hid (c = worthS mss rss pss) := Lib.hid (by rw [hC.out, HWS.out, show r = X from by omega])
          go_wp2_with fail
          refine (HL.out _ (below_drewN B2.out _) HOK.out).mono ?_
          rintro e w3 ⟨rfl, hb⟩
          have B3 := Lib.hid (below_tr (below_drewN B2.out n) hb)
          clear hb
          go_wp2_with fail
          rw [← HE.out]
          go_ret3
          exact ⟨rfl, B3.out⟩
    · rw [res_no (fun h => hpos h.2)]
      have hz : lenS mss rss pss = 0 := by have := len_nonneg mss rss pss; omega
      rw [hz] at HL
      have HOK := Lib.hid hok
      obtain ⟨ma, mn, mc, rfl⟩ := hm.shape
      obtain ⟨ra, rn, rc, rfl⟩ := h.shape
      obtain ⟨pa, pn, pc, rfl⟩ := h'.shape
      clear hm h h' hpos hz hok
      go_enter Try.func50, Try.ntmps50
      go_wp2_with fail
      refine HC.out.mono ?_
      rintro e w1 ⟨rfl, n0, rfl⟩
      rw [HE0.out]
      go_wp2_with fail
      refine (HL.out _ (below_drewN (Below.refl _ _) _) HOK.out).mono ?_
      rintro e w2 ⟨rfl, hb⟩
      have B2 := Lib.hid (below_tr (below_drewN (Below.refl w.heap.size w) n0) hb)
      clear hb
      go_wp2_with fail
      go_ret3
      exact ⟨rfl, B2.out⟩
  · rw [res_no (fun h => hok h.1)]
    have HE0 := Lib.hid (signB_no hok)
    obtain ⟨ma, mn, mc, rfl⟩ := hm.shape
    obtain ⟨ra, rn, rc, rfl⟩ := h.shape
    obtain ⟨pa, pn, pc, rfl⟩ := h'.shape
    clear hm h h' hok HL
    go_enter Try.func50, Try.ntmps50
    go_wp2_with fail
    refine HC.out.mono ?_
    rintro e w1 ⟨rfl, n0, rfl⟩
    rw [HE0.out]
    go_wp2_with fail
    go_ret3
    exact ⟨rfl, below_drewN (Below.refl _ _) _⟩



set_option maxRecDepth 100000 in
set_option maxHeartbeats 4000000 in
theorem impl_any (vm vr vp : Value) (mss rss pss : List (List Int)) (w : World) (hm : IRows w vm mss) (h : IRows w vr rss) (h' : IRows w vp pss) :
    Calls Try.prog 51 #[vm, vr, vp] w fun e w' => e = .returned (.tuple #[.int .i64 (res mss rss pss).1, .int .i64 (res mss rss pss).2.1, .bool (res mss rss pss).2.2]) ∧ Below w.heap.size w w' := by
  have HC := Lib.hid (sgn.impl_sign vm mss w hm)
  have HL := Lib.hid (fun (hok : okSign mss) => spr.impl_spread vm vr vp mss rss pss w hm h h' hok)
  by_cases hok : okSign mss
  · have HE0 := Lib.hid (signB_yes hok)
    by_cases hpos : 0 < lenS mss rss pss
    · rw [res_yes hok hpos]
      rw [spr.spread_yes hpos] at HL
      have hrp : 0 < rss.length := by have := (ok_of hpos).1; have := sgn.pos hok; omega
      have HLN := Lib.hid (fun (W : World) (hW : Below w.heap.size w W) => spr.impl_len vr rss (wide rss) W (h.below hW) hrp (by rw [spr.first_at hrp]; exact rrow (ok_of hpos) hrp) (by have := (ok_of hpos).2.2.1; omega))
      rw [← spr.len_yes (ok_of hpos)] at HLN
      obtain ⟨d, q, cap, rfl, _, hrm⟩ := sgn.cell0 hok hm
      have hX := sgn.len3 hok
      have hY := sgn.wide3 hok
      have hp := sgn.pos hok
      have ho := ok_of hpos
      obtain ⟨A1, b1, o1, c1, R1, rfl, _, _, hA1, hc1⟩ := h.form
      obtain ⟨A2, b2, o2, c2, R2, rfl, _, _, hA2, hc2⟩ := h'.form
      obtain rfl := hA1 (by have := ho.1; omega)
      obtain rfl := hA2 (by have := ho.2.1; omega)
      have HR1 : Hid (rss.length = mss.length) := Lib.hid ho.1
      have HR2 : Hid (pss.length = wide mss) := Lib.hid ho.2.1
      have HST := Lib.hid (fun (r c : Nat) (hr : r < mss.length) (hc : c < wide mss) => step_bd hok ho hr hc)
      have HDT := Lib.hid (fun (r c : Nat) (hr : r < rss.length) (hc : c < pss.length) (W : World) (hW : ∀ a u, w.cell? a = some u → W.cell? a = some u) => spd.impl_dot (R1 r) (R2 c) rss[r] pss[c] (wide rss) W ((hc1 r hr).2.keep hW) ((hc2 c hc).2.keep hW) (rrow ho hr) (prow ho hc) (by have := ho.2.2.1; omega))
      have HC1 := Lib.hid (fun (r : Nat) (hr : r < rss.length) => (hc1 r hr).1)
      have HC2 := Lib.hid (fun (r : Nat) (hr : r < pss.length) => (hc2 r hr).1)
      have HCM := Lib.hid hrm
      have HOK := Lib.hid hok
      have HOS := Lib.hid ho
      clear hm h h' hok hpos ho hc1 hc2 hrm hA1 hA2
      have HWS : Hid (worthS mss rss pss = cum (wterm mss rss pss) (mss.length * wide mss)) := Lib.hid rfl
      have HWT := Lib.hid (fun (r c : Nat) (hc : c < wide mss) => wterm_at mss rss pss r c hc)
      generalize lenS mss rss pss = L at *
      obtain ⟨X, hXe⟩ : ∃ X, mss.length = X := ⟨_, rfl⟩
      obtain ⟨Y, hYe⟩ : ∃ Y, wide mss = Y := ⟨_, rfl⟩
      rw [hXe] at HR1 HST HCM HWS hX hp
      rw [hYe] at HR2 HST HCM HWS HWT hY
      rw [hXe] at HL HC ⊢
      go_enter Try.func51, Try.ntmps51
      go_wp2_with fail
      refine HC.out.mono ?_
      rintro e w1 ⟨rfl, rfl⟩
      rw [HE0.out]
      go_wp2_with fail
      refine (HL.out HOK.out).mono ?_
      rintro e w2 ⟨rfl, hb⟩
      have B2 := Lib.hid hb
      clear hb
      go_wp2_with fail
      go_loopw [9, 10, 11, 12, 13, 26] (fun s z0 z1 z2 z3 i wr => ∃ r : Nat, ∃ c : Int, r ≤ X ∧ i = .int .i64 r ∧ s = .int .i64 c ∧ (∃ z', z0 = z') ∧ (∃ z', z1 = z') ∧ (∃ z', z2 = z') ∧ (∃ z', z3 = z') ∧ Hid (c = cum (wterm mss rss pss) (r * Y)) ∧ ∃ n, wr = w2.drewN n) (fun _ _ _ _ _ i _ => X - (intOf i).toNat)
      case atStart => exact ⟨0, 0, Nat.zero_le _, rfl, rfl, ⟨_, rfl⟩, ⟨_, rfl⟩, ⟨_, rfl⟩, ⟨_, rfl⟩, Lib.hid (by rw [Nat.zero_mul]; rfl), by first | exact ⟨0, rfl⟩ | exact ⟨_, rfl⟩⟩
      case round =>
        obtain ⟨r, c, hr, rfl, rfl, ⟨z0', rfl⟩, ⟨z1', rfl⟩, ⟨z2', rfl⟩, ⟨z3', rfl⟩, hC, n, rfl⟩ := hrel
        by_cases hlt : r < X
        · have hkz : (r : Int) < (X : Int) := by omega
          obtain ⟨b3, o3, c3, gm, gmc⟩ := HCM.out r hlt
          have GM := Lib.hid (below_cell B2.out _ _ gm)
          have GMC := Lib.hid (fun (c : Nat) (hc : c < Y) => below_cell B2.out _ _ (gmc c hc))
          have hlt1 : r < rss.length := by have := HR1.out; omega
          have hkr : (r : Int) < (rss.length : Int) := by omega
          have g1 := below_cell B2.out _ _ (HC1.out r hlt1)
          have GM2 := GM.out
          clear gm gmc
          go_wp2_with fail
          go_loopw [9, 12, 13, 33] (fun s z0 z1 j wr => ∃ k : Nat, ∃ c : Int, k ≤ Y ∧ j = .int .i64 k ∧ s = .int .i64 c ∧ (∃ z', z0 = z') ∧ (∃ z', z1 = z') ∧ Hid (c = cum (wterm mss rss pss) (r * Y + k)) ∧ ∃ n, wr = w2.drewN n) (fun _ _ _ j _ => Y - (intOf j).toNat)
          case atStart => exact ⟨0, c, Nat.zero_le _, rfl, rfl, ⟨_, rfl⟩, ⟨_, rfl⟩, hC, n, rfl⟩
          case round =>
            clear hC
            obtain ⟨k, c, hk, rfl, rfl, ⟨z0', rfl⟩, ⟨z1', rfl⟩, hC, n, rfl⟩ := hrel
            by_cases hlk : k < Y
            · have hkk : (k : Int) < (Y : Int) := by omega
              have hlt2 : k < pss.length := by have := HR2.out; omega
              have hkp : (k : Int) < (pss.length : Int) := by omega
              have g2 := below_cell B2.out _ _ (HC2.out k hlt2)
              have g3 := GMC.out k hlk
              obtain ⟨k1, k2⟩ := HST.out r k hlt hlk
              rw [← hC.out] at k2
              have HN : Hid (c + nn mss r k * pair rss pss r k = cum (wterm mss rss pss) (r * Y + (k + 1))) := Lib.hid (by
                have hwt := HWT.out r k hlk
                rw [hC.out, ← hwt]; rfl)
              have HDD := Lib.hid (HDT.out r k hlt1 hlt2)
              rw [← pair_at hlt1 hlt2] at HDD
              generalize nn mss r k = m at *
              generalize pair rss pss r k = D at *
              go_wp2_with fail
              go_quiet ((go_at_call 94; go_must (exact ints.quiet_at_same (HDD.out _ (fun a u h => by have := below_cell B2.out a u h; simpa using this)))))
              go_wp2_with fail
              go_roundw
              case rel => exact ⟨k + 1, _, by omega, by go_num, rfl, ⟨_, rfl⟩, ⟨_, rfl⟩, HN, by first | exact ⟨_, rfl⟩ | exact ⟨_, World.drewN_drewN _ _ _⟩⟩
              case measure => simp [intOf]; omega
            · have hkk : ¬ (k : Int) < (Y : Int) := by omega
              have hky : r * Y + k = (r + 1) * Y := by rw [Nat.add_mul, Nat.one_mul]; omega
              rw [hky] at hC
              go_wp2_with fail
              go_roundw
              case rel => exact ⟨r + 1, c, by omega, by go_num, rfl, ⟨_, rfl⟩, ⟨_, rfl⟩, ⟨_, rfl⟩, ⟨_, rfl⟩, hC, by first | exact ⟨_, rfl⟩ | exact ⟨_, World.drewN_drewN _ _ _⟩⟩
              case measure => simp [intOf]; omega
        · have hkz : ¬ (r : Int) < (X : Int) := by omega
          have HE : Hid (c = worthS mss rss pss) := Lib.hid (by rw [hC.out, HWS.out, show r = X from by omega])
          go_wp2_with fail
          refine (HLN.out _ (below_drewN B2.out _)).mono ?_
          rintro e w3 ⟨rfl, n3, rfl⟩
          go_wp2_with fail
          rw [← HE.out]
          go_ret3
          exact ⟨rfl, by first | exact below_drewN B2.out _ | exact below_drewN (below_drewN B2.out _) _⟩
    · rw [res_no (fun h => hpos h.2)]
      rw [spr.spread_no hpos] at HL
      have HOK := Lib.hid hok
      obtain ⟨ma, mn, mc, rfl⟩ := hm.shape
      obtain ⟨ra, rn, rc, rfl⟩ := h.shape
      obtain ⟨pa, pn, pc, rfl⟩ := h'.shape
      clear hm h h' hpos hok
      go_enter Try.func51, Try.ntmps51
      go_wp2_with fail
      refine HC.out.mono ?_
      rintro e w1 ⟨rfl, rfl⟩
      rw [HE0.out]
      go_wp2_with fail
      refine (HL.out HOK.out).mono ?_
      rintro e w2 ⟨rfl, hb⟩
      have B2 := Lib.hid hb
      clear hb
      go_wp2_with fail
      go_ret3
      exact ⟨rfl, B2.out⟩
  · rw [res_no (fun h => hok h.1)]
    have HE0 := Lib.hid (signB_no hok)
    obtain ⟨ma, mn, mc, rfl⟩ := hm.shape
    obtain ⟨ra, rn, rc, rfl⟩ := h.shape
    obtain ⟨pa, pn, pc, rfl⟩ := h'.shape
    clear hm h h' hok HL
    go_enter Try.func51, Try.ntmps51
    go_wp2_with fail
    refine HC.out.mono ?_
    rintro e w1 ⟨rfl, rfl⟩
    rw [HE0.out]
    go_wp2_with fail
    go_ret3
    exact ⟨rfl, Below.refl _ _⟩


end Go.Proofs.Ytfkdhdiacelcjaa.spw
