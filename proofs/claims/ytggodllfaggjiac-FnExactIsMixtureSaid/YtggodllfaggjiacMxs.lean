/- MixtureBox: which shares are taken; l3Shares of the model. -/
import Derived.Test.YtggodllfaggjiacPlays
namespace Go.Proofs.Ytggodllfaggjiac.mxb
open Go.RowKit Go.Deep Go.Proofs.Ytggodllfaggjiac.base
open Go.Proofs.Ytggodllfaggjiac.ints (ret_int infoInt infoInts)
open Go.Proofs.Ytggodllfaggjiac.val (okSizes ret_b)

def inR (ss : List Int) : Prop := ∀ k (h : k < ss.length), 0 ≤ ss[k] ∧ ss[k] ≤ 1000
def okShares (x y : Int) (ss : List Int) : Prop := okSizes x y ∧ inR ss ∧ ss.length = 2 ^ (x + y).toNat ∧ 1 ≤ ss.sum ∧ ss.sum ≤ 1000
open Classical in
noncomputable def sharesB (x y : Int) (ss : List Int) : Bool := decide (okShares x y ss)
theorem sharesB_yes {x y : Int} {ss : List Int} (h : okShares x y ss) : sharesB x y ss = true := by unfold sharesB; simp [h]
theorem sharesB_no {x y : Int} {ss : List Int} (h : ¬ okShares x y ss) : sharesB x y ss = false := by unfold sharesB; simp [h]
theorem take_sum {ss : List Int} {k : Nat} (h : k < ss.length) : (ss.take (k + 1)).sum = (ss.take k).sum + ss[k] := by
  rw [← List.take_append_getElem h, List.sum_append]; simp
theorem sum_bd {ss : List Int} (k : Nat) (hk : k ≤ ss.length) (h : ∀ j (g : j < ss.length), j < k → 0 ≤ ss[j] ∧ ss[j] ≤ 1000) : 0 ≤ (ss.take k).sum ∧ (ss.take k).sum ≤ 1000 * k := by
  induction k with
  | zero => simp
  | succ k ih =>
    have a := ih (by omega) (fun j g hj => h j g (by omega))
    have b := h k (by omega) (by omega)
    rw [take_sum (by omega)]
    omega


set_option maxRecDepth 20000 in
set_option maxHeartbeats 4000000 in
theorem l3shares (x y : Int) (v : Value) (ss : List Int) (w : World) (h : Ints w v ss) (hn : ss.length ≤ 1048576) :
    Calls Try.prog 54 #[.int .i64 x, .int .i64 y, v] w fun e w' => e = .returned (.bool (sharesB x y ss)) ∧ w = w' := by
  obtain ⟨A, b, o, cap, rfl, hcap, hmax, hA, hc⟩ := h.form
  have HNL := Lib.hid hn
  have hm : (ss.length : Int) ≤ 9223372036854775807 := by omega
  clear h hmax hcap hn
  go_enter Try.func54, Try.ntmps54
  go_wp2_with fail
  go_loopw [7, 8] (fun sm i wr => ∃ k : Nat, k ≤ ss.length ∧ i = .int .i64 k ∧ sm = .int .i64 (ss.take k).sum ∧ Hid (∀ j (g : j < ss.length), j < k → 0 ≤ ss[j] ∧ ss[j] ≤ 1000) ∧ w = wr) (fun _ i _ => ss.length - (intOf i).toNat)
  case atStart => exact ⟨0, Nat.zero_le _, rfl, rfl, fun j _ hj => by omega, rfl⟩
  case round =>
    obtain ⟨k, hk, rfl, rfl, hH, rfl⟩ := hrel
    by_cases hlt : k < ss.length
    · have hkz : (k : Int) < (ss.length : Int) := by omega
      have HLT := Lib.hid hlt
      obtain rfl := hA (by omega)
      have g0 := hc k hlt
      clear hc hA
      by_cases hin : 0 ≤ ss[k] ∧ ss[k] ≤ 1000
      · have HI := Lib.hid (fun W => val.in_yes ss[k] 0 1000 W hin.1 hin.2)
        have HS : Hid ((ss.take (k + 1)).sum = (ss.take k).sum + ss[k]) := Lib.hid (take_sum hlt)
        have HH2 : Hid (∀ j (g : j < ss.length), j < k + 1 → 0 ≤ ss[j] ∧ ss[j] ≤ 1000) := Lib.hid (fun j g hj => by
          by_cases e : j = k
          · subst e; exact hin
          · exact hH.out j g (by omega))
        have hbd := sum_bd k (by omega) hH.out
        have kw : IntKind.i64.wrap ((ss.take k).sum + ss[k]) = (ss.take k).sum + ss[k] := IntWalk.i64_in _ (by have := HNL.out; omega)
        clear hbd hin hH
        generalize ss[k] = n at *
        generalize (ss.take k).sum = m at *
        go_wp2_with fail
        refine (HI.out _).mono ?_
        rintro e w' ⟨rfl, rfl⟩
        go_wp2_with fail
        clear kw g0
        go_roundw
        case rel => exact ⟨k + 1, by have := HLT.out; omega, by go_num, by rw [HS.out], HH2, by first | rfl | trivial⟩
        case measure => have := HLT.out; simp [intOf]; omega
      · have HI := Lib.hid (fun W => val.in_no ss[k] 0 1000 W (by omega))
        have HE := Lib.hid (sharesB_no (x := x) (y := y) (ss := ss) (fun h => hin (h.2.1 k hlt)))
        clear hin hH
        generalize ss[k] = n at *
        go_wp2_with fail
        refine (HI.out _).mono ?_
        rintro e w' ⟨rfl, rfl⟩
        go_wp2_with fail
        go_ret
        exact ⟨ret_b HE.out.symm, rfl⟩
    · have hkz : ¬ (k : Int) < (ss.length : Int) := by omega
      obtain rfl : k = ss.length := by omega
      have HR : Hid (inR ss) := Lib.hid (fun j g => hH.out j g g)
      rw [List.take_length]
      clear hc hA hH
      by_cases hs : okSizes x y
      · have HSZ := Lib.hid (fun W => val.sizes_yes x y W hs)
        have HOS := Lib.hid hs
        obtain ⟨n, hnn⟩ : ∃ n : Nat, x + y = n := ⟨(x + y).toNat, by have := hs.1.1; have := hs.2.1; omega⟩
        have hn6 : n ≤ 6 := by have := hs.1.2; have := hs.2.2; omega
        have kxy : IntKind.i64.wrap (x + y) = n := by rw [hnn]; exact IntWalk.i64_in _ (by omega)
        obtain ⟨c, hcc⟩ : ∃ c : Nat, 2 ^ n = c := ⟨_, rfl⟩
        have h64 : c ≤ 64 := by rw [← hcc]; exact plays.two_pow hn6
        have hw : wrap64 (2 ^ n) = (c : Int) := by
          have e : (2 : Int) ^ n = (c : Int) := by rw [← hcc]; simp
          rw [e]
          exact IntWalk.wrap64_in _ (by omega)
        have HCE : Hid (2 ^ (x + y).toNat = c) := Lib.hid (by rw [hnn, Int.toNat_natCast, hcc])
        clear hs hcc
        by_cases hl : (ss.length : Int) = (c : Int)
        · have dl : ((ss.length : Int) == (c : Int)) = true := by simp [hl]
          have HL : Hid (ss.length = 2 ^ (x + y).toNat) := Lib.hid (by rw [HCE.out]; omega)
          by_cases hin : 1 ≤ ss.sum ∧ ss.sum ≤ 1000
          · have HI := Lib.hid (fun W => val.in_yes ss.sum 1 1000 W hin.1 hin.2)
            have HE := Lib.hid (sharesB_yes (x := x) (y := y) (ss := ss) ⟨HOS.out, HR.out, HL.out, hin⟩)
            clear hin hl hnn
            generalize ss.sum = m at *
            go_wp2_with fail
            refine (HSZ.out _).mono ?_
            rintro e w' ⟨rfl, rfl⟩
            go_wp2_with fail
            refine (HI.out _).mono ?_
            rintro e w' ⟨rfl, rfl⟩
            go_wp2_with fail
            go_ret
            exact ⟨ret_b HE.out.symm, rfl⟩
          · have HI := Lib.hid (fun W => val.in_no ss.sum 1 1000 W (by omega))
            have HE := Lib.hid (sharesB_no (x := x) (y := y) (ss := ss) (fun h => hin h.2.2.2))
            clear hin hl hnn
            generalize ss.sum = m at *
            go_wp2_with fail
            refine (HSZ.out _).mono ?_
            rintro e w' ⟨rfl, rfl⟩
            go_wp2_with fail
            refine (HI.out _).mono ?_
            rintro e w' ⟨rfl, rfl⟩
            go_wp2_with fail
            go_ret
            exact ⟨ret_b HE.out.symm, rfl⟩
        · have dl : ((ss.length : Int) == (c : Int)) = false := by simp; omega
          have HE := Lib.hid (sharesB_no (x := x) (y := y) (ss := ss) (fun h => hl (by have := h.2.2.1; rw [HCE.out] at this; omega)))
          clear hl hnn
          generalize ss.sum = m at *
          go_wp2_with fail
          refine (HSZ.out _).mono ?_
          rintro e w' ⟨rfl, rfl⟩
          go_wp2_with fail
          go_ret
          exact ⟨ret_b HE.out.symm, rfl⟩
      · have HSZ := Lib.hid (fun W => val.sizes_no x y W hs)
        have HE := Lib.hid (sharesB_no (x := x) (y := y) (ss := ss) (fun h => hs h.1))
        clear hs
        generalize ss.sum = m at *
        go_wp2_with fail
        refine (HSZ.out _).mono ?_
        rintro e w' ⟨rfl, rfl⟩
        go_wp2_with fail
        go_ret
        exact ⟨ret_b HE.out.symm, rfl⟩


end Go.Proofs.Ytggodllfaggjiac.mxb
