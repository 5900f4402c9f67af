/- canCover of the program: lists of masks, and the search over them. -/
import Derived.Test.YtimfnhejiiagmaaCvb
import Derived.Test.YtimfnhejiiagmaaChc
namespace Go.Proofs.Ytimfnhejiiagmaa.canc
open Go.RowKit Go.Deep Go.Proofs.Ytimfnhejiiagmaa.base
open Go.Proofs.Ytimfnhejiiagmaa.cvm Go.Proofs.Ytimfnhejiiagmaa.cvb

theorem w16 : ∀ n : Int, 0 ≤ n → n < 2 ^ 16 → IntKind.u64.wrap n = n := fun n h0 h1 => IntWalk.u64_in _ (by omega)
theorem w16i : ∀ n : Int, 0 ≤ n → n < 2 ^ 16 → IntKind.i64.wrap n = n := fun n h0 h1 => IntWalk.i64_in _ (by omega)
theorem and_u {a c : Nat} (ha : a < 2 ^ 16) (hc : c < 2 ^ 16) : bits .and .u64 (c : Int) (a : Int) = ((c &&& a : Nat) : Int) := (bits_nat .u64 16 (by decide) w16 c a hc ha).1
theorem andNot_of (k : IntKind) (hk : k.bits = 64) (hw : ∀ n : Int, 0 ≤ n → n < 2 ^ 16 → k.wrap n = n) {a c : Nat} (ha : a < 2 ^ 16) : bits .andNot k (a : Int) (c : Int) = ((andNot a c : Nat) : Int) := by
  have e : (BitVec.ofInt k.bits (a : Int) &&& ~~~ BitVec.ofInt k.bits (c : Int)).toNat = andNot a c := by
    apply Nat.eq_of_testBit_eq
    intro i
    rw [andNot_bit, BitVec.testBit_toNat, BitVec.getLsbD_and, BitVec.getLsbD_not, BitVec.ofInt_natCast, BitVec.ofInt_natCast, BitVec.getLsbD_ofNat, BitVec.getLsbD_ofNat, hk]
    by_cases hi : i < 64
    · simp [hi]
    · rw [Nat.testBit_lt_two_pow (Nat.lt_of_lt_of_le ha (Nat.pow_le_pow_right (by omega) (show 16 ≤ i by omega)))]
      simp [hi]
  show k.wrap (((BitVec.ofInt k.bits (a : Int) &&& ~~~ BitVec.ofInt k.bits (c : Int)).toNat : Nat) : Int) = _
  rw [e]
  have := andNot_lt (c := c) ha
  exact hw _ (Int.natCast_nonneg _) (by omega)
/-- the slice value v holds the masks cs -/
def Us (w : World) (v : Value) (cs : List Nat) : Prop := Sl w v (cs.map fun (c : Nat) => Value.int .u64 (c : Int))
theorem Us.form {w : World} {v : Value} {cs : List Nat} (h : Us w v cs) :
    ∃ (A : Option Addr) (b o cap : Nat), v = .slice A cs.length cap ∧ cs.length ≤ cap ∧ cap ≤ maxLen ∧ (0 < cs.length → A = some ⟨b, o, none⟩) ∧
      ∀ k (hk : k < cs.length), w.cell? ⟨b, o + k, none⟩ = some (.int .u64 (cs[k] : Int)) := by
  obtain ⟨A, b, o, cap, hv, h1, h2, h3, hc⟩ := Sl.form h
  rw [List.length_map] at hv h1 h3
  exact ⟨A, b, o, cap, hv, h1, h2, h3, fun k hk => hc k _ (by simp [hk])⟩


set_option maxRecDepth 100000 in
set_option maxHeartbeats 4000000 in
theorem impl_can (cs : List Nat) (hcs : ∀ c ∈ cs, c < 2 ^ 16) (hl : cs.length ≤ 1000) : ∀ (k a : Nat) (v : Value) (w : World), k ≤ 64 → a < 2 ^ 16 → Us w v cs →
    Calls Try.prog 128 #[.int .u64 (a : Int), v, .int .i64 (k : Int)] w fun e w' => e = .returned (.bool (can cs 16 k a)) ∧ Below w.heap.size w w' := by
  intro k
  induction k with
  | zero =>
    intro a v w _ ha hv
    obtain ⟨A, b, o, cap, rfl, -, -, -, -⟩ := hv.form
    by_cases h0 : a = 0
    · subst h0
      go_enter Try.func128, Try.ntmps128
      go_wp2_with fail
      go_ret
      exact ⟨rfl, Below.refl _ _⟩
    · have hz : ((a : Int) == 0) = false := by simp; omega
      have hr : can cs 16 0 a = false := by unfold can; simpa using h0
      rw [hr, show (((0 : Nat) : Int)) = 0 from rfl]
      go_enter Try.func128, Try.ntmps128
      go_wp2_with fail
      go_ret
      exact ⟨rfl, Below.refl _ _⟩
  | succ k IH =>
    intro a v w hk ha hv
    obtain ⟨A, b, o, cap, rfl, hc1, hc2, hA, hcell⟩ := hv.form
    obtain ⟨K, hK⟩ : ∃ K : Int, ((k + 1 : Nat) : Int) = K := ⟨_, rfl⟩
    by_cases h0 : a = 0
    · subst h0
      have hr : can cs 16 (k + 1) 0 = true := by unfold can; rw [if_pos rfl]
      rw [hr, hK]
      go_enter Try.func128, Try.ntmps128
      go_wp2_with fail
      go_ret
      exact ⟨rfl, Below.refl _ _⟩
    · have hz : ((a : Int) == 0) = false := by simp; omega
      have hKz : (K == 0) = false := by simp; omega
      have hK1 : 1 ≤ K := by omega
      have hK2 : K ≤ 64 := by omega
      have hr : can cs 16 (k + 1) a = cs.any fun c => c.testBit (low a 16) && can cs 16 k (andNot a c) := by rw [can, if_neg h0]
      have hn := neg_u h0 ha
      have hlw := low_lt h0 ha
      obtain ⟨l, hle⟩ : ∃ l, low a 16 = l := ⟨_, rfl⟩
      rw [hle] at hn hlw hr
      obtain ⟨q, hq⟩ : ∃ q : Nat, 2 ^ l = q := ⟨_, rfl⟩
      rw [hq] at hn
      have hq16 : q < 2 ^ 16 := by rw [← hq]; exact Nat.pow_lt_pow_right (by omega) hlw
      have hq0 : q ≠ 0 := by rw [← hq]; exact Nat.pos_iff_ne_zero.1 (Nat.pow_pos (by omega))
      rw [hr, hK]
      obtain ⟨N, hN⟩ : ∃ N, cs.length = N := ⟨_, rfl⟩
      have HV := Lib.hid hv
      have HCE := Lib.hid hcell
      have HIH := Lib.hid IH
      have HK := Lib.hid hK
      have HKK := Lib.hid hk
      have HN := Lib.hid hN
      have HQ := Lib.hid hq
      have HCS := Lib.hid hcs
      have HA := Lib.hid hA
      have HA16 := Lib.hid ha
      have HQ16 := Lib.hid hq16
      have HQ0 := Lib.hid hq0
      rw [hN] at hl hc1 ⊢
      clear hv hcell IH hK hk hN hq hcs hA hle hlw hr hq16 hq0
      go_enter Try.func128, Try.ntmps128
      go_wp2_with fail
      go_loopw [9, 24] (fun z9 s wr => ∃ i : Nat, i ≤ N ∧ s = .int .i64 (i : Nat) ∧ (∃ z, z9 = z) ∧ Hid (Below w.heap.size w wr ∧ (cs.take i).any (fun c => c.testBit l && can cs 16 k (andNot a c)) = false)) (fun _ s _ => N - (intOf s).toNat)
      case atStart => exact ⟨0, Nat.zero_le _, rfl, ⟨_, rfl⟩, Lib.hid ⟨Below.refl _ _, by simp⟩⟩
      case round =>
        obtain ⟨i, hi, rfl, ⟨z9, rfl⟩, hB⟩ := hrel
        obtain ⟨wo, rfl⟩ : ∃ wo : World, wo = wr := ⟨_, rfl⟩
        by_cases hlt : i < N
        · have hiz : (i : Int) < (N : Int) := by omega
          obtain rfl := HA.out (by have := HN.out; omega)
          have hil : i < cs.length := by have := HN.out; omega
          have hcell := below_cell hB.out.1 _ _ (HCE.out i hil)
          obtain ⟨c, hc⟩ : ∃ c, cs[i] = c := ⟨_, rfl⟩
          rw [hc] at hcell
          have hc16 : c < 2 ^ 16 := by rw [← hc]; exact HCS.out _ (List.getElem_mem hil)
          have hand := and_u HQ16.out hc16
          rw [← HQ.out, and_low, HQ.out] at hand
          have hnot := andNot_of .u64 rfl w16 (c := c) HA16.out
          have HAN := Lib.hid (andNot_lt (c := c) HA16.out)
          have HTK : Hid ((cs.take (i + 1)).any (fun c => c.testBit l && can cs 16 k (andNot a c)) = (c.testBit l && can cs 16 k (andNot a c))) := Lib.hid (by
            rw [List.take_succ_eq_append_getElem hil, List.any_append, hB.out.2, hc]; simp)
          obtain ⟨x, hx⟩ : ∃ x, andNot a c = x := ⟨_, rfl⟩
          rw [hx] at hnot HAN HTK
          clear hc hil hx
          by_cases hb : c.testBit l = true
          · rw [hb] at HTK hand
            rw [if_pos rfl] at hand
            have hq1 : ((q : Int) != 0) = true := by have := HQ0.out; simp; omega
            have hcall := HIH.out x (.slice (some ⟨b, o, none⟩) cs.length cap) wo (by have := HKK.out; omega) HAN.out (HV.out.below hB.out.1)
            rw [HN.out, show (k : Int) = K - 1 by have := HK.out; omega] at hcall
            have HCALL := Lib.hid hcall
            clear hcall
            go_wp2_with fail
            refine HCALL.out.mono ?_
            rintro e w3 ⟨rfl, hb3⟩
            have B3 := Lib.hid (below_tr hB.out.1 hb3)
            clear hb3 HCALL
            by_cases hcn : can cs 16 k x = true
            · rw [hcn] at HTK ⊢
              go_wp2_with fail
              go_ret
              have hall : (cs.any fun c => c.testBit l && can cs 16 k (andNot a c)) = true := by
                have h5 : ((cs.take (i + 1)).any fun c => c.testBit l && can cs 16 k (andNot a c)) = true := HTK.out
                rw [List.any_eq_true] at h5 ⊢
                obtain ⟨y, hy, hyb⟩ := h5
                exact ⟨y, List.mem_of_mem_take hy, hyb⟩
              exact ⟨by rw [hall]; rfl, B3.out⟩
            · have hcn : can cs 16 k x = false := by simpa using hcn
              rw [hcn] at HTK ⊢
              go_wp2_with fail
              go_roundw
              case rel => exact ⟨i + 1, by omega, by go_num, ⟨_, rfl⟩, B3.out, HTK.out⟩
              case measure => simp [intOf]; omega
          · have hb : c.testBit l = false := by simpa using hb
            rw [hb] at HTK hand
            have hand : bits .and .u64 (c : Int) (q : Int) = 0 := by simpa using hand
            have hq1 : ((0 : Int) != 0) = false := rfl
            go_wp2_with fail
            go_roundw
            case rel => exact ⟨i + 1, by omega, by go_num, ⟨_, rfl⟩, hB.out.1, HTK.out⟩
            case measure => simp [intOf]; omega
        · have hiz : ¬ (i : Int) < (N : Int) := by omega
          obtain rfl : i = N := by omega
          have HF := Lib.hid hB.out.2
          rw [List.take_of_length_le (by have := HN.out; omega)] at HF
          go_wp2_with fail
          go_ret
          exact ⟨by rw [HF.out]; rfl, hB.out.1⟩

end Go.Proofs.Ytimfnhejiiagmaa.canc
