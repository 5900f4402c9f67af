/- What JoinStrings' law calls: toStringS, szStringS, l1Stands, canJoin; what comes of parts joined. -/
import Derived.Test.YtfcoodhilpbehaaStb
namespace Go.Proofs.Ytfcoodhilpbehaa.ste
open Go.RowKit Go.Deep Go.Proofs.Ytfcoodhilpbehaa.base
open Go.Proofs.Ytfcoodhilpbehaa.sta Go.Proofs.Ytfcoodhilpbehaa.stb

/-- the sum of the first parts' lengths -/
def sm (ss : List ByteArray) : Nat → Nat
  | 0 => 0
  | k + 1 => sm ss k + (ss.getD k ByteArray.empty).size
theorem sm_succ {ss : List ByteArray} {k : Nat} (h : k < ss.length) : sm ss (k + 1) = sm ss k + ss[k].size := by simp [sm, List.getD, h]
theorem sm_le (ss : List ByteArray) (k : Nat) : ∀ d, sm ss k ≤ sm ss (k + d)
  | 0 => Nat.le_refl _
  | d + 1 => Nat.le_trans (sm_le ss k d) (Nat.le_add_right _ _)
theorem sm_mono (ss : List ByteArray) {j k : Nat} (h : j ≤ k) : sm ss j ≤ sm ss k := by
  have := sm_le ss j (k - j)
  rwa [show j + (k - j) = k by omega] at this
/-- what has been joined behind k parts -/
def jo (ss : List ByteArray) (b : UInt8) : Nat → List UInt8
  | 0 => []
  | k + 1 => (if k = 0 then [] else jo ss b k ++ [b]) ++ (ss.getD k ByteArray.empty).data.toList
theorem jo_len (ss : List ByteArray) (b : UInt8) : ∀ k, (jo ss b (k + 1)).length = k + sm ss (k + 1)
  | 0 => by
    rw [jo, if_pos rfl, List.nil_append, len_data]
    rw [Nat.zero_add]
    exact (Nat.zero_add _).symm
  | k + 1 => by
    have := jo_len ss b k
    rw [jo, if_neg (by omega), List.length_append, List.length_append, this, len_data]
    show _ = _ + (sm ss (k + 1) + _)
    simp only [List.length_cons, List.length_nil]
    omega
/-- a byte stands in a text -/
def stands (s : ByteArray) (b : UInt8) : Prop := ∃ k : Nat, s.data.toList[k]? = some b
/-- the parts can be joined -/
def okC (ss : List ByteArray) (b : UInt8) : Prop := (∀ k (h : k < ss.length), ¬ stands ss[k] b) ∧ (ss.length : Int) - 1 + sm ss ss.length ≤ 4000
open Classical in
noncomputable def okB (ss : List ByteArray) (b : UInt8) : Bool := if okC ss b then true else false
theorem okB_yes {ss : List ByteArray} {b : UInt8} (h : okC ss b) : okB ss b = true := if_pos h
theorem okB_no {ss : List ByteArray} {b : UInt8} (h : ¬ okC ss b) : okB ss b = false := if_neg h
open Classical in
noncomputable def stB (s : ByteArray) (b : UInt8) : Bool := if stands s b then true else false
theorem stB_yes {s : ByteArray} {b : UInt8} (h : stands s b) : stB s b = true := if_pos h
theorem stB_no {s : ByteArray} {b : UInt8} (h : ¬ stands s b) : stB s b = false := if_neg h
theorem stands_at {s : ByteArray} {b : UInt8} {k : Nat} (h : k < s.size) (e : s[k] = b) : stands s b := ⟨k, by rw [at_all s k h, e]⟩
theorem not_stands {s : ByteArray} {b : UInt8} (h : ∀ k (hk : k < s.size), s[k] ≠ b) : ¬ stands s b := by
  rintro ⟨k, hk⟩
  have hlt : k < s.size := by
    rcases Nat.lt_or_ge k s.size with g | g
    · exact g
    · rw [List.getElem?_eq_none (by rw [len_data]; exact g)] at hk; cases hk
  rw [at_all s k hlt] at hk
  injection hk with hk
  exact h k hlt hk
theorem ret_b {a b : Bool} (h : a = b) : Ending.returned (.bool a) = .returned (.bool b) := by rw [h]


set_option maxHeartbeats 400000 in
theorem l1stands (s : ByteArray) (b : UInt8) (w : World) (hs : s.size ≤ maxLen) :
    Calls Try.prog 20 #[.string s, .int .u8 b.toNat] w fun e w' => e = .returned (.bool (stB s b)) ∧ w = w' := by
  unfold maxLen at hs
  go_enter Try.func20, Try.ntmps20
  go_wp2_with fail
  go_loop [5] (fun i => ∃ k : Nat, k ≤ s.size ∧ i = .int .i64 k ∧ Hid (∀ j (h : j < s.size), j < k → s[j] ≠ b)) (fun i => s.size - (intOf i).toNat)
  case atStart => exact ⟨0, Nat.zero_le _, rfl, Lib.hid (fun j _ hj => by omega)⟩
  case round =>
    obtain ⟨k, hk, rfl, hn⟩ := hrel
    by_cases hlt : k < s.size
    · by_cases hb : s[k] = b
      · have hn0 : (((s[k]).toNat : Int) == (b.toNat : Int)) = true := by simp [hb]
        have HB := Lib.hid (stB_yes (stands_at hlt hb))
        clear hb
        go_wp2_with fail
        go_ret
        exact ⟨ret_b HB.out.symm, rfl⟩
      · have hn0 : (((s[k]).toNat : Int) == (b.toNat : Int)) = false := by
          rw [beq_eq_false_iff_ne]
          intro e
          exact hb (UInt8.toNat_inj.1 (by omega))
        have HB := Lib.hid hb
        clear hb
        go_wp2_with fail
        go_round
        case rel => exact ⟨k + 1, by omega, by go_num, Lib.hid (fun j h hj => by
          rcases Nat.lt_or_ge j k with g | g
          · exact hn.out j h g
          · obtain rfl : j = k := by omega
            exact HB.out)⟩
        case measure => simp [intOf]; omega
    · have HB := Lib.hid (stB_no (not_stands (fun j h => hn.out j h (by omega))))
      go_wp2_with fail
      go_ret
      exact ⟨ret_b HB.out.symm, rfl⟩






end Go.Proofs.Ytfcoodhilpbehaa.ste
