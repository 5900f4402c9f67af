import Derived.Test.YtlbigpkajfdkjaaDoorFmt
import Derived.Test.YtlbigpkajfdkjaaDoorParse
namespace Go.Proofs.YtlbigpkajfdkjaaDoor.read
open Go.RowKit

set_option maxHeartbeats 1000000 in
theorem read_neg (s : ByteArray) (w : World) (hs : s.size ≤ maxLen) (h1 : 1 < s.size) (h2 : s[0] = 45) :
    Calls Tryd.prog 29 #[.string s] w fun e w' => e = .returned (.tuple #[.int .i64 ((parse.specP s.data.toList).getD 0), .bool (parse.specP s.data.toList).isSome]) ∧ ∃ q, w' = w.drewN q := by
  unfold maxLen at hs
  have hhead : Hid (s.data.toList.headD 0 = 45) := Lib.hid (by rw [← h2, parse.head_data s (by omega)])
  have g1 : (s[0] == 45) = true := by simp [h2]
  have g2 : ((s[0].toNat : Int) == 45) = true := by simp [h2]
  have h0 : 0 < s.size := by omega
  have hz : s.size - 1 = (s.extract 1 s.size).size := by rw [ByteArray.size_extract]; omega
  have hx := parse.data_extract1 s
  have HZ := Lib.hid hz
  have HX := Lib.hid hx
  clear h2 hz hx
  go_enter Tryd.func29, Tryd.ntmps29
  go_wp2_with fail
  generalize hT : s.extract 1 s.size = t at *
  clear hT
  have hB : Hid (parse.body s.data.toList = t.data.toList) := Lib.hid (by rw [HX.out]; exact parse.body_neg (by rw [parse.len_data]; exact h1) hhead.out)
  by_cases h6 : 1 ≤ t.size ∧ t.size ≤ 6
  · obtain ⟨h61, h66⟩ := h6
    (with_reducible refine (fmt.in_yes _ _ _ _ (by have := HZ.out; omega) (by have := HZ.out; omega)).mono ?_)
    rintro e w' ⟨rfl, rfl⟩
    have hz' : (t.size : Int) < s.size := by have := HZ.out; omega
    go_wp2_with fail
    go_loop [5, 6] (fun n i => ∃ (k m : Nat) (a : Int), k ≤ t.size ∧ i = .int .i64 k ∧ n = .int .i64 a ∧ Hid (Lib.decFrom 0 ((t.data.toList).take k) = some m ∧ m < 10 ^ k ∧ a = m)) (fun _ i => t.size - (intOf i).toNat)
    case atStart => exact ⟨0, 0, 0, by omega, rfl, rfl, Lib.hid ⟨rfl, by simp, rfl⟩⟩
    case round =>
      obtain ⟨k, m, a, hk, rfl, rfl, hd⟩ := hrel
      have hm6 : a < 1000000 := by have := parse.pow_le (show k ≤ 6 by omega); have := hd.out; omega
      have hm0 : 0 ≤ a := by have := hd.out; omega
      by_cases hlt : k < t.size
      · have hm5 : 10 * a < 1000000 := by
          have := parse.pow_le (show k + 1 ≤ 6 by omega); rw [Nat.pow_succ] at this; have := hd.out; omega
        have hb : Hid ((t.data.toList)[k]? = some (t)[k]) := Lib.hid (parse.at_all _ _ hlt)
        go_wp2_with fail
        · go_ret2
          exact ⟨by rw [parse.specP_dec hB.out (parse.step_no hd.out.1 hb.out (by omega))]; rfl, 0, rfl⟩
        · have hd1 : 48 ≤ t[k].toNat := by omega
          have hd2 : t[k].toNat ≤ 57 := by omega
          have hgo : (((t[k].toNat - 48 : Nat) : Int) = (t[k].toNat : Int) - 48) := by omega
          go_round
          case rel => exact ⟨k + 1, _, _, by omega, by go_num, rfl, Lib.hid ⟨parse.step_yes hd.out.1 hb.out hd1 hd2, by have := hd.out.2.1; rw [Nat.pow_succ]; omega, by have := hd.out.2.2; omega⟩⟩
          case measure => simp [intOf]; omega
        · go_ret2
          exact ⟨by rw [parse.specP_dec hB.out (parse.step_no hd.out.1 hb.out (by omega))]; rfl, 0, rfl⟩
      · have hk2 : k = t.size := by omega
        have hfull : Hid (Lib.decFrom 0 (t.data.toList) = some m) := Lib.hid (by
          have h := hd.out.1
          rwa [List.take_of_length_le (by rw [parse.len_data]; omega)] at h)
        have hsg : Hid ((if (t.data.toList).length < s.data.toList.length then -(m : Int) else m) = -a) := Lib.hid (by have := hd.out.2.2; subst this; exact if_pos (by have := HZ.out; rw [parse.len_data, parse.len_data]; omega))
        have HL1 : Hid (1 ≤ (t.data.toList).length) := Lib.hid (by rw [parse.len_data]; omega)
        have HL2 : Hid ((t.data.toList).length ≤ 6) := Lib.hid (by rw [parse.len_data]; omega)
        have hma := Lib.hid hd.out.2.2
        clear hk2 hd
        by_cases he : Lib.itoa (-a) = s.data.toList
        · have HE := Lib.hid (parse.specP_ok hB.out HL1.out HL2.out hfull.out hsg.out he)
          have g3 := parse.beq_yes he
          have g4 := parse.beq_yes' he
          clear he
          go_wp2_with ((go_at_call 25; refine (num.l1Num_any _ _ (by omega) (by omega)).mono ?_; rintro e w' ⟨rfl, q, rfl⟩))
          go_ret2
          exact ⟨by rw [HE.out]; rfl, _, rfl⟩
        · have HE := Lib.hid (parse.specP_no hB.out HL1.out HL2.out hfull.out hsg.out he)
          have g3 := parse.beq_no he
          have g4 := parse.beq_no' he
          clear he
          go_wp2_with ((go_at_call 25; refine (num.l1Num_any _ _ (by omega) (by omega)).mono ?_; rintro e w' ⟨rfl, q, rfl⟩))
          go_ret2
          exact ⟨by rw [HE.out]; rfl, _, rfl⟩
  · have HE := Lib.hid (parse.specP_len hB.out (by rw [parse.len_data]; exact h6))
    have H6 : Hid (¬ (1 ≤ t.size ∧ t.size ≤ 6)) := Lib.hid h6
    clear h6
    (with_reducible refine (fmt.in_no _ _ _ _ (by have := HZ.out; have := H6.out; omega)).mono ?_)
    rintro e w' ⟨rfl, rfl⟩
    have hz' : (t.size : Int) < s.size := by have := HZ.out; omega
    go_wp2_with fail
    go_ret2
    exact ⟨by rw [HE.out]; rfl, 0, rfl⟩

set_option maxHeartbeats 1000000 in
theorem read_pos (s : ByteArray) (w : World) (hs : s.size ≤ maxLen) (h1 : 1 < s.size) (h2 : ¬ s[0] = 45) :
    Calls Tryd.prog 29 #[.string s] w fun e w' => e = .returned (.tuple #[.int .i64 ((parse.specP s.data.toList).getD 0), .bool (parse.specP s.data.toList).isSome]) ∧ ∃ q, w' = w.drewN q := by
  unfold maxLen at hs
  have hhead : Hid (¬ s.data.toList.headD 0 = 45) := Lib.hid (by rw [parse.head_data s (by omega)]; exact h2)
  have g1 : (s[0] == 45) = false := by simp [h2]
  have g2 : ((s[0].toNat : Int) == 45) = false := parse.int_ne h2
  have h0 : 0 < s.size := by omega
  clear h2
  go_enter Tryd.func29, Tryd.ntmps29
  go_wp2_with fail
  have hB : Hid (parse.body s.data.toList = s.data.toList) := Lib.hid (parse.body_pos (fun h => hhead.out h.2))
  by_cases h6 : 1 ≤ s.size ∧ s.size ≤ 6
  · obtain ⟨h61, h66⟩ := h6
    (with_reducible refine (fmt.in_yes _ _ _ _ (by omega) (by omega)).mono ?_)
    rintro e w' ⟨rfl, rfl⟩
    go_wp2_with fail
    go_loop [5, 6] (fun n i => ∃ (k m : Nat) (a : Int), k ≤ s.size ∧ i = .int .i64 k ∧ n = .int .i64 a ∧ Hid (Lib.decFrom 0 ((s.data.toList).take k) = some m ∧ m < 10 ^ k ∧ a = m)) (fun _ i => s.size - (intOf i).toNat)
    case atStart => exact ⟨0, 0, 0, by omega, rfl, rfl, Lib.hid ⟨rfl, by simp, rfl⟩⟩
    case round =>
      obtain ⟨k, m, a, hk, rfl, rfl, hd⟩ := hrel
      have hm6 : a < 1000000 := by have := parse.pow_le (show k ≤ 6 by omega); have := hd.out; omega
      have hm0 : 0 ≤ a := by have := hd.out; omega
      by_cases hlt : k < s.size
      · have hm5 : 10 * a < 1000000 := by
          have := parse.pow_le (show k + 1 ≤ 6 by omega); rw [Nat.pow_succ] at this; have := hd.out; omega
        have hb : Hid ((s.data.toList)[k]? = some (s)[k]) := Lib.hid (parse.at_all _ _ hlt)
        go_wp2_with fail
        · go_ret2
          exact ⟨by rw [parse.specP_dec hB.out (parse.step_no hd.out.1 hb.out (by omega))]; rfl, 0, rfl⟩
        · have hd1 : 48 ≤ s[k].toNat := by omega
          have hd2 : s[k].toNat ≤ 57 := by omega
          have hgo : (((s[k].toNat - 48 : Nat) : Int) = (s[k].toNat : Int) - 48) := by omega
          go_round
          case rel => exact ⟨k + 1, _, _, by omega, by go_num, rfl, Lib.hid ⟨parse.step_yes hd.out.1 hb.out hd1 hd2, by have := hd.out.2.1; rw [Nat.pow_succ]; omega, by have := hd.out.2.2; omega⟩⟩
          case measure => simp [intOf]; omega
        · go_ret2
          exact ⟨by rw [parse.specP_dec hB.out (parse.step_no hd.out.1 hb.out (by omega))]; rfl, 0, rfl⟩
      · have hk2 : k = s.size := by omega
        have hfull : Hid (Lib.decFrom 0 (s.data.toList) = some m) := Lib.hid (by
          have h := hd.out.1
          rwa [List.take_of_length_le (by rw [parse.len_data]; omega)] at h)
        have hsg : Hid ((if (s.data.toList).length < s.data.toList.length then -(m : Int) else m) = a) := Lib.hid (by have := hd.out.2.2; subst this; exact if_neg (by omega))
        have HL1 : Hid (1 ≤ (s.data.toList).length) := Lib.hid (by rw [parse.len_data]; omega)
        have HL2 : Hid ((s.data.toList).length ≤ 6) := Lib.hid (by rw [parse.len_data]; omega)
        have hma := Lib.hid hd.out.2.2
        clear hk2 hd
        by_cases he : Lib.itoa (a) = s.data.toList
        · have HE := Lib.hid (parse.specP_ok hB.out HL1.out HL2.out hfull.out hsg.out he)
          have g3 := parse.beq_yes he
          have g4 := parse.beq_yes' he
          clear he
          go_wp2_with ((go_at_call 25; refine (num.l1Num_any _ _ (by omega) (by omega)).mono ?_; rintro e w' ⟨rfl, q, rfl⟩))
          go_ret2
          exact ⟨by rw [HE.out]; rfl, _, rfl⟩
        · have HE := Lib.hid (parse.specP_no hB.out HL1.out HL2.out hfull.out hsg.out he)
          have g3 := parse.beq_no he
          have g4 := parse.beq_no' he
          clear he
          go_wp2_with ((go_at_call 25; refine (num.l1Num_any _ _ (by omega) (by omega)).mono ?_; rintro e w' ⟨rfl, q, rfl⟩))
          go_ret2
          exact ⟨by rw [HE.out]; rfl, _, rfl⟩
  · have HE := Lib.hid (parse.specP_len hB.out (by rw [parse.len_data]; exact h6))
    have H6 : Hid (¬ (1 ≤ s.size ∧ s.size ≤ 6)) := Lib.hid h6
    clear h6
    (with_reducible refine (fmt.in_no _ _ _ _ (by have := H6.out; omega)).mono ?_)
    rintro e w' ⟨rfl, rfl⟩
    go_wp2_with fail
    go_ret2
    exact ⟨by rw [HE.out]; rfl, 0, rfl⟩

set_option maxHeartbeats 1000000 in
theorem read_short (s : ByteArray) (w : World) (hs : s.size ≤ maxLen) (h1 : s.size ≤ 1) :
    Calls Tryd.prog 29 #[.string s] w fun e w' => e = .returned (.tuple #[.int .i64 ((parse.specP s.data.toList).getD 0), .bool (parse.specP s.data.toList).isSome]) ∧ ∃ q, w' = w.drewN q := by
  unfold maxLen at hs
  go_enter Tryd.func29, Tryd.ntmps29
  go_wp2_with fail
  have hB : Hid (parse.body s.data.toList = s.data.toList) := Lib.hid (parse.body_pos (fun h => by rw [parse.len_data] at h; omega))
  by_cases h6 : 1 ≤ s.size ∧ s.size ≤ 6
  · obtain ⟨h61, h66⟩ := h6
    (with_reducible refine (fmt.in_yes _ _ _ _ (by omega) (by omega)).mono ?_)
    rintro e w' ⟨rfl, rfl⟩
    go_wp2_with fail
    go_loop [5, 6] (fun n i => ∃ (k m : Nat) (a : Int), k ≤ s.size ∧ i = .int .i64 k ∧ n = .int .i64 a ∧ Hid (Lib.decFrom 0 ((s.data.toList).take k) = some m ∧ m < 10 ^ k ∧ a = m)) (fun _ i => s.size - (intOf i).toNat)
    case atStart => exact ⟨0, 0, 0, by omega, rfl, rfl, Lib.hid ⟨rfl, by simp, rfl⟩⟩
    case round =>
      obtain ⟨k, m, a, hk, rfl, rfl, hd⟩ := hrel
      have hm6 : a < 1000000 := by have := parse.pow_le (show k ≤ 6 by omega); have := hd.out; omega
      have hm0 : 0 ≤ a := by have := hd.out; omega
      by_cases hlt : k < s.size
      · have hm5 : 10 * a < 1000000 := by
          have := parse.pow_le (show k + 1 ≤ 6 by omega); rw [Nat.pow_succ] at this; have := hd.out; omega
        have hb : Hid ((s.data.toList)[k]? = some (s)[k]) := Lib.hid (parse.at_all _ _ hlt)
        go_wp2_with fail
        · go_ret2
          exact ⟨by rw [parse.specP_dec hB.out (parse.step_no hd.out.1 hb.out (by omega))]; rfl, 0, rfl⟩
        · have hd1 : 48 ≤ s[k].toNat := by omega
          have hd2 : s[k].toNat ≤ 57 := by omega
          have hgo : (((s[k].toNat - 48 : Nat) : Int) = (s[k].toNat : Int) - 48) := by omega
          go_round
          case rel => exact ⟨k + 1, _, _, by omega, by go_num, rfl, Lib.hid ⟨parse.step_yes hd.out.1 hb.out hd1 hd2, by have := hd.out.2.1; rw [Nat.pow_succ]; omega, by have := hd.out.2.2; omega⟩⟩
          case measure => simp [intOf]; omega
        · go_ret2
          exact ⟨by rw [parse.specP_dec hB.out (parse.step_no hd.out.1 hb.out (by omega))]; rfl, 0, rfl⟩
      · have hk2 : k = s.size := by omega
        have hfull : Hid (Lib.decFrom 0 (s.data.toList) = some m) := Lib.hid (by
          have h := hd.out.1
          rwa [List.take_of_length_le (by rw [parse.len_data]; omega)] at h)
        have hsg : Hid ((if (s.data.toList).length < s.data.toList.length then -(m : Int) else m) = a) := Lib.hid (by have := hd.out.2.2; subst this; exact if_neg (by omega))
        have HL1 : Hid (1 ≤ (s.data.toList).length) := Lib.hid (by rw [parse.len_data]; omega)
        have HL2 : Hid ((s.data.toList).length ≤ 6) := Lib.hid (by rw [parse.len_data]; omega)
        have hma := Lib.hid hd.out.2.2
        clear hk2 hd
        by_cases he : Lib.itoa (a) = s.data.toList
        · have HE := Lib.hid (parse.specP_ok hB.out HL1.out HL2.out hfull.out hsg.out he)
          have g3 := parse.beq_yes he
          have g4 := parse.beq_yes' he
          clear he
          go_wp2_with ((go_at_call 25; refine (num.l1Num_any _ _ (by omega) (by omega)).mono ?_; rintro e w' ⟨rfl, q, rfl⟩))
          go_ret2
          exact ⟨by rw [HE.out]; rfl, _, rfl⟩
        · have HE := Lib.hid (parse.specP_no hB.out HL1.out HL2.out hfull.out hsg.out he)
          have g3 := parse.beq_no he
          have g4 := parse.beq_no' he
          clear he
          go_wp2_with ((go_at_call 25; refine (num.l1Num_any _ _ (by omega) (by omega)).mono ?_; rintro e w' ⟨rfl, q, rfl⟩))
          go_ret2
          exact ⟨by rw [HE.out]; rfl, _, rfl⟩
  · have HE := Lib.hid (parse.specP_len hB.out (by rw [parse.len_data]; exact h6))
    have H6 : Hid (¬ (1 ≤ s.size ∧ s.size ≤ 6)) := Lib.hid h6
    clear h6
    (with_reducible refine (fmt.in_no _ _ _ _ (by have := H6.out; omega)).mono ?_)
    rintro e w' ⟨rfl, rfl⟩
    go_wp2_with fail
    go_ret2
    exact ⟨by rw [HE.out]; rfl, 0, rfl⟩

theorem read_any (s : ByteArray) (w : World) (hs : s.size ≤ maxLen) :
    Calls Tryd.prog 29 #[.string s] w fun e w' => e = .returned (.tuple #[.int .i64 ((parse.specP s.data.toList).getD 0), .bool (parse.specP s.data.toList).isSome]) ∧ ∃ q, w' = w.drewN q := by
  by_cases h1 : 1 < s.size
  · by_cases h2 : s[0] = 45
    · exact read_neg s w hs h1 h2
    · exact read_pos s w hs h1 h2
  · exact read_short s w hs (by omega)
end Go.Proofs.YtlbigpkajfdkjaaDoor.read
