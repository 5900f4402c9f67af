/- JoinStrings of the program: canJoin, strings.Join off the shelf. -/
import Derived.Test.YtfcoodhilpbehaaSte
import Derived.Test.YtfcoodhilpbehaaShelf
import Derived.WalkMore
import Derived.Deep.LoopGhost
namespace Go.Proofs.Ytfcoodhilpbehaa.stf
open Go.RowKit Go.Deep Go.Proofs.Ytfcoodhilpbehaa.base
open Go.Proofs.Ytfcoodhilpbehaa.sta Go.Proofs.Ytfcoodhilpbehaa.stb Go.Proofs.Ytfcoodhilpbehaa.ste

theorem extra : Builder.Extra Try.prog Try.lays156_ren where
  sizeBuilder := by kernel_rfl
  liesBuilder := by kernel_rfl
  t5 := Try.underlying5
  a5 := Try.isAgg5
  z5 := Try.sizeOf5
  v5 := Try.zeroValue5
  infoByte := by kernel_rfl
  cellsByte := by kernel_rfl
  sizeByte := by kernel_rfl
  neB5 := by decide

theorem joinTail_snoc (sep : List UInt8) (r : List (List UInt8)) (y : List UInt8) : Lib.joinTail sep (r ++ [y]) = Lib.joinTail sep r ++ sep ++ y := by simp [Lib.joinTail]
/-- what jo gathers is the parts joined -/
theorem jo_join (ss : List ByteArray) (b : UInt8) : ∀ k, k < ss.length → jo ss b (k + 1) = Lib.join ((ss.take (k + 1)).map (·.data.toList)) [b]
  | 0, h => by
    cases ss with
    | nil => simp at h
    | cons x r =>
      rw [jo, if_pos rfl]
      show ([] : List UInt8) ++ x.data.toList = Lib.join [x.data.toList] [b]
      rw [Lib.join_one]
      rfl
  | k + 1, h => by
    have ih := jo_join ss b k (by omega)
    rw [jo, if_neg (by omega), ih, List.take_succ_eq_append_getElem h]
    cases ss with
    | nil => simp at h
    | cons x r =>
      simp only [List.take_succ_cons, List.map_cons, List.map_append, List.cons_append, Lib.join_cons, List.map_nil, joinTail_snoc, List.append_assoc]
      congr 2
      simp only [List.length_cons] at h
      simp [List.getD, show k < r.length by omega]


theorem join_any (A : Option Addr) (c : Nat) (ss : List ByteArray) (sep : ByteArray) (b : UInt8) (hsep : sep = ⟨[b].toArray⟩) (w : World) (h : Strs w (.slice A ss.length c) ss) (h0 : 0 < ss.length) (hlen : (jo ss b ss.length).length ≤ 4000) :
    Calls Try.prog 19 #[.slice A ss.length c, .string sep] w fun e w' => e = .returned (.string ⟨(jo ss b ss.length).toArray⟩) ∧ Below w.heap.size w w' := by
  obtain ⟨A', bk, o, cap, hv, hcap, hmax, hA, hc⟩ := h.form
  injection hv with e1 _ e3
  subst e3
  obtain rfl := e1.trans (hA h0)
  obtain ⟨k, hk⟩ : ∃ k, ss.length = k + 1 := ⟨ss.length - 1, by omega⟩
  have hj := jo_join ss b k (by omega)
  rw [show ss.take (k + 1) = ss from List.take_of_length_le (by omega), ← hk] at hj
  have hd : sep.data.toList = [b] := by rw [hsep]
  have hn : ss.length ≤ 140737488355328 := by
    rw [hk, jo_len] at hlen
    omega
  have hbk : bk < w.heap.size := World.block_lt_of_cell? _ _ (hc 0 h0)
  have := Any.strings_Join Try.lays156 extra bk o c ss sep w (fun j x hx => by
    have hlt : j < ss.length := by
      rcases Nat.lt_or_ge j ss.length with g | g
      · exact g
      · rw [List.getElem?_eq_none g] at hx; cases hx
    rw [List.getElem?_eq_getElem hlt] at hx
    rw [← Option.some.inj hx]
    exact hc j hlt) hbk hn hcap (by rw [hd, ← hj]; omega)
  rw [hd, ← hj] at this
  exact this



set_option maxHeartbeats 2000000 in
theorem can_join (A : Option Addr) (c : Nat) (ss : List ByteArray) (b : UInt8) (w : World) (h : Strs w (.slice A ss.length c) ss) (h0 : 0 < ss.length) (hn : ss.length ≤ 1048576) (hz : sm ss ss.length ≤ 1048576) :
    Calls Try.prog 18 #[.slice A ss.length c, .int .u8 b.toNat] w fun e w' => e = .returned (.bool (okB ss b)) ∧ w = w' := by
  obtain ⟨A', bk, o, cap, hv, hcap, hmax, hA, hc⟩ := h.form
  injection hv with e1 _ e3
  have hA' := e1.trans (hA h0)
  clear hA e1
  subst hA'
  clear h hmax
  have gw : IntKind.i64.wrap ((ss.length : Int) - 1) = ((ss.length - 1 : Nat) : Int) := by rw [IntWalk.i64_in _ (by omega)]; omega
  go_enter Try.func18, Try.ntmps18
  go_wp2_with fail
  go_step3
  go_wp2_with fail
  go_step3
  go_wp2_with fail
  go_loop [5, 6, 8, 9, 15] (fun sz sp z8 z9 i => ∃ k : Nat, k ≤ ss.length ∧ i = .int .i64 k ∧ (∃ t : Nat, sz = .int .i64 (t : Int) ∧ Hid (t = ss.length - 1 + sm ss k)) ∧ sp = .bool true ∧ (∃ z', z8 = z') ∧ (∃ z', z9 = z') ∧ Hid ((∀ j (h : j < ss.length), j < k → ¬ stands ss[j] b) ∧ (0 < k → ss.length - 1 + sm ss k ≤ 4000))) (fun _ _ _ _ i => ss.length - (intOf i).toNat)
  case atStart => exact ⟨0, Nat.zero_le _, rfl, ⟨ss.length - 1, by first | rfl | simp [gw], Lib.hid (by simp [sm])⟩, rfl, ⟨_, rfl⟩, ⟨_, rfl⟩, Lib.hid ⟨fun j _ hj => by omega, fun h => by omega⟩⟩
  case round =>
    obtain ⟨k, hk, rfl, ⟨t, rfl, ht⟩, rfl, ⟨z8, rfl⟩, ⟨z9, rfl⟩, hH⟩ := hrel
    clear gw
    by_cases hlt : k < ss.length
    · have hkz : (k : Int) < (ss.length : Int) := by omega
      have g0 := hc k hlt
      have HS := Lib.hid (sm_succ hlt)
      have hm1 : sm ss (k + 1) ≤ 1048576 := Nat.le_trans (sm_mono ss (by omega)) hz
      have HM := Lib.hid (sm_mono ss (show k + 1 ≤ ss.length by omega))
      have HNS := Lib.hid (fun (h : ¬ stands ss[k] b) => h)
      have HST : Hid (stands ss[k] b → okB ss b = false) := Lib.hid (fun hs => okB_no (fun h => h.1 k hlt hs))
      have hzz : ss[k].size ≤ 1048576 := by have := HS.out; omega
      obtain ⟨z, hzE⟩ : ∃ z, ss[k] = z := ⟨_, rfl⟩
      have HZ := Lib.hid hzE
      rw [hzE] at g0 HS hzz HST
      clear hzE hc HNS
      have ht2 : t ≤ 2097152 := by have := ht.out; have := HS.out; omega
      have gs : wrap64 ((t : Int) + z.size) = (t : Int) + z.size := by unfold wrap64; omega
      have gs' : IntKind.i64.wrap ((t : Int) + z.size) = (t : Int) + z.size := IntWalk.i64_in _ (by omega)
      have HT : Hid (t + z.size = ss.length - 1 + sm ss (k + 1)) := Lib.hid (by have := ht.out; have := HS.out; omega)
      clear ht2
      by_cases hbig : 4000 < t + z.size
      · have hbz : (4000 : Int) < (t : Int) + z.size := by omega
        have hbz' : ¬ (t : Int) + z.size ≤ 4000 := by omega
        have HB : Hid (okB ss b = false) := Lib.hid (okB_no (fun h => by have := h.2; have := HM.out; have := HT.out; omega))
        clear hbig
        go_wp2_with fail
        go_ret
        exact ⟨ret_b HB.out.symm, rfl⟩
      · have hbz : ¬ (4000 : Int) < (t : Int) + z.size := by omega
        have hbz' : (t : Int) + z.size ≤ 4000 := by omega
        have HBG := Lib.hid hbig
        clear hbig
        go_wp2_with fail
        go_loop [6, 9, 27] (fun y6 y9 i => ∃ j : Nat, j ≤ z.size ∧ i = .int .i64 j ∧ y6 = .bool true ∧ (∃ z', y9 = z') ∧ Hid (∀ q (h : q < z.size), q < j → z[q] ≠ b)) (fun _ _ i => z.size - (intOf i).toNat)
        case atStart => exact ⟨0, Nat.zero_le _, rfl, rfl, ⟨_, rfl⟩, Lib.hid (fun q _ hq => by omega)⟩
        case round =>
          obtain ⟨j, hj, rfl, rfl, ⟨y9, rfl⟩, hN⟩ := hrel
          by_cases hjlt : j < z.size
          · have hjz : (j : Int) < (z.size : Int) := by omega
            by_cases hb : z[j] = b
            · have hn0 : (((z[j]).toNat : Int) == (b.toNat : Int)) = true := by simp [hb]
              have HB := Lib.hid (HST.out (stands_at hjlt hb))
              clear hb
              go_wp2_with fail
              go_ret
              exact ⟨ret_b HB.out.symm, rfl⟩
            · have hn0 : (((z[j]).toNat : Int) == (b.toNat : Int)) = false := by
                rw [beq_eq_false_iff_ne]
                intro e
                exact hb (UInt8.toNat_inj.1 (by omega))
              have HB := Lib.hid hb
              clear hb
              go_wp2_with fail
              go_round
              case rel => exact ⟨j + 1, by omega, by go_num, rfl, ⟨_, rfl⟩, Lib.hid (fun q h hq => by
                rcases Nat.lt_or_ge q j with g | g
                · exact hN.out q h g
                · obtain rfl : q = j := by omega
                  exact HB.out)⟩
              case measure => simp [intOf]; omega
          · have HNS : Hid (¬ stands ss[k] b) := Lib.hid (by rw [HZ.out]; exact not_stands (fun q h => hN.out q h (by omega)))
            go_wp2_with fail
            go_round
            case rel => exact ⟨k + 1, by omega, by go_num, ⟨t + z.size, by first | rfl | (congr 1; omega), HT⟩, rfl, ⟨_, rfl⟩, ⟨_, rfl⟩, Lib.hid ⟨fun q h hq => by
                rcases Nat.lt_or_ge q k with g | g
                · exact hH.out.1 q h g
                · obtain rfl : q = k := by omega
                  exact HNS.out, fun _ => by have := HBG.out; have := HT.out; omega⟩⟩
            case measure => simp [intOf]; omega
    · have hkz : ¬ (k : Int) < (ss.length : Int) := by omega
      obtain rfl : k = ss.length := by omega
      have ht4 : (t : Int) ≤ 4000 := by have := ht.out; have := hH.out.2 h0; omega
      have HB : Hid (okB ss b = true) := Lib.hid (okB_yes ⟨fun q h => hH.out.1 q h h, by have := ht.out; omega⟩)
      clear hc
      go_wp2_with fail
      go_ret
      exact ⟨ret_b HB.out.symm, rfl⟩


end Go.Proofs.Ytfcoodhilpbehaa.stf
