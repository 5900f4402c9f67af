/- JoinStrings of the program and of the model. -/
import Derived.Test.YtfcoodhilpbehaaStf
namespace Go.Proofs.Ytfcoodhilpbehaa.stg
open Go.RowKit Go.Deep Go.Proofs.Ytfcoodhilpbehaa.base
open Go.Proofs.Ytfcoodhilpbehaa.sta Go.Proofs.Ytfcoodhilpbehaa.stb Go.Proofs.Ytfcoodhilpbehaa.ste Go.Proofs.Ytfcoodhilpbehaa.stf

def hd (sep : ByteArray) : UInt8 := sep.data.toList.headD 0
def okJ (ss : List ByteArray) (sep : ByteArray) : Prop := sep.size = 1 ∧ 0 < ss.length ∧ okC ss (hd sep)
open Classical in
noncomputable def strR (ss : List ByteArray) (sep : ByteArray) : ByteArray := if okJ ss sep then ⟨(jo ss (hd sep) ss.length).toArray⟩ else ⟨#[]⟩
open Classical in
noncomputable def boolR (ss : List ByteArray) (sep : ByteArray) : Bool := if okJ ss sep then true else false
theorem str_yes {ss : List ByteArray} {sep : ByteArray} (h : okJ ss sep) : strR ss sep = ⟨(jo ss (hd sep) ss.length).toArray⟩ := if_pos h
theorem str_no {ss : List ByteArray} {sep : ByteArray} (h : ¬ okJ ss sep) : strR ss sep = ⟨#[]⟩ := if_neg h
theorem bool_yes {ss : List ByteArray} {sep : ByteArray} (h : okJ ss sep) : boolR ss sep = true := if_pos h
theorem bool_no {ss : List ByteArray} {sep : ByteArray} (h : ¬ okJ ss sep) : boolR ss sep = false := if_neg h
theorem head_at (s : ByteArray) (h : 0 < s.size) : s[0] = hd s := by
  have := at_all s 0 h
  unfold hd
  cases e : s.data.toList with
  | nil => rw [e] at this; cases this
  | cons x r => rw [e] at this; simp at this; simp [this]
theorem sep_one {sep : ByteArray} (h : sep.size = 1) : sep = ⟨[hd sep].toArray⟩ := by
  apply ByteArray.ext
  apply Array.ext'
  have hl : sep.data.toList.length = 1 := by rw [len_data]; exact h
  unfold hd
  match e : sep.data.toList with
  | [] => rw [e] at hl; simp at hl
  | [x] => simp
  | x :: y :: r => rw [e] at hl; simp at hl

theorem app_list (a b : ByteArray) : (a ++ b).data.toList = a.data.toList ++ b.data.toList := by rw [ByteArray.data_append, Array.toList_append]


set_option maxHeartbeats 1000000 in
theorem impl_any (A : Option Addr) (c : Nat) (ss : List ByteArray) (sep : ByteArray) (w : World) (h : Strs w (.slice A ss.length c) ss) (hn : ss.length ≤ 1048576) (hz : sm ss ss.length ≤ 1048576) (_hp : sep.size ≤ 1048576) :
    Calls Try.prog 8 #[.slice A ss.length c, .string sep] w fun e w' => e = .returned (.tuple #[.string (strR ss sep), .bool (boolR ss sep)]) ∧ Below w.heap.size w w' := by
  by_cases h0 : ss.length = 0
  · have HR := Lib.hid (And.intro (str_no (ss := ss) (sep := sep) (fun k => by have := k.2.1; omega)) (bool_no (ss := ss) (sep := sep) (fun k => by have := k.2.1; omega)))
    have h0' : ((ss.length : Int) == 0) = true := by simp [h0]
    clear h
    go_enter Try.func8, Try.ntmps8
    go_wp2_with fail
    all_goals
      refine bodyPost_ret (results_tmp2 rfl _ _ _) rfl ?_
      rw [HR.out.1, HR.out.2]
      exact ⟨rfl, Below.refl _ _⟩
  have h0' : ((ss.length : Int) == 0) = false := by rw [beq_eq_false_iff_ne]; omega
  have h0p : 0 < ss.length := by omega
  by_cases h1 : sep.size = 1
  · have h1' : ((sep.size : Int) != 1) = false := by simp [h1]
    have hlt : 0 < sep.size := by omega
    have hb := head_at sep hlt
    obtain ⟨b, hb0⟩ : ∃ b, hd sep = b := ⟨_, rfl⟩
    have hsep := sep_one h1
    rw [hb0] at hb hsep
    have HC := Lib.hid (can_join A c ss b w h h0p hn hz)
    by_cases hok : okC ss b
    · have HR := Lib.hid (And.intro (str_yes (ss := ss) (sep := sep) ⟨h1, h0p, by rw [hb0]; exact hok⟩) (bool_yes (ss := ss) (sep := sep) ⟨h1, h0p, by rw [hb0]; exact hok⟩))
      rw [hb0] at HR
      rw [okB_yes hok] at HC
      obtain ⟨k, hk⟩ : ∃ k, ss.length = k + 1 := ⟨ss.length - 1, by omega⟩
      have HJ := Lib.hid (join_any A c ss sep b hsep w h h0p (by have := hok.2; rw [hk] at this ⊢; rw [jo_len]; omega))
      clear hok h hb0 hsep hk h0
      go_enter Try.func8, Try.ntmps8
      go_wp2_with fail
      refine HC.out.mono ?_
      rintro e w1 ⟨rfl, rfl⟩
      go_wp2_with fail
      refine HJ.out.mono ?_
      rintro e w2 ⟨rfl, hb2⟩
      have B2 := Lib.hid hb2
      clear hb2
      go_wp2_with fail
      refine bodyPost_ret (results_tmp2 rfl _ _ _) rfl ?_
      rw [HR.out.1, HR.out.2]
      exact ⟨rfl, B2.out⟩
    · have HR := Lib.hid (And.intro (str_no (ss := ss) (sep := sep) (fun k => hok (by rw [← hb0]; exact k.2.2))) (bool_no (ss := ss) (sep := sep) (fun k => hok (by rw [← hb0]; exact k.2.2))))
      rw [okB_no hok] at HC
      clear hok h hb0 hsep h0
      go_enter Try.func8, Try.ntmps8
      go_wp2_with fail
      refine HC.out.mono ?_
      rintro e w1 ⟨rfl, rfl⟩
      go_wp2_with fail
      refine bodyPost_ret (results_tmp2 rfl _ _ _) rfl ?_
      rw [HR.out.1, HR.out.2]
      exact ⟨rfl, Below.refl _ _⟩
  · have HR := Lib.hid (And.intro (str_no (ss := ss) (sep := sep) (fun k => h1 k.1)) (bool_no (ss := ss) (sep := sep) (fun k => h1 k.1)))
    have h1' : ((sep.size : Int) != 1) = true := by simp; omega
    clear h h0
    go_enter Try.func8, Try.ntmps8
    go_wp2_with fail
    all_goals
      refine bodyPost_ret (results_tmp2 rfl _ _ _) rfl ?_
      rw [HR.out.1, HR.out.2]
      exact ⟨rfl, Below.refl _ _⟩



set_option maxHeartbeats 2000000 in
theorem spec_any (A : Option Addr) (c : Nat) (ss : List ByteArray) (sep : ByteArray) (w : World) (h : Strs w (.slice A ss.length c) ss) (hn : ss.length ≤ 1048576) (hz : sm ss ss.length ≤ 1048576) (_hp : sep.size ≤ 1048576) :
    Calls Try.prog 9 #[.slice A ss.length c, .string sep] w fun e w' => e = .returned (.tuple #[.string (strR ss sep), .bool (boolR ss sep)]) ∧ Below w.heap.size w w' := by
  by_cases h1 : sep.size = 1
  · have h1' : ((sep.size : Int) != 1) = false := by simp [h1]
    by_cases h0 : ss.length = 0
    · have HR := Lib.hid (And.intro (str_no (ss := ss) (sep := sep) (fun k => by have := k.2.1; omega)) (bool_no (ss := ss) (sep := sep) (fun k => by have := k.2.1; omega)))
      have h0' : ((ss.length : Int) == 0) = true := by simp [h0]
      clear h
      go_enter Try.func9, Try.ntmps9
      go_wp2_with fail
      all_goals
        refine bodyPost_ret (results_tmp2 rfl _ _ _) rfl ?_
        rw [HR.out.1, HR.out.2]
        exact ⟨rfl, Below.refl _ _⟩
    have h0' : ((ss.length : Int) == 0) = false := by rw [beq_eq_false_iff_ne]; omega
    have h0p : 0 < ss.length := by omega
    have hlt : 0 < sep.size := by omega
    have hb := head_at sep hlt
    obtain ⟨b, hb0⟩ : ∃ b, hd sep = b := ⟨_, rfl⟩
    have hsep := sep_one h1
    rw [hb0] at hb hsep
    have HRY : Hid (okC ss b → strR ss sep = ⟨(jo ss b ss.length).toArray⟩ ∧ boolR ss sep = true) := Lib.hid (fun hok => by
      have h := And.intro (str_yes (ss := ss) (sep := sep) ⟨h1, h0p, by rw [hb0]; exact hok⟩) (bool_yes (ss := ss) (sep := sep) ⟨h1, h0p, by rw [hb0]; exact hok⟩)
      rw [hb0] at h
      exact h)
    have HRN : Hid (¬ okC ss b → strR ss sep = ⟨#[]⟩ ∧ boolR ss sep = false) := Lib.hid (fun hok => ⟨str_no (fun k => hok (by rw [← hb0]; exact k.2.2)), bool_no (fun k => hok (by rw [← hb0]; exact k.2.2))⟩)
    obtain ⟨A', bk, o, cap, hv, hcap, hmax, hA, hc⟩ := h.form
    injection hv with e1 _ e3
    have hA' := e1.trans (hA h0p)
    clear hA e1
    subst hA'
    have HSD : Hid (sep.data.toList = [b]) := Lib.hid (by rw [hsep])
    clear h hmax h0 hb0 hsep
    go_enter Try.func9, Try.ntmps9
    go_wp2_with fail
    go_loopw [6, 7] (fun out i wr => ∃ k : Nat, k ≤ ss.length ∧ i = .int .i64 k ∧ (∃ O : ByteArray, out = .string O ∧ Hid (O.data.toList = jo ss b k) ∧ O.size ≤ 4000) ∧ Hid (Below w.heap.size w wr) ∧ Hid (∀ j (h : j < ss.length), j < k → ¬ stands ss[j] b)) (fun _ i _ => ss.length - (intOf i).toNat)
    case atStart => exact ⟨0, Nat.zero_le _, rfl, ⟨⟨#[]⟩, rfl, Lib.hid rfl, by decide⟩, Lib.hid (Below.refl _ _), Lib.hid (fun j _ hj => by omega)⟩
    case round =>
      obtain ⟨k, hk, rfl, ⟨O, rfl, hO, hOs⟩, hBW, hH⟩ := hrel
      obtain ⟨wi, rfl⟩ : ∃ wi : World, wi = wr := ⟨_, rfl⟩
      by_cases hlt2 : k < ss.length
      · have hkz : (k : Int) < (ss.length : Int) := by omega
        have g0 := below_cell hBW.out _ _ (hc k hlt2)
        have HS := Lib.hid (sm_succ hlt2)
        have HM := Lib.hid (sm_mono ss (show k + 1 ≤ ss.length by omega))
        have hzz : ss[k].size ≤ 1048576 := by have := HS.out; have := HM.out; omega
        obtain ⟨z, hzE⟩ : ∃ z, ss[k] = z := ⟨_, rfl⟩
        have HZ := Lib.hid hzE
        have HSTN := Lib.hid (fun W => l1stands z b W (by unfold maxLen; rw [← hzE]; omega))
        rw [hzE] at g0 HS hzz
        clear hzE hc
        by_cases hst : stands z b
        · rw [stB_yes hst] at HSTN
          have HB := Lib.hid (HRN.out (fun h => h.1 k hlt2 (by rw [HZ.out]; exact hst)))
          clear hst
          go_wp2_with fail
          go_region_held3 (fun w' => w'.cell? ⟨bk, o + k, none⟩ = some (.string z) ∧ Below wi.heap.size wi w')
            ((refine ⟨below_cell ?_ _ _ g0, ?_⟩; all_goals (repeat (first | (with_reducible exact Below.refl _ _) | (with_reducible assumption) | (with_reducible refine below_dr ?_)))))
            ((go_at_call 20; (with_reducible refine (HSTN.out _).mono ?_); rintro e w3 ⟨rfl, rfl⟩))
          all_goals
            go_wp2_with fail
            refine bodyPost_ret (results_tmp2 rfl _ _ _) rfl ?_
            rw [HB.out.1, HB.out.2]
            exact ⟨rfl, by repeat (first | exact hBW.out | refine below_dr ?_)⟩
        · rw [stB_no hst] at HSTN
          have HN := Lib.hid hst
          clear hst
          have HH2 : Hid (∀ j (h : j < ss.length), j < k + 1 → ¬ stands ss[j] b) := Lib.hid (fun q h hq => by
            rcases Nat.lt_or_ge q k with g | g
            · exact hH.out q h g
            · obtain rfl : q = k := by omega
              rw [HZ.out]; exact HN.out)
          rcases Nat.eq_zero_or_pos k with hk0 | hk0
          · subst hk0
            rw [Nat.add_zero] at g0
            have hs2 : ¬ (9223372036854775807 < O.size + z.size) := by omega
            have HO2 : Hid ((O ++ z).data.toList = jo ss b (0 + 1)) := Lib.hid (by rw [app_list, hO.out, ← HZ.out]; simp [jo, List.getD, hlt2])
            have HBG : Hid (4000 < (O ++ z).size → ¬ okC ss b) := Lib.hid (fun h hok => by
              have e1 := jo_len ss b 0
              rw [← HO2.out, len_data] at e1
              have e2 := HM.out
              have e3 := hok.2
              omega)
            have hsz : (O ++ z).size = O.size + z.size := by simp [ByteArray.size_append]
            have HSZ := Lib.hid hsz
            clear hsz
            by_cases hbig : 4000 < O.size + z.size
            · have hbz : (4000 : Int) < (O.size : Int) + z.size := by omega
              have HB := Lib.hid (HRN.out (HBG.out (by rw [HSZ.out]; exact hbig)))
              clear hbig HO2 HBG
              go_wp2_with fail
              go_region_held3 (fun w' => w'.cell? ⟨bk, o, none⟩ = some (.string z) ∧ Below wi.heap.size wi w')
                ((refine ⟨below_cell ?_ _ _ g0, ?_⟩; all_goals (repeat (first | (with_reducible exact Below.refl _ _) | (with_reducible assumption) | (with_reducible refine below_dr ?_)))))
                ((go_at_call 20; (with_reducible refine (HSTN.out _).mono ?_); rintro e w3 ⟨rfl, rfl⟩))
              all_goals
                go_wp2_with fail
                refine bodyPost_ret (results_tmp2 rfl _ _ _) rfl ?_
                rw [HB.out.1, HB.out.2]
                exact ⟨rfl, by repeat (first | exact hBW.out | refine below_dr ?_)⟩
            · have hbz : ¬ (4000 : Int) < (O.size : Int) + z.size := by omega
              have HBI := Lib.hid hbig
              clear hbig HBG
              go_wp2_with fail
              go_region_held3 (fun w' => w'.cell? ⟨bk, o, none⟩ = some (.string z) ∧ Below wi.heap.size wi w')
                ((refine ⟨below_cell ?_ _ _ g0, ?_⟩; all_goals (repeat (first | (with_reducible exact Below.refl _ _) | (with_reducible assumption) | (with_reducible refine below_dr ?_)))))
                ((go_at_call 20; (with_reducible refine (HSTN.out _).mono ?_); rintro e w3 ⟨rfl, rfl⟩))
              all_goals
                go_wp2_with fail
                go_roundw
                case rel => exact ⟨0 + 1, by omega, by go_num, ⟨_, rfl, HO2, by rw [HSZ.out]; have := HBI.out; omega⟩, Lib.hid (by repeat (first | exact hBW.out | refine below_dr ?_)), HH2⟩
                case measure => simp [intOf]; omega
          · have hs1 : ¬ (9223372036854775807 < O.size + sep.size) := by omega
            have hs2 : ¬ (9223372036854775807 < O.size + sep.size + z.size) := by omega
            have hkz0 : (k : Int) > 0 := by omega
            have HO2 : Hid ((O ++ sep ++ z).data.toList = jo ss b (k + 1)) := Lib.hid (by rw [app_list, app_list, hO.out, HSD.out, jo, if_neg (by omega), ← HZ.out]; simp [List.getD, hlt2])
            have HBG : Hid (4000 < (O ++ sep ++ z).size → ¬ okC ss b) := Lib.hid (fun h hok => by
              have e1 := jo_len ss b k
              rw [← HO2.out, len_data] at e1
              have e2 := HM.out
              have e3 := hok.2
              omega)
            have hsz : (O ++ sep ++ z).size = O.size + 1 + z.size := by simp [ByteArray.size_append, h1]
            have HSZ := Lib.hid hsz
            clear hsz
            by_cases hbig : 4000 < O.size + 1 + z.size
            · have hbz : (4000 : Int) < (O.size : Int) + 1 + z.size := by omega
              have HB := Lib.hid (HRN.out (HBG.out (by rw [HSZ.out]; exact hbig)))
              clear hbig HO2 HBG
              go_wp2_with fail
              go_region_held3 (fun w' => w'.cell? ⟨bk, o + k, none⟩ = some (.string z) ∧ Below wi.heap.size wi w')
                ((refine ⟨below_cell ?_ _ _ g0, ?_⟩; all_goals (repeat (first | (with_reducible exact Below.refl _ _) | (with_reducible assumption) | (with_reducible refine below_dr ?_)))))
                ((go_at_call 20; (with_reducible refine (HSTN.out _).mono ?_); rintro e w3 ⟨rfl, rfl⟩))
              all_goals
                go_wp2_with fail
                refine bodyPost_ret (results_tmp2 rfl _ _ _) rfl ?_
                rw [HB.out.1, HB.out.2]
                exact ⟨rfl, by repeat (first | exact hBW.out | refine below_dr ?_)⟩
            · have hbz : ¬ (4000 : Int) < (O.size : Int) + 1 + z.size := by omega
              have HBI := Lib.hid hbig
              clear hbig HBG
              go_wp2_with fail
              go_region_held3 (fun w' => w'.cell? ⟨bk, o + k, none⟩ = some (.string z) ∧ Below wi.heap.size wi w')
                ((refine ⟨below_cell ?_ _ _ g0, ?_⟩; all_goals (repeat (first | (with_reducible exact Below.refl _ _) | (with_reducible assumption) | (with_reducible refine below_dr ?_)))))
                ((go_at_call 20; (with_reducible refine (HSTN.out _).mono ?_); rintro e w3 ⟨rfl, rfl⟩))
              all_goals
                go_wp2_with fail
                go_roundw
                case rel => exact ⟨k + 1, by omega, by go_num, ⟨_, rfl, HO2, by rw [HSZ.out]; have := HBI.out; omega⟩, Lib.hid (by repeat (first | exact hBW.out | refine below_dr ?_)), HH2⟩
                case measure => simp [intOf]; omega
      · have hkz : ¬ (k : Int) < (ss.length : Int) := by omega
        obtain rfl : k = ss.length := by omega
        have hok : okC ss b := by
          refine ⟨fun q h => hH.out q h h, ?_⟩
          obtain ⟨m, hm⟩ : ∃ m, ss.length = m + 1 := ⟨ss.length - 1, by omega⟩
          have e1 := jo_len ss b m
          rw [← hm, ← hO.out, len_data] at e1
          omega
        have HB := Lib.hid (HRY.out hok)
        have HE : Hid (O = ⟨(jo ss b ss.length).toArray⟩) := Lib.hid (by
          apply ByteArray.ext
          apply Array.ext'
          rw [hO.out])
        clear hok hc
        go_wp2_with fail
        refine bodyPost_ret (results_tmp2 rfl _ _ _) rfl ?_
        rw [HB.out.1, HB.out.2, ← HE.out]
        exact ⟨rfl, hBW.out⟩
  · have HR := Lib.hid (And.intro (str_no (ss := ss) (sep := sep) (fun k => h1 k.1)) (bool_no (ss := ss) (sep := sep) (fun k => h1 k.1)))
    have h1' : ((sep.size : Int) != 1) = true := by simp; omega
    clear h
    go_enter Try.func9, Try.ntmps9
    go_wp2_with fail
    all_goals
      refine bodyPost_ret (results_tmp2 rfl _ _ _) rfl ?_
      rw [HR.out.1, HR.out.2]
      exact ⟨rfl, Below.refl _ _⟩


end Go.Proofs.Ytfcoodhilpbehaa.stg
