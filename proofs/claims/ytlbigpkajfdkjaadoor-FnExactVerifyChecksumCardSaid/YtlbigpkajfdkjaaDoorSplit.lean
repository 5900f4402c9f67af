import Derived.Test.YtlbigpkajfdkjaaDoorApp
import Derived.Lib.IndexMore
namespace Go.Proofs.YtlbigpkajfdkjaaDoor.split
open Go.RowKit

/-- what has been gathered behind k bytes, and where the open part begins -/
def st (s : ByteArray) (b : UInt8) : Nat → List ByteArray × Nat
  | 0 => ([], 0)
  | k + 1 => if s.data.toList[k]? = some b then ((st s b k).1 ++ [s.extract (st s b k).2 k], k + 1) else st s b k
def split (s : ByteArray) (b : UInt8) : List ByteArray := (st s b s.size).1 ++ [s.extract (st s b s.size).2 s.size]
theorem st_le (s : ByteArray) (b : UInt8) : ∀ k, (st s b k).2 ≤ k ∧ (st s b k).1.length ≤ k
  | 0 => ⟨Nat.le_refl _, Nat.le_refl _⟩
  | k + 1 => by
    have := st_le s b k
    unfold st
    split
    · exact ⟨Nat.le_refl _, by simp; omega⟩
    · exact ⟨by omega, by omega⟩
theorem st_hit {s : ByteArray} {b : UInt8} {k : Nat} (h : s.data.toList[k]? = some b) : st s b (k + 1) = ((st s b k).1 ++ [s.extract (st s b k).2 k], k + 1) := if_pos h
theorem st_miss {s : ByteArray} {b : UInt8} {k : Nat} (h : ¬ s.data.toList[k]? = some b) : st s b (k + 1) = st s b k := if_neg h

theorem info9 : (Tryd.prog.info? 9).map (fun i => (i.zero, i.size, i.bytes)) = some (some (.string ⟨#[]⟩), 1, 16) := by kernel_rfl

theorem one_at (w : World) (v : Value) (t : TypeId) : ∀ (j : Nat) (u : Value), [v][j]? = some u → (w.alloc (.cells #[v] t)).cell? ((⟨w.heap.size, 0, none⟩ : Addr).add j) = some u := by
  intro j u hj
  match j, hj with
  | 0, hj =>
    simp at hj; subst hj
    simp [Addr.add]
set_option maxHeartbeats 1000000 in
theorem split_any (s : ByteArray) (b : UInt8) (w : World) (hs : s.size ≤ 1048576) :
    Calls Tryd.prog 36 #[.string s, .int .u8 b.toNat] w fun e w' => ∃ v, e = .returned v ∧ w'.ownsRow w.heap.size 9 1 v (split s b).length ((split s b).map Value.string) ∧ Below w.heap.size w w' := by
  obtain ⟨i0, hi, hz0, hz1, hz2⟩ := info_parts info9
  go_enter Tryd.func36, Tryd.ntmps36
  go_wp2_with fail
  go_loopw [5, 6, 7] (fun out fr i wr => ∃ k f : Nat, k ≤ s.size ∧ i = .int .i64 k ∧ fr = .int .i64 f ∧ f ≤ k ∧ Hid (f = (st s b k).2) ∧ Hid (wr.ownsRow w.heap.size 9 1 out (st s b k).1.length ((st s b k).1.map Value.string)) ∧ Below w.heap.size w wr) (fun _ _ i _ => s.size - (intOf i).toNat)
  case atStart => exact ⟨0, 0, Nat.zero_le _, rfl, rfl, Nat.le_refl _, Lib.hid rfl, Lib.hid (World.ownsRow_made _ #[] 0 (Nat.le_refl _) (Nat.zero_le _) rfl), (Below.refl _ _).alloc (Nat.le_refl _) _⟩
  case round =>
    obtain ⟨k, f, hk, rfl, rfl, hfk, hf, hown, hb⟩ := hrel
    have HB := Lib.hid hb
    have hsz := hb.size
    clear hb
    have hst := (st_le s b k).2
    have HL : Hid ((st s b k).1.length ≤ k) := Lib.hid hst
    clear hst
    by_cases hlt : k < s.size
    · go_wp2_with (at_builtin; refine wpList_append_own _ rfl (.tmp 20) (.tmp 25) 44 rfl w.heap.size 9 i0 (.string ⟨#[]⟩) 1 16 Tryd.underlying44 hi hz0 hz1 hz2 rfl (by decide) _ _ _ rfl (hown.out.alloc _) ⟨wr.heap.size, 0, none⟩ 1 1 [.string (s.extract f k)] rfl rfl ?c1 ?c2 ?c3 ?c4 ?c5 ?_)
      case c1 => exact one_at _ _ _
      case c2 => intro u hu; simp at hu; subst hu; rfl
      case c3 => have := HL.out; unfold maxLen; omega
      case c4 => have := HL.out; omega
      case c5 => simp; omega
      · intro v' w1 hown' hgrow _
        have hb : s[k] = b := app.u8_eq (by assumption)
        have hk' : s.data.toList[k]? = some b := by rw [parse.at_all s k hlt, hb]
        have hB2 : Below w.heap.size w w1 := (HB.out.alloc hsz _).grown hgrow (by simp; omega) (fun j hj => (hown.out.lt j hj).1)
        have HS := Lib.hid (st_hit hk')
        have H2 : Hid (w1.ownsRow w.heap.size 9 1 v' (st s b (k + 1)).1.length ((st s b (k + 1)).1.map Value.string)) := Lib.hid (by
          rw [HS.out, ← hf.out]; simpa using hown')
        have H3 := Lib.hid hB2
        clear hown' hgrow hB2 hk' hb
        go_wp2_with fail
        go_roundw
        case rel => exact ⟨k + 1, k + 1, by omega, by go_num, by go_num, Nat.le_refl _, Lib.hid (by rw [HS.out]), H2, H3.out⟩
        case measure => simp [intOf]; omega
      · have hb : ¬ s[k] = b := app.u8_ne (by assumption)
        have HS : st s b (k + 1) = st s b k := st_miss (by rw [parse.at_all s k hlt]; intro e; injection e with e; exact hb e)
        go_roundw
        case rel => exact ⟨k + 1, f, by omega, by go_num, rfl, by omega, Lib.hid (by rw [HS, ← hf.out]), by rw [HS]; exact hown, HB.out⟩
        case measure => simp [intOf]; omega
    · go_wp2_with (at_builtin; refine wpList_append_own _ rfl (.tmp 29) (.tmp 33) 44 rfl w.heap.size 9 i0 (.string ⟨#[]⟩) 1 16 Tryd.underlying44 hi hz0 hz1 hz2 rfl (by decide) _ _ _ rfl (hown.out.alloc _) ⟨wr.heap.size, 0, none⟩ 1 1 [.string (s.extract f s.size)] rfl rfl ?c1 ?c2 ?c3 ?c4 ?c5 ?_)
      case c1 => exact one_at _ _ _
      case c2 => intro u hu; simp at hu; subst hu; rfl
      case c3 => have := HL.out; unfold maxLen; omega
      case c4 => have := HL.out; omega
      case c5 => simp; omega
      · intro v' w1 hown' hgrow _
        have hB2 : Below w.heap.size w w1 := (HB.out.alloc hsz _).grown hgrow (by simp; omega) (fun j hj => (hown.out.lt j hj).1)
        have hks : k = s.size := by omega
        have H2 : Hid (w1.ownsRow w.heap.size 9 1 v' (split s b).length ((split s b).map Value.string)) := Lib.hid (by
          have e : st s b k = st s b s.size := by rw [hks]
          have h := hown'
          have hf' := hf.out
          rw [e] at h hf'
          unfold split; rw [← hf']; simpa using h)
        have H3 := Lib.hid hB2
        clear hown' hgrow hB2 hks
        go_wp2_with fail
        go_ret
        exact ⟨_, rfl, H2.out, H3.out⟩

/-! ### the first part -/
theorem st_first (s : ByteArray) (b : UInt8) : ∀ k, k ≤ s.data.toList.length → (st s b k).1 = [] ∧ (st s b k).2 = 0 ∧ (∀ j, j < k → ¬ s.data.toList[j]? = some b) ∨
    ∃ j, j < k ∧ s.data.toList[j]? = some b ∧ (∀ i, i < j → ¬ s.data.toList[i]? = some b) ∧ (st s b k).1[0]? = some (s.extract 0 j)
  | 0, _ => .inl ⟨rfl, rfl, fun j hj => by omega⟩
  | k + 1, hk => by
    rcases st_first s b k (by omega) with ⟨h1, h2, h3⟩ | ⟨j, hj, hb, hn, h0⟩
    · by_cases hh : s.data.toList[k]? = some b
      · right
        refine ⟨k, by omega, hh, h3, ?_⟩
        rw [st_hit hh, h1, h2]; rfl
      · left
        rw [st_miss hh]
        refine ⟨h1, h2, fun j hj => ?_⟩
        rcases Nat.lt_or_ge j k with h | h
        · exact h3 j h
        · obtain rfl : j = k := by omega
          exact hh
    · right
      refine ⟨j, by omega, hb, hn, ?_⟩
      by_cases hh : s.data.toList[k]? = some b
      · rw [st_hit hh]
        show ((st s b k).1 ++ [s.extract (st s b k).2 k])[0]? = _
        rw [List.getElem?_append_left]
        · exact h0
        · rcases Nat.lt_or_ge 0 (st s b k).1.length with h | h
          · exact h
          · rw [List.getElem?_eq_none h] at h0; cases h0
      · rw [st_miss hh]; exact h0

theorem extract_data (s : ByteArray) (a b : Nat) : (s.extract a b).data.toList = (s.data.toList.drop a).take (b - a) := by
  rw [ByteArray.data_extract, Array.toList_extract]

theorem takeWhile_upto (l : List UInt8) (b : UInt8) (j : Nat) (hb : l[j]? = some b) (hn : ∀ i, i < j → ¬ l[i]? = some b) : l.takeWhile (fun x => !(x == b)) = l.take j := by
  induction l generalizing j with
  | nil => simp at hb
  | cons c r ih =>
    cases j with
    | zero =>
      simp at hb; subst hb
      simp
    | succ j =>
      have h0 := hn 0 (by omega)
      simp at h0
      rw [List.takeWhile_cons]
      have e : (!(c == b)) = true := by simp [h0]
      rw [e]
      simp only [if_true, List.take_succ_cons]
      rw [ih j (by simpa using hb) (fun i hi => by have := hn (i + 1) (by omega); simpa using this)]
theorem takeWhile_all (l : List UInt8) (b : UInt8) (hn : ∀ i, i < l.length → ¬ l[i]? = some b) : l.takeWhile (fun x => !(x == b)) = l := by
  induction l with
  | nil => rfl
  | cons c r ih =>
    have h0 := hn 0 (by simp)
    simp at h0
    rw [List.takeWhile_cons]
    have e : (!(c == b)) = true := by simp [h0]
    rw [e]
    simp only [if_true]
    rw [ih (fun i hi => by have := hn (i + 1) (by simp; omega); simpa using this)]

/-- the bytes up to the first b -/
def front (s : ByteArray) (b : UInt8) : ByteArray := ⟨(s.data.toList.takeWhile (fun x => !(x == b))).toArray⟩
theorem split_first (s : ByteArray) (b : UInt8) : (split s b)[0]? = some (front s b) := by
  have hl := parse.len_data s
  rcases st_first s b s.size (by omega) with ⟨h1, h2, h3⟩ | ⟨j, hj, hb, hn, h0⟩
  · unfold split front
    rw [h1, h2, takeWhile_all _ _ (fun i hi => h3 i (by omega))]
    show some _ = some _
    congr 1
    apply ByteArray.ext
    apply Array.ext'
    rw [extract_data, List.drop_zero, List.take_of_length_le (by omega)]
  · unfold split front
    rw [takeWhile_upto _ _ j hb hn, List.getElem?_append_left]
    · rw [h0]
      congr 1
      apply ByteArray.ext
      apply Array.ext'
      rw [extract_data]
      simp
    · rcases Nat.lt_or_ge 0 (st s b s.size).1.length with h | h
      · exact h
      · rw [List.getElem?_eq_none h] at h0; cases h0
theorem cut_front (l : List UInt8) (b : UInt8) : (Lib.cut l [b]).1 = l.takeWhile (fun x => !(x == b)) := by
  induction l with
  | nil => rfl
  | cons c r ih =>
    have hge := Lib.index_ge r [b]
    unfold Lib.cut at ih ⊢
    unfold Lib.index
    by_cases hc : c = b
    · subst hc
      simp [List.isPrefixOf]
    · have e : ([b] : List UInt8).isPrefixOf (c :: r) = false := by simp [List.isPrefixOf]; exact fun h => hc h.symm
      have e2 : (!(c == b)) = true := by simp [hc]
      rw [e, List.takeWhile_cons, e2]
      simp only [Bool.false_eq_true, if_false, if_true]
      by_cases hi : Lib.index r [b] = -1
      · rw [hi] at ih ⊢
        simp at ih ⊢
        exact ih
      · have e3 : (Lib.index r [b] == -1) = false := by simpa using hi
        rw [e3]
        have h0 : 0 ≤ Lib.index r [b] := by omega
        rw [if_pos h0] at ih
        simp only [Bool.false_eq_true, if_false]
        rw [if_pos (by omega), ← ih, show (Lib.index r [b] + 1).toNat = (Lib.index r [b]).toNat + 1 by omega]
        rfl
theorem split_ne (s : ByteArray) (b : UInt8) : 0 < (split s b).length := by unfold split; simp
end Go.Proofs.YtlbigpkajfdkjaaDoor.split
