/- Mathematics of parting and joining: the parts of a text joined again are the text. -/
import Derived.Test.YtfcoodhilpbehaaSte
namespace Go.Proofs.Ytfcoodhilpbehaa.sth
open Go.RowKit Go.Deep Go.Proofs.Ytfcoodhilpbehaa.base
open Go.Proofs.Ytfcoodhilpbehaa.sta Go.Proofs.Ytfcoodhilpbehaa.stb Go.Proofs.Ytfcoodhilpbehaa.ste

theorem jo_app (L M : List ByteArray) (b : UInt8) : ∀ k, k ≤ L.length → jo (L ++ M) b k = jo L b k
  | 0, _ => rfl
  | k + 1, h => by
    rw [jo, jo, jo_app L M b k (by omega)]
    simp [List.getD, List.getElem?_append_left (show k < L.length by omega)]
theorem jo_snoc (L : List ByteArray) (p : ByteArray) (b : UInt8) : jo (L ++ [p]) b (L.length + 1) = (if L.length = 0 then [] else jo L b L.length ++ [b]) ++ p.data.toList := by
  rw [jo, jo_app L [p] b L.length (Nat.le_refl _)]
  simp [List.getD]
theorem extract_list (s : ByteArray) (a c : Nat) : (s.extract a c).data.toList = (s.data.toList.drop a).take (c - a) := by
  rw [ByteArray.data_extract, Array.toList_extract]
theorem get_of {s : ByteArray} {k : Nat} (h : k < s.size) : s.data.toList[k]'(by rw [len_data]; exact h) = s[k] := by
  have := at_all s k h
  rw [List.getElem?_eq_getElem (by rw [len_data]; exact h)] at this
  exact Option.some.inj this

/-- what is known behind k bytes -/
structure Inv (s : ByteArray) (b : UInt8) (k : Nat) : Prop where
  none_ : (st s b k).1 = [] → (st s b k).2 = 0
  some_ : (st s b k).1 ≠ [] → 1 ≤ (st s b k).2 ∧ s.data.toList[(st s b k).2 - 1]? = some b ∧ jo (st s b k).1 b (st s b k).1.length = s.data.toList.take ((st s b k).2 - 1)
  free : ∀ p ∈ (st s b k).1, ¬ stands p b
  open_ : ∀ j, (st s b k).2 ≤ j → j < k → s.data.toList[j]? ≠ some b
theorem part_free {s : ByteArray} {b : UInt8} {a c : Nat} (h : ∀ j, a ≤ j → j < c → s.data.toList[j]? ≠ some b) : ¬ stands (s.extract a c) b := by
  rintro ⟨j, hj⟩
  rw [extract_list] at hj
  have hlt : j < c - a := by
    rcases Nat.lt_or_ge j (c - a) with g | g
    · exact g
    · rw [List.getElem?_take, if_neg (by omega)] at hj; cases hj
  rw [List.getElem?_take, if_pos hlt, List.getElem?_drop] at hj
  exact h (a + j) (by omega) (by omega) hj
/-- the parts so far and the part that ends at c, joined: the first c bytes -/
theorem joined {s : ByteArray} {b : UInt8} {k c : Nat} (h : Inv s b k) (hc : (st s b k).2 ≤ c) (hs : c ≤ s.size) : jo ((st s b k).1 ++ [s.extract (st s b k).2 c]) b ((st s b k).1.length + 1) = s.data.toList.take c := by
  rw [jo_snoc, extract_list]
  by_cases e : (st s b k).1 = []
  · rw [if_pos (by rw [e]; rfl), h.none_ e]
    simp
  · obtain ⟨h1, h2, h3⟩ := h.some_ e
    rw [if_neg (fun z => e (List.eq_nil_of_length_eq_zero z)), h3]
    obtain ⟨f, hf⟩ : ∃ f, (st s b k).2 = f + 1 := ⟨(st s b k).2 - 1, by omega⟩
    rw [hf] at h2 hc ⊢
    simp only [Nat.add_sub_cancel] at h2 ⊢
    have e1 : s.data.toList.take (f + 1) = s.data.toList.take f ++ [b] := by
      have hlt : f < s.data.toList.length := by rw [len_data]; omega
      rw [List.take_succ_eq_append_getElem hlt]
      rw [List.getElem?_eq_getElem hlt] at h2
      rw [Option.some.inj h2]
    rw [← e1]
    have e2 : c = (f + 1) + (c - (f + 1)) := by omega
    conv => rhs; rw [e2, List.take_add]
theorem inv (s : ByteArray) (b : UInt8) : ∀ k, k ≤ s.size → Inv s b k
  | 0, _ => ⟨fun _ => rfl, fun h => absurd rfl h, fun p hp => by simp [st] at hp, fun j _ hj => by omega⟩
  | k + 1, hk => by
    have ih := inv s b k (by omega)
    have hf := (st_le s b k).1
    by_cases h : s.data.toList[k]? = some b
    · have hs := st_hit h
      have hj := joined ih hf (by omega)
      refine ⟨fun e => by rw [hs] at e; simp at e, fun _ => ?_, fun p hp => ?_, fun j h1 h2 => by rw [hs] at h1; simp at h1; omega⟩
      · rw [hs]
        refine ⟨by simp, by simpa using h, ?_⟩
        simpa using hj
      · rw [hs] at hp
        rcases List.mem_append.1 hp with g | g
        · exact ih.free p g
        · simp at g
          subst g
          exact part_free ih.open_
    · have hs := st_miss h
      refine ⟨by rw [hs]; exact ih.none_, by rw [hs]; exact ih.some_, by rw [hs]; exact ih.free, fun j h1 h2 => ?_⟩
      rw [hs] at h1
      rcases Nat.lt_or_ge j k with g | g
      · exact ih.open_ j h1 g
      · obtain rfl : j = k := by omega
        exact h
/-- **the parts joined again are the text** -/
theorem jo_split (s : ByteArray) (b : UInt8) : jo (split s b) b (split s b).length = s.data.toList := by
  have h := inv s b s.size (Nat.le_refl _)
  have hj := joined h (st_le s b s.size).1 (Nat.le_refl _)
  unfold split
  rw [List.length_append]
  show jo _ b ((st s b s.size).1.length + 1) = _
  rw [hj, List.take_of_length_le (by rw [len_data]; exact Nat.le_refl _)]
theorem ok_split (s : ByteArray) (b : UInt8) (hs : s.size ≤ 4000) : okC (split s b) b := by
  have h := inv s b s.size (Nat.le_refl _)
  constructor
  · intro k hk
    have hm : (split s b)[k] ∈ split s b := List.getElem_mem hk
    unfold split at hm
    rcases List.mem_append.1 hm with g | g
    · exact h.free _ g
    · simp at g
      have := part_free h.open_
      rw [← g] at this
      exact this
  · obtain ⟨k, hk⟩ : ∃ k, (split s b).length = k + 1 := ⟨(st s b s.size).1.length, by unfold split; rw [List.length_append]; rfl⟩
    have e := jo_split s b
    have e2 := jo_len (split s b) b k
    rw [← hk, e, len_data] at e2
    omega
theorem pos_split (s : ByteArray) (b : UInt8) : 0 < (split s b).length := by unfold split; simp

end Go.Proofs.Ytfcoodhilpbehaa.sth
