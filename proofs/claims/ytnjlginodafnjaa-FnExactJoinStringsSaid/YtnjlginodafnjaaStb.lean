/- Strings parted at a byte: what comes, l1Split and SplitString of the model. -/
import Derived.Test.YtnjlginodafnjaaSta
namespace Go.Proofs.Ytnjlginodafnjaa.stb
open Go.RowKit Go.Deep Go.Proofs.Ytnjlginodafnjaa.base
open Go.Proofs.Ytnjlginodafnjaa.sta

theorem u8_eq {a b : UInt8} (h : ((a.toNat : Int) == (b.toNat : Int)) = true) : a = b := UInt8.toNat_inj.1 (by have := eq_of_beq h; omega)
theorem u8_ne {a b : UInt8} (h : ((a.toNat : Int) == (b.toNat : Int)) = false) : ¬ a = b := by
  rintro rfl
  rw [beq_self_eq_true] at h
  cases h
theorem at_all (s : ByteArray) (k : Nat) (h : k < s.size) : s.data.toList[k]? = some s[k] := by
  rw [Array.getElem?_toList]
  exact Array.getElem?_eq_getElem h
theorem len_data (s : ByteArray) : s.data.toList.length = s.size := by rw [Array.length_toList]; rfl
/-- what has been gathered behind k bytes, and where the open part begins -/
def st (s : ByteArray) (b : UInt8) : Nat → List ByteArray × Nat
  | 0 => ([], 0)
  | k + 1 => if s.data.toList[k]? = some b then ((st s b k).1 ++ [s.extract (st s b k).2 k], k + 1) else st s b k
def split (s : ByteArray) (b : UInt8) : List ByteArray := (st s b s.size).1 ++ [s.extract (st s b s.size).2 s.size]
theorem st_le (s : ByteArray) (b : UInt8) : ∀ k, (st s b k).2 ≤ k ∧ (st s b k).1.length ≤ k
  | 0 => ⟨Nat.le_refl _, Nat.le_refl _⟩
  | k + 1 => by
    have := st_le s b k
    unfold st
    split
    · exact ⟨Nat.le_refl _, by simp; omega⟩
    · exact ⟨by omega, by omega⟩
theorem st_hit {s : ByteArray} {b : UInt8} {k : Nat} (h : s.data.toList[k]? = some b) : st s b (k + 1) = ((st s b k).1 ++ [s.extract (st s b k).2 k], k + 1) := if_pos h
theorem st_miss {s : ByteArray} {b : UInt8} {k : Nat} (h : ¬ s.data.toList[k]? = some b) : st s b (k + 1) = st s b k := if_neg h

theorem info9 : (Try.prog.info? 9).map (fun i => (i.zero, i.size, i.bytes)) = some (some (.string ⟨#[]⟩), 1, 16) := by kernel_rfl

theorem one_at (w : World) (v : Value) (t : TypeId) : ∀ (j : Nat) (u : Value), [v][j]? = some u → (w.alloc (.cells #[v] t)).cell? ((⟨w.heap.size, 0, none⟩ : Addr).add j) = some u := by
  intro j u hj
  match j, hj with
  | 0, hj =>
    simp at hj; subst hj
    simp [Addr.add]

set_option maxHeartbeats 1000000 in
theorem split_any (s : ByteArray) (b : UInt8) (w : World) (hs : s.size ≤ 1048576) :
    Calls Try.prog 14 #[.string s, .int .u8 b.toNat] w fun e w' => ∃ v, e = .returned v ∧ w'.ownsRow w.heap.size 9 1 v (split s b).length ((split s b).map Value.string) ∧ Below w.heap.size w w' := by
  obtain ⟨i0, hi, hz0, hz1, hz2⟩ := info_parts info9
  go_enter Try.func14, Try.ntmps14
  go_wp2_with fail
  go_loopw [5, 6, 7] (fun out fr i wr => ∃ k f : Nat, k ≤ s.size ∧ i = .int .i64 k ∧ fr = .int .i64 f ∧ f ≤ k ∧ Hid (f = (st s b k).2) ∧ Hid (wr.ownsRow w.heap.size 9 1 out (st s b k).1.length ((st s b k).1.map Value.string)) ∧ Below w.heap.size w wr) (fun _ _ i _ => s.size - (intOf i).toNat)
  case atStart => exact ⟨0, 0, Nat.zero_le _, rfl, rfl, Nat.le_refl _, Lib.hid rfl, Lib.hid (World.ownsRow_made _ #[] 0 (Nat.le_refl _) (Nat.zero_le _) rfl), (Below.refl _ _).alloc (Nat.le_refl _) _⟩
  case round =>
    obtain ⟨k, f, hk, rfl, rfl, hfk, hf, hown, hb⟩ := hrel
    have HB := Lib.hid hb
    have hsz := hb.size
    clear hb
    have hst := (st_le s b k).2
    have HL : Hid ((st s b k).1.length ≤ k) := Lib.hid hst
    clear hst
    by_cases hlt : k < s.size
    · go_wp2_with (at_builtin; refine wpList_append_own _ rfl (.tmp 20) (.tmp 25) 22 rfl w.heap.size 9 i0 (.string ⟨#[]⟩) 1 16 Try.underlying22 hi hz0 hz1 hz2 rfl (by decide) _ _ _ rfl (hown.out.alloc _) ⟨wr.heap.size, 0, none⟩ 1 1 [.string (s.extract f k)] rfl rfl ?c1 ?c2 ?c3 ?c4 ?c5 ?_)
      case c1 => exact one_at _ _ _
      case c2 => intro u hu; simp at hu; subst hu; rfl
      case c3 => have := HL.out; unfold maxLen; omega
      case c4 => have := HL.out; omega
      case c5 => simp; omega
      · intro v' w1 hown' hgrow _
        have hb : s[k] = b := u8_eq (by assumption)
        have hk' : s.data.toList[k]? = some b := by rw [at_all s k hlt, hb]
        have hB2 : Below w.heap.size w w1 := (HB.out.alloc hsz _).grown hgrow (by simp; omega) (fun j hj => (hown.out.lt j hj).1)
        have HS := Lib.hid (st_hit hk')
        have H2 : Hid (w1.ownsRow w.heap.size 9 1 v' (st s b (k + 1)).1.length ((st s b (k + 1)).1.map Value.string)) := Lib.hid (by
          rw [HS.out, ← hf.out]; simpa using hown')
        have H3 := Lib.hid hB2
        clear hown' hgrow hB2 hk' hb
        go_wp2_with fail
        go_roundw
        case rel => exact ⟨k + 1, k + 1, by omega, by go_num, by go_num, Nat.le_refl _, Lib.hid (by rw [HS.out]), H2, H3.out⟩
        case measure => simp [intOf]; omega
      · have hb : ¬ s[k] = b := u8_ne (by assumption)
        have HS : st s b (k + 1) = st s b k := st_miss (by rw [at_all s k hlt]; intro e; injection e with e; exact hb e)
        go_roundw
        case rel => exact ⟨k + 1, f, by omega, by go_num, rfl, by omega, Lib.hid (by rw [HS, ← hf.out]), by rw [HS]; exact hown, HB.out⟩
        case measure => simp [intOf]; omega
    · go_wp2_with (at_builtin; refine wpList_append_own _ rfl (.tmp 29) (.tmp 33) 22 rfl w.heap.size 9 i0 (.string ⟨#[]⟩) 1 16 Try.underlying22 hi hz0 hz1 hz2 rfl (by decide) _ _ _ rfl (hown.out.alloc _) ⟨wr.heap.size, 0, none⟩ 1 1 [.string (s.extract f s.size)] rfl rfl ?c1 ?c2 ?c3 ?c4 ?c5 ?_)
      case c1 => exact one_at _ _ _
      case c2 => intro u hu; simp at hu; subst hu; rfl
      case c3 => have := HL.out; unfold maxLen; omega
      case c4 => have := HL.out; omega
      case c5 => simp; omega
      · intro v' w1 hown' hgrow _
        have hB2 : Below w.heap.size w w1 := (HB.out.alloc hsz _).grown hgrow (by simp; omega) (fun j hj => (hown.out.lt j hj).1)
        have hks : k = s.size := by omega
        have H2 : Hid (w1.ownsRow w.heap.size 9 1 v' (split s b).length ((split s b).map Value.string)) := Lib.hid (by
          have e : st s b k = st s b s.size := by rw [hks]
          have h := hown'
          have hf' := hf.out
          rw [e] at h hf'
          unfold split; rw [← hf']; simpa using h)
        have H3 := Lib.hid hB2
        clear hown' hgrow hB2 hks
        go_wp2_with fail
        go_ret
        exact ⟨_, rfl, H2.out, H3.out⟩


end Go.Proofs.Ytnjlginodafnjaa.stb
