/- Strings parted at a byte: what comes, l1Split and SplitString of the model. -/
import Derived.Test.YtfcoodhilpbehaaSta
namespace Go.Proofs.Ytfcoodhilpbehaa.stb
open Go.RowKit Go.Deep Go.Proofs.Ytfcoodhilpbehaa.base
open Go.Proofs.Ytfcoodhilpbehaa.sta

theorem u8_eq {a b : UInt8} (h : ((a.toNat : Int) == (b.toNat : Int)) = true) : a = b := UInt8.toNat_inj.1 (by have := eq_of_beq h; omega)
theorem u8_ne {a b : UInt8} (h : ((a.toNat : Int) == (b.toNat : Int)) = false) : ¬ a = b := by
  rintro rfl
  rw [beq_self_eq_true] at h
  cases h
theorem at_all (s : ByteArray) (k : Nat) (h : k < s.size) : s.data.toList[k]? = some s[k] := by
  rw [Array.getElem?_toList]
  exact Array.getElem?_eq_getElem h
theorem len_data (s : ByteArray) : s.data.toList.length = s.size := by rw [Array.length_toList]; rfl
/-- what has been gathered behind k bytes, and where the open part begins -/
def st (s : ByteArray) (b : UInt8) : Nat → List ByteArray × Nat
  | 0 => ([], 0)
  | k + 1 => if s.data.toList[k]? = some b then ((st s b k).1 ++ [s.extract (st s b k).2 k], k + 1) else st s b k
def split (s : ByteArray) (b : UInt8) : List ByteArray := (st s b s.size).1 ++ [s.extract (st s b s.size).2 s.size]
theorem st_le (s : ByteArray) (b : UInt8) : ∀ k, (st s b k).2 ≤ k ∧ (st s b k).1.length ≤ k
  | 0 => ⟨Nat.le_refl _, Nat.le_refl _⟩
  | k + 1 => by
    have := st_le s b k
    unfold st
    split
    · exact ⟨Nat.le_refl _, by simp; omega⟩
    · exact ⟨by omega, by omega⟩
theorem st_hit {s : ByteArray} {b : UInt8} {k : Nat} (h : s.data.toList[k]? = some b) : st s b (k + 1) = ((st s b k).1 ++ [s.extract (st s b k).2 k], k + 1) := if_pos h
theorem st_miss {s : ByteArray} {b : UInt8} {k : Nat} (h : ¬ s.data.toList[k]? = some b) : st s b (k + 1) = st s b k := if_neg h

theorem info9 : (Try.prog.info? 9).map (fun i => (i.zero, i.size, i.bytes)) = some (some (.string ⟨#[]⟩), 1, 16) := by kernel_rfl

theorem one_at (w : World) (v : Value) (t : TypeId) : ∀ (j : Nat) (u : Value), [v][j]? = some u → (w.alloc (.cells #[v] t)).cell? ((⟨w.heap.size, 0, none⟩ : Addr).add j) = some u := by
  intro j u hj
  match j, hj with
  | 0, hj =>
    simp at hj; subst hj
    simp [Addr.add]


end Go.Proofs.Ytfcoodhilpbehaa.stb
