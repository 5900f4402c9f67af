/- Contracts of the laws' own helpers over slices of strings: markText, eqStringS, markStringS, heldStringS. -/
import Derived.Test.YtfcoodhilpbehaaBase
import Derived.Test.YtfcoodhilpbehaaChecked
import Derived.Lib.SlBytesConst
import Derived.Laws.Concat
import Derived.Laws.BytesArg
import Derived.Deep.RegionHeld3
namespace Go.Proofs.Ytfcoodhilpbehaa.sta
open Go.RowKit Go.Deep Go.Proofs.Ytfcoodhilpbehaa.base

/-- a number's decimal digits ahead of others -/
def mtl : Nat → List UInt8 → List UInt8
  | 0, out => out
  | n + 1, out => mtl ((n + 1) / 10) ((48 + UInt8.ofNat ((n + 1) % 10)) :: out)
termination_by n => n
decreasing_by omega
theorem mtl_pos {n : Nat} (h : 0 < n) (out : List UInt8) : mtl n out = mtl (n / 10) ((48 + UInt8.ofNat (n % 10)) :: out) := by
  obtain ⟨m, rfl⟩ : ∃ m, n = m + 1 := ⟨n - 1, by omega⟩
  rw [mtl]
theorem mtl_zero (out : List UInt8) : mtl 0 out = out := by rw [mtl]
/-- what markText answers -/
def MT (k : Nat) : ByteArray := ⟨([109] ++ mtl k []).toArray⟩

theorem str_one (x : Int) : strOfNums [x] = ⟨[UInt8.ofNat x.toNat].toArray⟩ := rfl
theorem cat_list (a b : List UInt8) : (⟨a.toArray⟩ : ByteArray) ++ ⟨b.toArray⟩ = ⟨(a ++ b).toArray⟩ := by
  apply ByteArray.ext
  rw [ByteArray.data_append]
  apply Array.ext'
  simp


/-! ### slices of strings -/
def Strs (w : World) (v : Value) (ss : List ByteArray) : Prop := Sl w v (ss.map Value.string)
theorem Strs.below {w w' : World} {v : Value} {ss : List ByteArray} (h : Strs w v ss) (hb : Below w.heap.size w w') : Strs w' v ss := Sl.below h hb
theorem Strs.form {w : World} {v : Value} {ss : List ByteArray} (h : Strs w v ss) :
    ∃ (A : Option Addr) (b o cap : Nat), v = .slice A ss.length cap ∧ ss.length ≤ cap ∧ cap ≤ maxLen ∧ (0 < ss.length → A = some ⟨b, o, none⟩) ∧
      ∀ k (hk : k < ss.length), w.cell? ⟨b, o + k, none⟩ = some (.string ss[k]) := by
  obtain ⟨A, b, o, cap, hv, h1, h2, h3, hc⟩ := Sl.form h
  rw [List.length_map] at hv h1 h3
  exact ⟨A, b, o, cap, hv, h1, h2, h3, fun k hk => hc k _ (by simp [hk])⟩
/-- a slice of strings of the call's own -/
structure OwnStrs (w : World) (B T : Nat) (v : Value) (ss : List ByteArray) : Prop where
  strs : Strs w v ss
  ge : ∀ p, In v p → B ≤ p.block
  lt : ∀ p, In v p → p.block < T
  free : ∀ p, In v p → w.frozen? p = false
theorem OwnStrs.keep {w w' : World} {B T : Nat} {v : Value} {ss : List ByteArray} (h : OwnStrs w B T v ss) (hb : Below w.heap.size w w') : OwnStrs w' B T v ss :=
  ⟨h.strs.below hb, h.ge, h.lt, fun p hp => (hb.frozen (In.lt h.strs hp)).trans (h.free p hp)⟩
theorem OwnStrs.mono {w : World} {B B' T T' : Nat} {v : Value} {ss : List ByteArray} (h : OwnStrs w B T v ss) (hB : B' ≤ B) (hT : T ≤ T') : OwnStrs w B' T' v ss :=
  ⟨h.strs, fun p hp => Nat.le_trans hB (h.ge p hp), fun p hp => Nat.lt_of_lt_of_le (h.lt p hp) hT, h.free⟩
/-- k, k + 1, .. as markText says them -/
def marksS (k : Nat) (n : Nat) : List ByteArray := (List.range n).map fun i => MT (k + i)
theorem len_marksS (k n : Nat) : (marksS k n).length = n := by simp [marksS]
theorem get_marksS (k n i : Nat) (h : i < (marksS k n).length) : (marksS k n)[i] = MT (k + i) := by simp [marksS]







end Go.Proofs.Ytfcoodhilpbehaa.sta
