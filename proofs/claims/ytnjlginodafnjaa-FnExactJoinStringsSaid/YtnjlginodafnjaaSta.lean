/- Contracts of the laws' own helpers over slices of strings: markText, eqStringS, markStringS, heldStringS. -/
import Derived.Test.YtnjlginodafnjaaBase
import Derived.Test.YtnjlginodafnjaaChecked
import Derived.Lib.SlBytesConst
import Derived.Laws.Concat
import Derived.Laws.BytesArg
import Derived.Deep.RegionHeld3
namespace Go.Proofs.Ytnjlginodafnjaa.sta
open Go.RowKit Go.Deep Go.Proofs.Ytnjlginodafnjaa.base

/-- a number's decimal digits ahead of others -/
def mtl : Nat → List UInt8 → List UInt8
  | 0, out => out
  | n + 1, out => mtl ((n + 1) / 10) ((48 + UInt8.ofNat ((n + 1) % 10)) :: out)
termination_by n => n
decreasing_by omega
theorem mtl_pos {n : Nat} (h : 0 < n) (out : List UInt8) : mtl n out = mtl (n / 10) ((48 + UInt8.ofNat (n % 10)) :: out) := by
  obtain ⟨m, rfl⟩ : ∃ m, n = m + 1 := ⟨n - 1, by omega⟩
  rw [mtl]
theorem mtl_zero (out : List UInt8) : mtl 0 out = out := by rw [mtl]
/-- what markText answers -/
def MT (k : Nat) : ByteArray := ⟨([109] ++ mtl k []).toArray⟩

theorem str_one (x : Int) : strOfNums [x] = ⟨[UInt8.ofNat x.toNat].toArray⟩ := rfl
theorem cat_list (a b : List UInt8) : (⟨a.toArray⟩ : ByteArray) ++ ⟨b.toArray⟩ = ⟨(a ++ b).toArray⟩ := by
  apply ByteArray.ext
  rw [ByteArray.data_append]
  apply Array.ext'
  simp

set_option maxHeartbeats 1000000 in
theorem mark_text (n : Nat) (w : World) (h : 0 < n) (hn : n ≤ 16777216) :
    Calls Try.prog 16 #[.int .i64 (n : Int)] w fun e w' => e = .returned (.string (MT n)) ∧ Below w.heap.size w w' := by
  have hg : ¬ (n : Int) ≤ 0 := by omega
  have hconv : ∀ (W : World) (x : Int), (convert 41 9 (.slice (some ⟨W.heap.size, 0, none⟩) 1 1)).run Try.prog (W.alloc (.cells #[.int .u8 x] 5)) = .ok (.string ⟨[UInt8.ofNat x.toNat].toArray⟩) (W.alloc (.cells #[.int .u8 x] 5)) := fun W x => by
    rw [← str_one]
    refine run_convert_bytes_arg _ 41 5 Try.underlying41 Try.underlying5 _ 0 1 1 [x] rfl (fun i hi => ?_) _ Try.underlying9
    obtain rfl : i = 0 := by omega
    have := Blk.new W 5 #[.int .u8 x]
    unfold Blk at this
    show World.cell? _ ⟨W.heap.size, 0, none⟩ = _
    unfold World.cell?
    rw [this]
    rfl
  go_enter Try.func16, Try.ntmps16
  go_wp2_with fail
  go_loopw [0, 3] (fun a b wr => ∃ (k : Nat) (out : List UInt8), k ≤ n ∧ a = .int .i64 (k : Int) ∧ b = .string ⟨out.toArray⟩ ∧ Hid (mtl n [] = mtl k out ∧ out.length + k ≤ n) ∧ Hid (Below w.heap.size w wr)) (fun a _ _ => (intOf a).toNat)
  case atStart => exact ⟨n, [], Nat.le_refl _, rfl, rfl, Lib.hid ⟨rfl, by simp⟩, Lib.hid (Below.refl _ _)⟩
  case round =>
    obtain ⟨k, out, hk, rfl, rfl, hm, hb⟩ := hrel
    have hol : out.length ≤ n := by have := hm.out.2; omega
    by_cases h0 : 0 < k
    · have hk0 : (k : Int) > 0 := by omega
      have hsz : ¬ (9223372036854775807 < 1 + out.length) := by omega
      have hq : IntKind.i64.wrap ((k : Int) / 10) = ((k / 10 : Nat) : Int) := by rw [IntWalk.i64_in _ (by omega)]; omega
      have ht : (48 + (k : Int) % 10).toNat = 48 + k % 10 := by omega
      have HM : Hid (mtl n [] = mtl (k / 10) ((48 + UInt8.ofNat (k % 10)) :: out) ∧ ((48 + UInt8.ofNat (k % 10)) :: out).length + k / 10 ≤ n) := Lib.hid ⟨by rw [hm.out.1, mtl_pos h0], by have := hm.out.2; simp; omega⟩
      clear hol
      go_wp2_with fail
      go_roundw
      case rel => exact ⟨k / 10, (48 + UInt8.ofNat (k % 10)) :: out, by omega, by first | go_num | rfl | (congr 1; omega), congrArg Value.string (cat_list [48 + UInt8.ofNat (k % 10)] out), HM, Lib.hid (below_al hb.out _)⟩
      case measure => simp [intOf]; omega
    · obtain rfl : k = 0 := by omega
      have hsz : ¬ (9223372036854775807 < 1 + out.length) := by omega
      have hMT : Hid ((⟨#[109]⟩ : ByteArray) ++ ⟨out.toArray⟩ = MT n) := Lib.hid (by
        have := hm.out.1
        rw [mtl_zero] at this
        unfold MT
        rw [this]
        exact cat_list [109] out)
      clear hol
      go_wp2_with fail
      go_ret
      exact ⟨by rw [hMT.out]; rfl, hb.out⟩


/-! ### slices of strings -/
def Strs (w : World) (v : Value) (ss : List ByteArray) : Prop := Sl w v (ss.map Value.string)
theorem Strs.below {w w' : World} {v : Value} {ss : List ByteArray} (h : Strs w v ss) (hb : Below w.heap.size w w') : Strs w' v ss := Sl.below h hb
theorem Strs.form {w : World} {v : Value} {ss : List ByteArray} (h : Strs w v ss) :
    ∃ (A : Option Addr) (b o cap : Nat), v = .slice A ss.length cap ∧ ss.length ≤ cap ∧ cap ≤ maxLen ∧ (0 < ss.length → A = some ⟨b, o, none⟩) ∧
      ∀ k (hk : k < ss.length), w.cell? ⟨b, o + k, none⟩ = some (.string ss[k]) := by
  obtain ⟨A, b, o, cap, hv, h1, h2, h3, hc⟩ := Sl.form h
  rw [List.length_map] at hv h1 h3
  exact ⟨A, b, o, cap, hv, h1, h2, h3, fun k hk => hc k _ (by simp [hk])⟩
/-- a slice of strings of the call's own -/
structure OwnStrs (w : World) (B T : Nat) (v : Value) (ss : List ByteArray) : Prop where
  strs : Strs w v ss
  ge : ∀ p, In v p → B ≤ p.block
  lt : ∀ p, In v p → p.block < T
  free : ∀ p, In v p → w.frozen? p = false
theorem OwnStrs.keep {w w' : World} {B T : Nat} {v : Value} {ss : List ByteArray} (h : OwnStrs w B T v ss) (hb : Below w.heap.size w w') : OwnStrs w' B T v ss :=
  ⟨h.strs.below hb, h.ge, h.lt, fun p hp => (hb.frozen (In.lt h.strs hp)).trans (h.free p hp)⟩
theorem OwnStrs.mono {w : World} {B B' T T' : Nat} {v : Value} {ss : List ByteArray} (h : OwnStrs w B T v ss) (hB : B' ≤ B) (hT : T ≤ T') : OwnStrs w B' T' v ss :=
  ⟨h.strs, fun p hp => Nat.le_trans hB (h.ge p hp), fun p hp => Nat.lt_of_lt_of_le (h.lt p hp) hT, h.free⟩
/-- k, k + 1, .. as markText says them -/
def marksS (k : Nat) (n : Nat) : List ByteArray := (List.range n).map fun i => MT (k + i)
theorem len_marksS (k n : Nat) : (marksS k n).length = n := by simp [marksS]
theorem get_marksS (k n i : Nat) (h : i < (marksS k n).length) : (marksS k n)[i] = MT (k + i) := by simp [marksS]


set_option maxHeartbeats 1000000 in
theorem eq_same (v u : Value) (ss : List ByteArray) (w : World) (h : Strs w v ss) (h' : Strs w u ss) :
    Calls Try.prog 7 #[v, u] w fun e w' => e = .returned (.bool true) ∧ Below w.heap.size w w' := by
  obtain ⟨A, b, o, cap, rfl, hcap, hmax, hA, hc⟩ := h.form
  obtain ⟨A', b', o', cap', rfl, hcap', hmax', hA', hc'⟩ := h'.form
  clear h h'
  unfold maxLen at hmax hmax'
  have hb0 : ((ss.length : Int) != (ss.length : Int)) = false := by simp
  go_enter Try.func7, Try.ntmps7
  go_wp2
  go_loopw [5] (fun i wr => ∃ k, k ≤ ss.length ∧ i = .int .i64 k ∧ ∃ q, wr = w.drewN q) (fun i _ => ss.length - (intOf i).toNat)
  case atStart => exact ⟨0, Nat.zero_le _, rfl, 0, rfl⟩
  case round =>
    obtain ⟨k, hk, rfl, q, rfl⟩ := hrel
    by_cases hlt : k < ss.length
    · have hkz : (k : Int) < (ss.length : Int) := by omega
      obtain rfl := hA (by omega)
      obtain rfl := hA' (by omega)
      have g0 := hc k hlt
      have g0' := hc' k hlt
      clear hc hc' hA hA'
      go_wp2
      go_quiet (fail)
      go_wp2
      go_roundw
      case rel => exact ⟨k + 1, by omega, by first | go_num | rfl | (congr 1; omega), _, rfl⟩
      case measure => simp [intOf]; omega
    · have hkz : ¬ (k : Int) < (ss.length : Int) := by omega
      clear hc hc' hA hA'
      go_wp2
      go_ret
      exact ⟨rfl, below_drewN (Below.refl _ _) _⟩



set_option maxHeartbeats 1000000 in
theorem mark_own (v : Value) (ss : List ByteArray) (k0 : Nat) (B T : Nat) (w : World) (h : OwnStrs w B T v ss) (hBT : B ≤ w.heap.size) (hn : ss.length ≤ 1048576) (h0 : 0 < k0) (h1 : k0 ≤ 1048576) :
    Calls Try.prog 8 #[v, .int .i64 (k0 : Int)] w fun e w' => e = .returned (.int .i64 ((k0 : Int) + ss.length)) ∧ Strs w' v (marksS k0 ss.length) ∧ Below B w w' := by
  obtain ⟨A, b, o, cap, rfl, hcap, hmax, hA, hc⟩ := h.strs.form
  have H := Lib.hid h
  have HM := Lib.hid hmax
  clear h hmax
  go_enter Try.func8, Try.ntmps8
  go_wp2
  go_loopw [1, 5] (fun c i wr => ∃ k, k ≤ ss.length ∧ i = .int .i64 k ∧ c = .int .i64 ((k0 : Int) + k) ∧ Hid (Below B w wr ∧ (∀ j, j < k → wr.cell? ⟨b, o + j, none⟩ = some (.string (MT (k0 + j)))) ∧ (∀ j, j < ss.length → (∃ u, wr.cell? ⟨b, o + j, none⟩ = some u) ∧ wr.frozen? ⟨b, o + j, none⟩ = false))) (fun _ i _ => ss.length - (intOf i).toNat)
  case atStart => exact ⟨0, Nat.zero_le _, rfl, by simp, Below.refl _ _, fun j hj => by omega, fun j hj => ⟨⟨_, hc j hj⟩, H.out.free _ (by obtain rfl := hA (by omega); exact ⟨b, o, _, cap, rfl, rfl, rfl, by simp, by simp; omega⟩)⟩⟩
  case round =>
    obtain ⟨k, hk, rfl, rfl, hrel⟩ := hrel
    by_cases hlt : k < ss.length
    · have hkz : (k : Int) < (ss.length : Int) := by omega
      obtain rfl := hA (by omega)
      obtain ⟨⟨u, g1⟩, g2⟩ := hrel.out.2.2 k hlt
      have hMT := mark_text (k0 + k) wr (by omega) (by omega)
      have hbl : Hid (B ≤ b) := Lib.hid (H.out.ge ⟨b, o + k, none⟩ ⟨b, o, _, cap, rfl, rfl, rfl, by simp, by simp; omega⟩)
      have e1 : ((k0 + k : Nat) : Int) = (k0 : Int) + k := by omega
      rw [e1] at hMT
      have HT := Lib.hid hMT
      clear hMT hc e1
      go_wp2_with fail
      refine HT.out.mono ?_
      rintro e w1 ⟨rfl, hb⟩
      have f1 := below_cell hb _ _ g1
      have hl := World.block_lt_of_cell? _ _ g1
      have f2 : w1.frozen? ⟨b, o + k, none⟩ = false := (hb.frozen (p := ⟨b, o + k, none⟩) hl).trans g2
      have HB := Lib.hid hb
      clear g1 g2 hl hb
      go_wp2_with fail
      go_roundw
      case rel =>
        refine ⟨k + 1, by omega, by first | go_num | rfl | (congr 1; omega), by first | go_num | rfl | (congr 1; omega), Lib.hid ⟨((hrel.out.1.trans (HB.out.mono (Nat.le_trans hBT hrel.out.1.size))).setCell (p := ⟨b, o + k, none⟩) hbl.out _), fun j hj => ?_, fun j hj => ?_⟩⟩
        · by_cases e : j = k
          · subst e
            exact World.cell?_setCell_same _ _ _ f1
          · rw [World.cell?_setCell_other _ _ _ _ (by intro e2; injection e2; omega)]
            exact below_cell HB.out _ _ (hrel.out.2.1 j (by omega))
        · obtain ⟨⟨u, h1⟩, h2⟩ := hrel.out.2.2 j hj
          refine ⟨setCell_there (below_cell HB.out _ _ h1), ?_⟩
          rw [World.frozen?_setCell]
          exact (HB.out.frozen (p := ⟨b, o + j, none⟩) (World.block_lt_of_cell? _ _ h1)).trans h2
      case measure => simp [intOf]; omega
    · have hkz : ¬ (k : Int) < (ss.length : Int) := by omega
      obtain rfl : k = ss.length := by omega
      clear hc
      go_wp2
      go_ret
      refine ⟨rfl, ⟨A, cap, by rw [List.length_map, len_marksS], by rw [List.length_map, len_marksS]; exact hcap, HM.out, fun j u hu => ?_⟩, hrel.out.1⟩
      have hj : j < ss.length := by
        rcases Nat.lt_or_ge j ss.length with g | g
        · exact g
        · rw [List.getElem?_eq_none (by rw [List.length_map, len_marksS]; exact g)] at hu; cases hu
      have hu' : u = .string (MT (k0 + j)) := by
        have hj' : j < (marksS k0 ss.length).length := by rw [len_marksS]; exact hj
        rw [List.getElem?_map, List.getElem?_eq_getElem hj', get_marksS] at hu
        exact (Option.some.inj hu).symm
      subst hu'
      exact ⟨b, o, hA (by omega), hrel.out.2.1 j hj⟩



set_option maxHeartbeats 1000000 in
theorem held (v : Value) (n k0 : Nat) (w : World) (h : Strs w v (marksS k0 n)) (hn : n ≤ 1048576) (h0 : 0 < k0) (h1 : k0 ≤ 1048576) :
    Calls Try.prog 9 #[v, .int .i64 (k0 : Int)] w fun e w' => e = .returned (.int .i64 ((k0 : Int) + n)) ∧ Below w.heap.size w w' := by
  obtain ⟨A, b, o, cap, rfl, hcap, hmax, hA, hc⟩ := h.form
  clear h hmax
  have hc : ∀ k, k < n → w.cell? ⟨b, o + k, none⟩ = some (.string (MT (k0 + k))) := fun k hk => by
    have := hc k (by rw [len_marksS]; exact hk)
    rw [get_marksS] at this
    exact this
  rw [len_marksS] at hcap hA ⊢
  go_enter Try.func9, Try.ntmps9
  go_wp2
  go_loopw [1, 5] (fun c i wr => ∃ k, k ≤ n ∧ i = .int .i64 k ∧ c = .int .i64 ((k0 : Int) + k) ∧ Hid (Below w.heap.size w wr)) (fun _ i _ => n - (intOf i).toNat)
  case atStart => exact ⟨0, Nat.zero_le _, rfl, by simp, Lib.hid (Below.refl _ _)⟩
  case round =>
    obtain ⟨k, hk, rfl, rfl, hB⟩ := hrel
    obtain ⟨wi, rfl⟩ : ∃ wi : World, wi = wr := ⟨_, rfl⟩
    by_cases hlt : k < n
    · have hkz : (k : Int) < (n : Int) := by omega
      obtain rfl := hA (by omega)
      have g0 := below_cell hB.out _ _ (hc k hlt)
      have hMT : Hid (∀ W, Calls Try.prog 16 #[.int .i64 ((k0 : Int) + k)] W fun e w' => e = .returned (.string (MT (k0 + k))) ∧ Below W.heap.size W w') := Lib.hid (fun W => by
        have := mark_text (k0 + k) W (by omega) (by omega)
        have e1 : ((k0 + k : Nat) : Int) = (k0 : Int) + k := by omega
        rw [e1] at this
        exact this)
      clear hc hA
      go_wp2_with fail
      go_region_held3 (fun w' => w'.cell? ⟨b, o + k, none⟩ = some (.string (MT (k0 + k))) ∧ Below wi.heap.size wi w')
        ((refine ⟨below_cell ?_ _ _ g0, ?_⟩; all_goals (repeat (first | (with_reducible exact Below.refl _ _) | (with_reducible assumption) | (with_reducible refine below_dr ?_) | (with_reducible refine below_tr ?_ (by assumption))))))
        ((go_at_call 16; (with_reducible refine (hMT.out _).mono ?_); rintro e w3 ⟨rfl, hq⟩))
      all_goals
        have B3 := Lib.hid (below_tr hB.out (below_tr (below_dr (Below.refl _ _)) hq))
        go_wp2_with fail
        go_roundw
        case rel => first | exact ⟨k + 1, by omega, by first | go_num | rfl | (congr 1; omega), by first | go_num | rfl | (congr 1; omega), B3⟩ | exact ⟨k + 1, by omega, by first | go_num | rfl | (congr 1; omega), by first | go_num | rfl | (congr 1; omega), Lib.hid B3.out.drew⟩
        case measure => simp [intOf]; omega
    · have hkz : ¬ (k : Int) < (n : Int) := by omega
      obtain rfl : k = n := by omega
      clear hc hA
      go_wp2
      go_ret
      exact ⟨rfl, hB.out⟩


end Go.Proofs.Ytnjlginodafnjaa.sta
