/- Codes in the program: letterOf, isLetterCount, IsCode, letterCodeOf. -/
import Derived.Test.YtnjaocgciokpaaaCds
import Derived.Test.YtnjaocgciokpaaaPrt
namespace Go.Proofs.Ytnjaocgciokpaaa.cdi
open Go.RowKit Go.Deep Go.Proofs.Ytnjaocgciokpaaa.base
open Go.Proofs.Ytnjaocgciokpaaa.ints (ret_int infoInt)
open Go.Proofs.Ytnjaocgciokpaaa.val (ret_b)
open Go.Proofs.Ytnjaocgciokpaaa.play (within withinB withinB_yes withinB_no)
open Go.Proofs.Ytnjaocgciokpaaa.cdm


theorem letter (k i : Nat) (w : World) (hk : k < 64) (hi : i ≤ 2) :
    Calls Try.prog 71 #[.int .i64 (k : Int), .int .i64 (i : Int)] w fun e w' => e = .returned (.int .i64 ((lt k i : Nat) : Int)) ∧ w = w' := by
  have HX := Lib.hid (and_lt k i hk)
  have hi2 : (i : Int) ≤ 2 := by omega
  go_enter Try.func71, Try.ntmps71
  go_wp2_with fail
  go_ret
  exact ⟨ret_int HX.out, rfl⟩


theorem letter3 (k i : Nat) (w : World) (hk : k < 64) (hi : i ≤ 3) :
    Calls Try.prog 71 #[.int .i64 (k : Int), .int .i64 (i : Int)] w fun e w' => e = .returned (.int .i64 ((lt k i : Nat) : Int)) ∧ w = w' := by
  have HX := Lib.hid (and_lt k i hk)
  have hi2 : (i : Int) ≤ 3 := by omega
  go_enter Try.func71, Try.ntmps71
  go_wp2_with fail
  go_ret
  exact ⟨ret_int HX.out, rfl⟩


theorem count_yes (n : Int) (w : World) (h : 1 ≤ n ∧ n ≤ 3) : Calls Try.prog 55 #[.int .i64 n] w fun e w' => e = .returned (.bool true) ∧ w = w' := by
  rcases three h with rfl | rfl | rfl <;>
  · clear h
    go_enter Try.func55, Try.ntmps55
    go_wp2_with fail
    go_ret
    exact ⟨rfl, rfl⟩
theorem count_no (n : Int) (w : World) (h : ¬ (1 ≤ n ∧ n ≤ 3)) : Calls Try.prog 55 #[.int .i64 n] w fun e w' => e = .returned (.bool false) ∧ w = w' := by
  by_cases h1 : 1 ≤ n
  · have d1 : decide (n ≥ 1) = true := by simp; omega
    have d2 : decide (n ≤ 3) = false := by simp; omega
    clear h
    go_enter Try.func55, Try.ntmps55
    go_wp2_with fail
    go_ret
    exact ⟨rfl, rfl⟩
  · have d1 : decide (n ≥ 1) = false := by simp; omega
    clear h
    go_enter Try.func55, Try.ntmps55
    go_wp2_with fail
    go_ret
    exact ⟨rfl, rfl⟩


theorem impl_code (n : Int) (v : Value) (cs : List Int) (w : World) (h : Ints w v cs) :
    Calls Try.prog 17 #[.int .i64 n, v] w fun e w' => e = .returned (.bool (codeB n cs)) ∧ w = w' := by
  by_cases hn : 1 ≤ n ∧ n ≤ 3
  · rw [← cds.code_of hn]
    have HC := Lib.hid (play.impl_bits v cs (2 ^ n.toNat) w h)
    have HN := Lib.hid hn
    obtain ⟨va, vn, vc, rfl⟩ := h.shape
    clear h
    rcases three hn with rfl | rfl | rfl <;>
    · clear hn
      go_enter Try.func17, Try.ntmps17
      go_wp2_with fail
      refine (count_yes _ _ HN.out).mono ?_
      rintro e w' ⟨rfl, rfl⟩
      go_wp2_with fail
      refine HC.out.mono ?_
      rintro e w' ⟨rfl, rfl⟩
      go_wp2_with fail
      go_ret
      exact ⟨rfl, rfl⟩
  · rw [codeB_no (fun h' => hn h'.1)]
    obtain ⟨va, vn, vc, rfl⟩ := h.shape
    have HN := Lib.hid hn
    clear h hn
    go_enter Try.func17, Try.ntmps17
    go_wp2_with fail
    refine (count_no _ _ HN.out).mono ?_
    rintro e w' ⟨rfl, rfl⟩
    go_wp2_with fail
    go_ret
    exact ⟨rfl, rfl⟩
theorem impl_is (n : Int) (v : Value) (cs : List Int) (w : World) (h : Ints w v cs) :
    Calls Try.prog 17 #[.int .i64 n, v] w fun e w' => e = .returned (.bool (codeB n cs)) ∧ Below w.heap.size w w' :=
  (impl_code n v cs w h).mono fun _ _ ⟨h1, h2⟩ => ⟨h1, h2 ▸ Below.refl _ _⟩


theorem of_any (n : Int) (v : Value) (cs : List Int) (w : World) (h : Ints w v cs) :
    Calls Try.prog 58 #[.int .i64 n, v] w fun e w' => e = .returned (.tuple (if codeB n cs then #[.agg #[.int .i64 n, v], .bool true] else #[.agg #[.int .i64 0, .slice none 0 0], .bool false])) ∧ Below w.heap.size w w' := by
  have B0 := Lib.hid (below_al (Below.refl w.heap.size w) (.cells #[.int .i64 0, .slice none 0 0] 60))
  have HC := Lib.hid (impl_code n v cs _ (h.below B0.out))
  have R0 := Lib.hid (Blk.new w 60 #[.int .i64 0, .slice none 0 0])
  obtain ⟨va, vn, vc, rfl⟩ := h.shape
  clear h
  obtain ⟨w1, hw1⟩ : ∃ w1, w.alloc (.cells #[.int .i64 0, .slice none 0 0] 60) = w1 := ⟨_, rfl⟩
  rw [hw1] at HC R0 B0
  have R1 : Hid (Blk ((w1.setCell ⟨w.heap.size, 0, none⟩ (.int .i64 n)).setCell ⟨w.heap.size, 1, none⟩ (.slice va vn vc)) w.heap.size 60 #[.int .i64 n, .slice va vn vc]) := Lib.hid (by
    have h1 := Joins.block_setCell (i := 0) R0.out (.int .i64 n)
    have h2 := Joins.block_setCell (i := 1) h1 (.slice va vn vc)
    simpa [Blk] using h2)
  have R2 : Hid (Blk ((w1.setCell ⟨w.heap.size, 0, none⟩ (.int .i64 0)).setCell ⟨w.heap.size, 1, none⟩ (.slice none 0 0)) w.heap.size 60 #[.int .i64 0, .slice none 0 0]) := Lib.hid (by
    have h1 := Joins.block_setCell (i := 0) R0.out (.int .i64 0)
    have h2 := Joins.block_setCell (i := 1) h1 (.slice none 0 0)
    simpa [Blk] using h2)
  obtain ⟨c0, c1⟩ := prt.two_cells R0.out
  obtain ⟨d0, d1⟩ := prt.two_cells R1.out
  obtain ⟨e0, e1⟩ := prt.two_cells R2.out
  have rf : ∀ k, w1.frozen? ⟨w.heap.size, k, none⟩ = false := fun k => Joins.unfrozen_of_block R0.out k
  cases hb : codeB n cs with
  | true =>
    rw [hb] at HC
    rw [if_pos rfl]
    clear hb e0 e1
    go_enter Try.func58, Try.ntmps58
    go_wp2_with fail
    refine HC.out.mono ?_
    rintro e w' ⟨rfl, rfl⟩
    go_wp2_with fail
    refine bodyPost_ret (v := .tuple #[.agg #[.int .i64 n, .slice va vn vc], .bool true]) (by simp [results, Try.results58, go_sem, d0, d1]) rfl ⟨rfl, ?_⟩
    exact Below.setCell (Below.setCell B0.out (Nat.le_refl _) _) (Nat.le_refl _) _
  | false =>
    rw [hb] at HC
    rw [if_neg (by simp)]
    clear hb d0 d1
    go_enter Try.func58, Try.ntmps58
    go_wp2_with fail
    refine HC.out.mono ?_
    rintro e w' ⟨rfl, rfl⟩
    go_wp2_with fail
    refine bodyPost_ret (v := .tuple #[.agg #[.int .i64 0, .slice none 0 0], .bool false]) (by simp [results, Try.results58, go_sem, e0, e1]) rfl ⟨rfl, ?_⟩
    exact Below.setCell (Below.setCell B0.out (Nat.le_refl _) _) (Nat.le_refl _) _

end Go.Proofs.Ytnjaocgciokpaaa.cdi
