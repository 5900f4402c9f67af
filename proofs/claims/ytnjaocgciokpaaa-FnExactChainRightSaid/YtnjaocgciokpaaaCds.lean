/- Codes in the model: l9Code, l9Count, l9Scores, l9Total; IsCode, CodeScores, CodeTotal. -/
import Derived.Test.YtnjaocgciokpaaaCdm
import Derived.Test.YtnjaocgciokpaaaLmm
import Derived.Test.YtnjaocgciokpaaaApp
namespace Go.Proofs.Ytnjaocgciokpaaa.cds
open Go.RowKit Go.Deep Go.Proofs.Ytnjaocgciokpaaa.base
open Go.Proofs.Ytnjaocgciokpaaa.ints (ret_int infoInt)
open Go.Proofs.Ytnjaocgciokpaaa.val (ret_b)
open Go.Proofs.Ytnjaocgciokpaaa.play (within withinB withinB_yes withinB_no)
open Go.Proofs.Ytnjaocgciokpaaa.cdm

theorem code_of {n : Int} {cs : List Int} (h : 1 ≤ n ∧ n ≤ 3) : withinB (2 ^ n.toNat) 0 1 cs = codeB n cs := by
  by_cases hw : within (2 ^ n.toNat) 0 1 cs
  · rw [withinB_yes hw, codeB_yes ⟨h, hw⟩]
  · rw [withinB_no hw, codeB_no (fun h' => hw h'.2)]


theorem spec_code (n : Int) (v : Value) (cs : List Int) (w : World) (h : Ints w v cs) :
    Calls Try.prog 54 #[.int .i64 n, v] w fun e w' => e = .returned (.bool (codeB n cs)) ∧ w = w' := by
  by_cases hn : 1 ≤ n ∧ n ≤ 3
  · rw [← code_of hn]
    have hc := play.spec_bits v cs (2 ^ n.toNat) w h
    obtain ⟨va, vn, vc, rfl⟩ := h.shape
    clear h
    rcases three hn with rfl | rfl | rfl
    · have HC := Lib.hid hc
      clear hc hn
      go_enter Try.func54, Try.ntmps54
      go_wp2_with fail
      refine (val.in_yes _ _ _ _ (by omega) (by omega)).mono ?_
      rintro e w' ⟨rfl, rfl⟩
      go_wp2_with fail
      refine HC.out.mono ?_
      rintro e w' ⟨rfl, rfl⟩
      go_wp2_with fail
      go_ret
      exact ⟨rfl, rfl⟩
    · have HC := Lib.hid hc
      clear hc hn
      go_enter Try.func54, Try.ntmps54
      go_wp2_with fail
      refine (val.in_yes _ _ _ _ (by omega) (by omega)).mono ?_
      rintro e w' ⟨rfl, rfl⟩
      go_wp2_with fail
      refine HC.out.mono ?_
      rintro e w' ⟨rfl, rfl⟩
      go_wp2_with fail
      go_ret
      exact ⟨rfl, rfl⟩
    · have HC := Lib.hid hc
      clear hc hn
      go_enter Try.func54, Try.ntmps54
      go_wp2_with fail
      refine (val.in_yes _ _ _ _ (by omega) (by omega)).mono ?_
      rintro e w' ⟨rfl, rfl⟩
      go_wp2_with fail
      refine HC.out.mono ?_
      rintro e w' ⟨rfl, rfl⟩
      go_wp2_with fail
      go_ret
      exact ⟨rfl, rfl⟩
  · rw [codeB_no (fun h' => hn h'.1)]
    obtain ⟨va, vn, vc, rfl⟩ := h.shape
    have hb : n < 1 ∨ 3 < n := by omega
    clear h hn
    go_enter Try.func54, Try.ntmps54
    go_wp2_with fail
    refine (val.in_no _ _ _ _ hb).mono ?_
    rintro e w' ⟨rfl, rfl⟩
    clear hb
    go_wp2_with fail
    go_ret
    exact ⟨rfl, rfl⟩



theorem spec_is (n : Int) (v : Value) (cs : List Int) (w : World) (h : Ints w v cs) :
    Calls Try.prog 15 #[.int .i64 n, v] w fun e w' => e = .returned (.bool (codeB n cs)) ∧ Below w.heap.size w w' := by
  have HC := Lib.hid (spec_code n v cs w h)
  obtain ⟨va, vn, vc, rfl⟩ := h.shape
  clear h
  go_enter Try.func15, Try.ntmps15
  go_wp2_with fail
  refine HC.out.mono ?_
  rintro e w' ⟨rfl, rfl⟩
  go_wp2_with fail
  go_ret
  exact ⟨rfl, Below.refl _ _⟩



set_option maxRecDepth 100000 in
set_option maxHeartbeats 2000000 in
theorem spec_count (v : Value) (cs : List Int) (m : Int) (i nv : Nat) (w : World) (h : Ints w v cs) (hl : cs.length ≤ 8) (hi : i ≤ 2) :
    Calls Try.prog 60 #[v, .int .i64 m, .int .i64 (i : Int), .int .i64 (nv : Int)] w fun e w' => e = .returned (.int .i64 ((c cs m i nv : Nat) : Int)) ∧ w = w' := by
  obtain ⟨A, b, o, cap, rfl, hcap, hmax, hA, hc⟩ := h.form
  have hm : (cs.length : Int) ≤ 9223372036854775807 := by omega
  have h8 : (cs.length : Int) ≤ 8 := by omega
  have hi2 : (i : Int) ≤ 2 := by omega
  clear h hmax hcap
  go_enter Try.func60, Try.ntmps60
  go_wp2_with fail
  go_loopw [9, 10] (fun s q wr => ∃ (k : Nat) (z : Int), k ≤ cs.length ∧ q = .int .i64 k ∧ s = .int .i64 z ∧ Hid (z = ((cnt cs m i nv k : Nat) : Int)) ∧ 0 ≤ z ∧ z ≤ 8 ∧ w = wr) (fun _ q _ => cs.length - (intOf q).toNat)
  case atStart => exact ⟨0, 0, Nat.zero_le _, rfl, rfl, rfl, by omega, by omega, rfl⟩
  case round =>
    obtain ⟨k, z, hk, rfl, rfl, hz, hz0, hz8, rfl⟩ := hrel
    by_cases hlt : k < cs.length
    · have hkz : (k : Int) < (cs.length : Int) := by omega
      obtain rfl := hA (by omega)
      obtain ⟨y, g0, hy⟩ : ∃ y, w.cell? ⟨b, o + k, none⟩ = some (.int .i64 y) ∧ cs.getD k 2 = y := ⟨_, hc k hlt, by simp [List.getD, hlt]; try rfl⟩
      have HC := Lib.hid hc
      have HLT := Lib.hid hlt
      have HG := Lib.hid hy
      have HX := Lib.hid (and_lt k i (by omega))
      have HB := Lib.hid (cnt_le cs m i nv (k + 1))
      clear hc hA hy
      by_cases e1 : y = m
      · have d1 : (y == m) = true := by simp [e1]
        by_cases e2 : lt k i = nv
        · have HN := Lib.hid (cnt_yes (cs := cs) (m := m) (i := i) (v := nv) (k := k) ⟨HG.out.trans e1, e2⟩)
          have d2 : (bits .and .i64 ((k : Int) / 2 ^ i) 1 == (nv : Int)) = true := by rw [HX.out, e2]; simp
          clear e1 e2 hlt
          go_wp2_with fail
          go_roundw
          case rel => exact ⟨k + 1, _, by have := HLT.out; omega, by go_num, rfl, Lib.hid (by rw [HN.out, hz.out]; simp), by omega, by have := HB.out; have := HN.out; have := hz.out; have := HLT.out; omega, by first | rfl | trivial⟩
          case measure => have := HLT.out; simp [intOf]; omega
        · have HN := Lib.hid (cnt_no (cs := cs) (m := m) (i := i) (v := nv) (k := k) (fun h => e2 h.2))
          have d2 : (bits .and .i64 ((k : Int) / 2 ^ i) 1 == (nv : Int)) = false := by rw [HX.out]; simp; omega
          clear e1 e2 hlt
          go_wp2_with fail
          go_roundw
          case rel => exact ⟨k + 1, _, by have := HLT.out; omega, by go_num, rfl, Lib.hid (by rw [HN.out, hz.out]), hz0, hz8, by first | rfl | trivial⟩
          case measure => have := HLT.out; simp [intOf]; omega
      · have d1 : (y == m) = false := by simp [e1]
        have HN := Lib.hid (cnt_no (cs := cs) (m := m) (i := i) (v := nv) (k := k) (fun h => e1 (HG.out.symm.trans h.1)))
        clear e1 hlt
        go_wp2_with fail
        go_roundw
        case rel => exact ⟨k + 1, _, by have := HLT.out; omega, by go_num, rfl, Lib.hid (by rw [HN.out, hz.out]), hz0, hz8, by first | rfl | trivial⟩
        case measure => have := HLT.out; simp [intOf]; omega
    · have hkz : ¬ (k : Int) < (cs.length : Int) := by omega
      obtain rfl : k = cs.length := by omega
      clear hc hA
      go_wp2_with fail
      go_ret
      exact ⟨ret_int hz.out, rfl⟩

end Go.Proofs.Ytnjaocgciokpaaa.cds
