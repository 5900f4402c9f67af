/- Plain rectangles: l8Plain of the model, plainNumber of the program; IsPlain. -/
import Derived.Test.YtimfnhejiiagmaaGrid
import Derived.Test.YtimfnhejiiagmaaRis
namespace Go.Proofs.Ytimfnhejiiagmaa.pln
open Go.RowKit Go.Deep Go.Proofs.Ytimfnhejiiagmaa.base
open Go.Proofs.Ytimfnhejiiagmaa.ints (ret_int)
open Go.Proofs.Ytimfnhejiiagmaa.val (ret_b)
open Go.Proofs.Ytimfnhejiiagmaa.play (ret_bb)
open Go.Proofs.Ytimfnhejiiagmaa.task (okTask wide taskB taskB_yes taskB_no)
open Go.Proofs.Ytimfnhejiiagmaa.grid

open Classical in
/-- what l8Plain answers -/
noncomputable def num (xss : List (List Int)) (rs cs : List Int) : Int := if plain xss rs cs then first xss rs cs else -1
theorem num_yes {xss : List (List Int)} {rs cs : List Int} (h : plain xss rs cs) : num xss rs cs = first xss rs cs := if_pos h
theorem num_no {xss : List (List Int)} {rs cs : List Int} (h : ¬ plain xss rs cs) : num xss rs cs = -1 := if_neg h
theorem num_of {xss : List (List Int)} {rs cs : List Int} {z : Int} (h : plain xss rs cs) (e : z = first xss rs cs) : Ending.returned (.int .i64 z) = .returned (.int .i64 (num xss rs cs)) := by rw [num_yes h, e]

set_option maxHeartbeats 2000000 in
theorem spec_plain (v : Value) (xss : List (List Int)) (v1 : Value) (rs : List Int) (v2 : Value) (cs : List Int) (w : World) (h : IRows w v xss) (h1 : Ints w v1 rs) (h2 : Ints w v2 cs)
    (hok : okTask xss) (hr : inB xss.length rs) (hc : inB (wide xss) cs) :
    Calls Try.prog 165 #[v, v1, v2] w fun e w' => e = .returned (.int .i64 (num xss rs cs)) ∧ ∃ q, w' = w.drewN q := by
  obtain ⟨B, d, cap, rb, ro, rc, rfl, hT⟩ := cells h hok
  obtain ⟨b1, o1, c1, rfl, hL1⟩ := lists h1 hr
  obtain ⟨b2, o2, c2, rfl, hL2⟩ := lists h2 hc
  have HT := Lib.hid hT
  have HL1 := Lib.hid hL1
  have HL2 := Lib.hid hL2
  have m1 := len_max h1
  have m2 := len_max h2
  obtain ⟨x0, x1⟩ := hL1 0 hr.1
  obtain ⟨y0, y1⟩ := hL2 0 hc.1
  obtain ⟨t0, t1⟩ := hT _ x1
  have u0 := t1 _ y1
  rw [Nat.add_zero] at x0 y0
  have p1 : (0 : Int) < (rs.length : Int) := by have := hr.1; omega
  have p2 : (0 : Int) < (cs.length : Int) := by have := hc.1; omega
  have p3 : ((at_ rs 0 : Nat) : Int) < (xss.length : Int) := by omega
  have p4 : ((at_ cs 0 : Nat) : Int) < (wide xss : Int) := by omega
  have HF : Hid (nn xss (at_ rs 0) (at_ cs 0) = first xss rs cs) := Lib.hid rfl
  rw [HF.out] at u0
  have HR := Lib.hid hr
  have HC := Lib.hid hc
  clear h h1 h2 hT hL1 hL2 t1 hr hc
  go_enter Try.func165, Try.ntmps165
  go_wp2_with fail
  go_quiet (fail)
  go_wp2_with fail
  clear x0 y0 t0 u0 p3 p4
  go_loopw [6, 8, 9] (fun q' i j wr => ∃ a : Nat, a ≤ rs.length ∧ i = .int .i64 a ∧ q' = .int .i64 0 ∧ (∃ z, j = z) ∧ Hid (∀ a' b, a' < a → b < cs.length → nn xss (at_ rs a') (at_ cs b) = first xss rs cs) ∧ ∃ n, wr = w.drewN n) (fun _ i _ _ => rs.length - (intOf i).toNat)
  case atStart => exact ⟨0, Nat.zero_le _, rfl, rfl, ⟨_, rfl⟩, fun a' b h => by omega, _, rfl⟩
  case round =>
    obtain ⟨a, ha, rfl, rfl, ⟨z, rfl⟩, hH, n, rfl⟩ := hrel
    by_cases hlt : a < rs.length
    · have hkz : (a : Int) < (rs.length : Int) := by omega
      obtain ⟨x0, x1⟩ := HL1.out a hlt
      obtain ⟨t0, t1⟩ := HT.out _ x1
      have p3 : ((at_ rs a : Nat) : Int) < (xss.length : Int) := by omega
      have HT1 := Lib.hid t1
      clear t1
      go_wp2_with fail
      go_loopw [6, 9] (fun q' j wr => ∃ b : Nat, b ≤ cs.length ∧ j = .int .i64 b ∧ q' = .int .i64 0 ∧ Hid (∀ b', b' < b → nn xss (at_ rs a) (at_ cs b') = first xss rs cs) ∧ ∃ n, wr = w.drewN n) (fun _ j _ => cs.length - (intOf j).toNat)
      case atStart => exact ⟨0, Nat.zero_le _, rfl, rfl, fun b h => by omega, _, rfl⟩
      case round =>
        obtain ⟨b, hb, rfl, rfl, hI, n, rfl⟩ := hrel
        by_cases hlt2 : b < cs.length
        · have hkz2 : (b : Int) < (cs.length : Int) := by omega
          obtain ⟨y0, y1⟩ := HL2.out b hlt2
          have u0 := HT1.out _ y1
          have p4 : ((at_ cs b : Nat) : Int) < (wide xss : Int) := by omega
          by_cases he : nn xss (at_ rs a) (at_ cs b) = first xss rs cs
          · have dk : (nn xss (at_ rs a) (at_ cs b) != first xss rs cs) = false := by simp [he]
            have HE := Lib.hid he
            clear he
            go_wp2_with fail
            go_quiet (fail)
            go_wp2_with fail
            go_roundw
            case rel =>
              refine ⟨b + 1, by omega, by go_num, rfl, fun b' hb' => ?_, by first | exact ⟨_, rfl⟩ | exact ⟨_, World.drewN_drewN _ _ _⟩⟩
              by_cases e : b' = b
              · subst e; exact HE.out
              · exact hI.out b' (by omega)
            case measure => simp [intOf]; omega
          · have dk : (nn xss (at_ rs a) (at_ cs b) != first xss rs cs) = true := by simp [he]
            have HN : Hid (¬ plain xss rs cs) := Lib.hid (fun h => he (h a b hlt hlt2))
            clear he
            go_wp2_with fail
            go_quiet (fail)
            go_wp2_with fail
            go_ret
            exact ⟨ret_int (num_no HN.out).symm, by first | exact ⟨_, rfl⟩ | exact ⟨_, World.drewN_drewN _ _ _⟩⟩
        · have hkz2 : ¬ (b : Int) < (cs.length : Int) := by omega
          go_wp2_with fail
          go_roundw
          case rel =>
            refine ⟨a + 1, by omega, by go_num, rfl, ⟨_, rfl⟩, fun a' b' ha' hb' => ?_, by first | exact ⟨_, rfl⟩ | exact ⟨_, World.drewN_drewN _ _ _⟩⟩
            by_cases e : a' = a
            · subst e; exact hI.out b' (by omega)
            · exact hH.out a' b' (by omega) hb'
          case measure => simp [intOf]; omega
    · have hkz : ¬ (a : Int) < (rs.length : Int) := by omega
      have HN : Hid (plain xss rs cs) := Lib.hid (fun a' b ha' hb => hH.out a' b (by omega) hb)
      go_wp2_with fail
      go_ret
      exact ⟨ret_int (num_yes HN.out).symm, _, rfl⟩

open Classical in
/-- what plainNumber answers -/
noncomputable def res (xss : List (List Int)) (rs cs : List Int) : Int × Bool := if plain xss rs cs then (first xss rs cs, true) else (0, false)
theorem res_yes {xss : List (List Int)} {rs cs : List Int} (h : plain xss rs cs) : res xss rs cs = (first xss rs cs, true) := if_pos h
theorem res_no {xss : List (List Int)} {rs cs : List Int} (h : ¬ plain xss rs cs) : res xss rs cs = (0, false) := if_neg h
theorem ret_ib {a c : Int} {b d : Bool} (h : (a, b) = (c, d)) : Ending.returned (.tuple #[.int .i64 a, .bool b]) = .returned (.tuple #[.int .i64 c, .bool d]) := by
  injection h with h1 h2; rw [h1, h2]

set_option maxHeartbeats 2000000 in
theorem impl_plain (v : Value) (xss : List (List Int)) (v1 : Value) (rs : List Int) (v2 : Value) (cs : List Int) (w : World) (h : IRows w v xss) (h1 : Ints w v1 rs) (h2 : Ints w v2 cs)
    (hok : okTask xss) (hr : inB xss.length rs) (hc : inB (wide xss) cs) :
    Calls Try.prog 201 #[v, v1, v2] w fun e w' => e = .returned (.tuple #[.int .i64 (res xss rs cs).1, .bool (res xss rs cs).2]) ∧ ∃ q, w' = w.drewN q := by
  obtain ⟨B, d, cap, rb, ro, rc, rfl, hT⟩ := cells h hok
  obtain ⟨b1, o1, c1, rfl, hL1⟩ := lists h1 hr
  obtain ⟨b2, o2, c2, rfl, hL2⟩ := lists h2 hc
  have HT := Lib.hid hT
  have HL1 := Lib.hid hL1
  have HL2 := Lib.hid hL2
  have m1 := len_max h1
  have m2 := len_max h2
  obtain ⟨x0, x1⟩ := hL1 0 hr.1
  obtain ⟨y0, y1⟩ := hL2 0 hc.1
  obtain ⟨t0, t1⟩ := hT _ x1
  have u0 := t1 _ y1
  rw [Nat.add_zero] at x0 y0
  have p1 : (0 : Int) < (rs.length : Int) := by have := hr.1; omega
  have p2 : (0 : Int) < (cs.length : Int) := by have := hc.1; omega
  have p3 : ((at_ rs 0 : Nat) : Int) < (xss.length : Int) := by omega
  have p4 : ((at_ cs 0 : Nat) : Int) < (wide xss : Int) := by omega
  have HF : Hid (nn xss (at_ rs 0) (at_ cs 0) = first xss rs cs) := Lib.hid rfl
  rw [HF.out] at u0
  have HR := Lib.hid hr
  have HC := Lib.hid hc
  clear h h1 h2 hT hL1 hL2 t1 hr hc
  go_enter Try.func201, Try.ntmps201
  go_wp2_with fail
  go_quiet (fail)
  go_wp2_with fail
  clear x0 y0 t0 u0 p3 p4
  go_loopw [6, 7, 10, 12, 26] (fun q' q2 z1 z2 i wr => ∃ a : Nat, a ≤ rs.length ∧ i = .int .i64 a ∧ q' = .int .i64 0 ∧ q2 = .bool false ∧ (∃ z, z1 = z) ∧ (∃ z, z2 = z) ∧ Hid (∀ a' b, a' < a → b < cs.length → nn xss (at_ rs a') (at_ cs b) = first xss rs cs) ∧ ∃ n, wr = w.drewN n) (fun _ _ _ _ i _ => rs.length - (intOf i).toNat)
  case atStart => exact ⟨0, Nat.zero_le _, rfl, rfl, rfl, ⟨_, rfl⟩, ⟨_, rfl⟩, fun a' b h => by omega, _, rfl⟩
  case round =>
    obtain ⟨a, ha, rfl, rfl, rfl, ⟨z1, rfl⟩, ⟨z2, rfl⟩, hH, n, rfl⟩ := hrel
    by_cases hlt : a < rs.length
    · have hkz : (a : Int) < (rs.length : Int) := by omega
      obtain ⟨x0, x1⟩ := HL1.out a hlt
      obtain ⟨t0, t1⟩ := HT.out _ x1
      have p3 : ((at_ rs a : Nat) : Int) < (xss.length : Int) := by omega
      have HT1 := Lib.hid t1
      clear t1
      go_wp2_with fail
      go_loopw [6, 7, 12, 32] (fun q' q2 z2 j wr => ∃ b : Nat, b ≤ cs.length ∧ j = .int .i64 b ∧ q' = .int .i64 0 ∧ q2 = .bool false ∧ (∃ z, z2 = z) ∧ Hid (∀ b', b' < b → nn xss (at_ rs a) (at_ cs b') = first xss rs cs) ∧ ∃ n, wr = w.drewN n) (fun _ _ _ j _ => cs.length - (intOf j).toNat)
      case atStart => exact ⟨0, Nat.zero_le _, rfl, rfl, rfl, ⟨_, rfl⟩, fun b h => by omega, _, rfl⟩
      case round =>
        obtain ⟨b, hb, rfl, rfl, rfl, ⟨z2, rfl⟩, hI, n, rfl⟩ := hrel
        by_cases hlt2 : b < cs.length
        · have hkz2 : (b : Int) < (cs.length : Int) := by omega
          obtain ⟨y0, y1⟩ := HL2.out b hlt2
          have u0 := HT1.out _ y1
          have p4 : ((at_ cs b : Nat) : Int) < (wide xss : Int) := by omega
          by_cases he : nn xss (at_ rs a) (at_ cs b) = first xss rs cs
          · have dk : (nn xss (at_ rs a) (at_ cs b) != first xss rs cs) = false := by simp [he]
            have HE := Lib.hid he
            clear he
            go_wp2_with fail
            go_roundw
            case rel =>
              refine ⟨b + 1, by omega, by go_num, rfl, rfl, ⟨_, rfl⟩, fun b' hb' => ?_, by first | exact ⟨_, rfl⟩ | exact ⟨_, World.drewN_drewN _ _ _⟩⟩
              by_cases e : b' = b
              · subst e; exact HE.out
              · exact hI.out b' (by omega)
            case measure => simp [intOf]; omega
          · have dk : (nn xss (at_ rs a) (at_ cs b) != first xss rs cs) = true := by simp [he]
            have HN : Hid (¬ plain xss rs cs) := Lib.hid (fun h => he (h a b hlt hlt2))
            clear he
            go_wp2_with fail
            go_ret2
            exact ⟨ret_ib (res_no HN.out).symm, by first | exact ⟨_, rfl⟩ | exact ⟨_, World.drewN_drewN _ _ _⟩⟩
        · have hkz2 : ¬ (b : Int) < (cs.length : Int) := by omega
          go_wp2_with fail
          go_roundw
          case rel =>
            refine ⟨a + 1, by omega, by go_num, rfl, rfl, ⟨_, rfl⟩, ⟨_, rfl⟩, fun a' b' ha' hb' => ?_, by first | exact ⟨_, rfl⟩ | exact ⟨_, World.drewN_drewN _ _ _⟩⟩
            by_cases e : a' = a
            · subst e; exact hI.out b' (by omega)
            · exact hH.out a' b' (by omega) hb'
          case measure => simp [intOf]; omega
    · have hkz : ¬ (a : Int) < (rs.length : Int) := by omega
      have HN : Hid (plain xss rs cs) := Lib.hid (fun a' b ha' hb => hH.out a' b (by omega) hb)
      go_wp2_with fail
      go_ret2
      exact ⟨ret_ib (res_yes HN.out).symm, _, rfl⟩

end Go.Proofs.Ytimfnhejiiagmaa.pln
