/- TalkBits of both sides. -/
import Derived.Test.YtggodllfaggjiaaRtk
import Derived.Test.YtggodllfaggjiaaMost
import Derived.Test.YtggodllfaggjiaaPln
namespace Go.Proofs.Ytggodllfaggjiaa.tbi
open Go.RowKit Go.Deep Go.Proofs.Ytggodllfaggjiaa.base
open Go.Proofs.Ytggodllfaggjiaa.talk (TV)
open Go.Proofs.Ytggodllfaggjiaa.scene (three_cells)
open Go.Proofs.Ytggodllfaggjiaa.pln (ret_ib)
open Go.Proofs.Ytggodllfaggjiaa.tkv
open Go.Proofs.Ytggodllfaggjiaa.rtk (okOf ok_nat fst_yes fst_no)
open Go.Proofs.Ytggodllfaggjiaa.runm

/-- the greatest of m and the first n numbers -/
def scan (f : Nat → Nat) (m : Nat) : Nat → Nat
  | 0 => m
  | n + 1 => if f n ≤ scan f m n then scan f m n else f n
/-- .. of the first n rows of C numbers each -/
def most (F : Nat → Nat → Nat) (C : Nat) : Nat → Nat
  | 0 => 0
  | i + 1 => scan (F i) (most F C i) C
theorem scan_le {f : Nat → Nat} {m b : Nat} (hm : m ≤ b) : ∀ n, (∀ k, k < n → f k ≤ b) → scan f m n ≤ b := by
  intro n
  induction n with
  | zero => intro _; exact hm
  | succ n ih =>
    intro h
    unfold scan
    split
    · exact ih (fun k hk => h k (by omega))
    · exact h n (by omega)
theorem most_le {F : Nat → Nat → Nat} {C b : Nat} : ∀ n, (∀ i j, i < n → j < C → F i j ≤ b) → most F C n ≤ b := by
  intro n
  induction n with
  | zero => intro _; exact Nat.zero_le _
  | succ n ih =>
    intro h
    exact scan_le (ih (fun i j hi hj => h i j (by omega) hj)) _ (fun k hk => h n k (by omega) hk)
def many (ss : List Int) (xss : List (List Int)) (ps : List (Int × Int)) (i j : Nat) : Nat := (fin ss xss ps i j).1.length
open Classical in
/-- what TalkBits answers -/
noncomputable def res (ss : List Int) (xss : List (List Int)) (ps : List (Int × Int)) (x y : Int) : Int × Bool :=
  if okOf ss xss ps x y then (((most (many ss xss ps) y.toNat x.toNat : Nat) : Int), true) else (0, false)
theorem res_no {ss : List Int} {xss : List (List Int)} {ps : List (Int × Int)} {x y : Int} (h : ¬ okOf ss xss ps x y) : res ss xss ps x y = (0, false) := if_neg h
theorem res_yes {ss : List Int} {xss : List (List Int)} {ps : List (Int × Int)} {R C : Nat} (h : okOf ss xss ps R C) : res ss xss ps R C = (((most (many ss xss ps) C R : Nat) : Int), true) := by unfold res; rw [if_pos h]; simp


set_option maxRecDepth 100000 in
set_option maxHeartbeats 4000000 in
theorem spec_any (sv : Value) (ss : List Int) (u : Value) (xss : List (List Int)) (nv : Value) (ps : List (Int × Int)) (x y : Int) (w : World) (h : TV w sv ss u xss nv ps) :
    Calls Try.prog 32 #[.agg #[sv, u, nv], .int .i64 x, .int .i64 y] w fun e w' => e = .returned (.tuple #[.int .i64 (res ss xss ps x y).1, .bool (res ss xss ps x y).2]) ∧ Below w.heap.size w w' := by
  obtain ⟨va, vn, vc, ua, un, uc, na, nl, nc, rfl, rfl, rfl⟩ := h.shape
  have BE : Hid (Below w.heap.size w (w.alloc (.cells #[.slice va vn vc, .slice ua un uc, .slice na nl nc] 34))) := Lib.hid (below_al (Below.refl w.heap.size w) _)
  have H := Lib.hid (h.below BE.out)
  have K0 : Hid (Blk (w.alloc (.cells #[.slice va vn vc, .slice ua un uc, .slice na nl nc] 34)) w.heap.size 34 #[.slice va vn vc, .slice ua un uc, .slice na nl nc]) := Lib.hid (Blk.new _ _ _)
  obtain ⟨c0, c1, c2, c3⟩ := three_cells K0.out
  have HV := Lib.hid (tkt.spec_valid _ ss _ xss _ ps x y _ H.out)
  clear h
  by_cases hok : okOf ss xss ps x y
  · rw [fst_yes hok] at HV
    obtain ⟨R, C, rfl, rfl, ht, r1, r2, q1, q2⟩ := ok_nat hok
    rw [res_yes hok]
    have HO := Lib.hid ht
    have HRW := Lib.hid (fun (W : World) (i j : Nat) (hb : Below (w.alloc (.cells #[.slice va vn vc, .slice ua un uc, .slice na nl nc] 34)).heap.size (w.alloc (.cells #[.slice va vn vc, .slice ua un uc, .slice na nl nc] 34)) W) (hi : i < R) (hj : j < C) => run.spec_run _ ss _ xss _ ps R C i j W (H.out.below hb) HO.out hi hj)
    have HLE := Lib.hid (fun i j => fin_len HO.out i j)
    have b1 : (R : Int) ≤ 4 := by omega
    have b2 : (C : Int) ≤ 4 := by omega
    clear hok ht r1 r2 q1 q2
    go_enter Try.func32, Try.ntmps32
    go_wp2_with fail
    refine HV.out.mono ?_
    rintro e w1 ⟨rfl, hb⟩
    have L1 : Hid (Below (w.alloc (.cells #[.slice va vn vc, .slice ua un uc, .slice na nl nc] 34)).heap.size (w.alloc (.cells #[.slice va vn vc, .slice ua un uc, .slice na nl nc] 34)) w1) := Lib.hid hb
    have B1 := Lib.hid (below_tr BE.out hb)
    clear hb c0 c1 c2 c3
    go_wp2_with fail
    go_loopw [8, 9, 10, 11, 12] (fun mm s z7 z8 z9 wr => ∃ i : Nat, i ≤ R ∧ s = .int .i64 i ∧ (∃ m : Nat, mm = .int .i64 m ∧ Hid ((m : Nat) = most (many ss xss ps) C i ∧ Below (w.alloc (.cells #[.slice va vn vc, .slice ua un uc, .slice na nl nc] 34)).heap.size (w.alloc (.cells #[.slice va vn vc, .slice ua un uc, .slice na nl nc] 34)) wr)) ∧ (∃ z, z7 = z) ∧ (∃ z, z8 = z) ∧ (∃ z, z9 = z)) (fun _ s _ _ _ _ => R - (intOf s).toNat)
    case atStart => exact ⟨0, Nat.zero_le _, rfl, ⟨0, rfl, rfl, L1.out⟩, ⟨_, rfl⟩, ⟨_, rfl⟩, ⟨_, rfl⟩⟩
    case round =>
      obtain ⟨i, hi, rfl, ⟨m, rfl, hM⟩, ⟨z7, rfl⟩, ⟨z8, rfl⟩, ⟨z9, rfl⟩⟩ := hrel
      obtain ⟨wo, rfl⟩ : ∃ wo : World, wo = wr := ⟨_, rfl⟩
      by_cases hlt : i < R
      · have hkz : (i : Int) < (R : Int) := by omega
        go_wp2_with fail
        go_loopw [8, 10, 11, 12] (fun mm s z8 z9 wr => ∃ j : Nat, j ≤ C ∧ s = .int .i64 j ∧ (∃ m : Nat, mm = .int .i64 m ∧ Hid ((m : Nat) = scan (many ss xss ps i) (most (many ss xss ps) C i) j ∧ Below (w.alloc (.cells #[.slice va vn vc, .slice ua un uc, .slice na nl nc] 34)).heap.size (w.alloc (.cells #[.slice va vn vc, .slice ua un uc, .slice na nl nc] 34)) wr)) ∧ (∃ z, z8 = z) ∧ (∃ z, z9 = z)) (fun _ s _ _ _ => C - (intOf s).toNat)
        case atStart => exact ⟨0, Nat.zero_le _, rfl, ⟨m, rfl, hM⟩, ⟨_, rfl⟩, ⟨_, rfl⟩⟩
        case round =>
          obtain ⟨j, hj, rfl, ⟨m2, rfl, hM2⟩, ⟨z8, rfl⟩, ⟨z9, rfl⟩⟩ := hrel
          obtain ⟨wi, rfl⟩ : ∃ wi : World, wi = wr := ⟨_, rfl⟩
          by_cases hlt2 : j < C
          · have hkz2 : (j : Int) < (C : Int) := by omega
            obtain ⟨c0, c1, c2, c3⟩ := three_cells (K0.out.below hM2.out.2)
            clear hM
            go_wp2_with fail
            refine (HRW.out _ i j hM2.out.2 hlt hlt2).mono ?_
            rintro e w4 ⟨u', rfl, hu, hb⟩
            obtain ⟨xa, xcap, rfl⟩ := task.ints_slice hu.ints
            have B5 := Lib.hid (below_tr hM2.out.2 hb)
            have hle := HLE.out i j
            have HMY : Hid ((fin ss xss ps i j).1.length = many ss xss ps i j) := Lib.hid rfl
            clear hu hb c0 c1 c2 c3
            obtain ⟨kn, hkn⟩ : ∃ kn : Nat, (fin ss xss ps i j).1.length = kn := ⟨_, rfl⟩
            rw [hkn] at hle HMY ⊢
            clear hkn
            by_cases he : kn ≤ m2
            · have HN : Hid (m2 = scan (many ss xss ps i) (most (many ss xss ps) C i) (j + 1) ∧ Below (w.alloc (.cells #[.slice va vn vc, .slice ua un uc, .slice na nl nc] 34)).heap.size (w.alloc (.cells #[.slice va vn vc, .slice ua un uc, .slice na nl nc] 34)) w4) := Lib.hid ⟨by rw [scan, ← HMY.out, ← hM2.out.1, if_pos he], B5.out⟩
              by_cases h3 : kn < m2
              · have h4 : (kn : Int) < (m2 : Int) := by omega
                clear he h3 hle hM2
                go_wp2_with fail
                refine (part.most_fst _ _ _ h4).mono ?_
                rintro e w' ⟨rfl, rfl⟩
                clear h4
                go_wp2_with fail
                go_roundw
                case rel => exact ⟨j + 1, by omega, by go_num, ⟨_, rfl, HN.out⟩, ⟨_, rfl⟩, ⟨_, rfl⟩⟩
                case measure => simp [intOf]; omega
              · obtain rfl : kn = m2 := by omega
                have H4 : Hid (¬ (kn : Int) < (kn : Int)) := Lib.hid (by omega)
                clear he h3 hle hM2
                go_wp2_with fail
                refine (part.most_snd _ (kn : Int) _ (by have := H4.out; omega)).mono ?_
                rintro e w' ⟨rfl, rfl⟩
                go_wp2_with fail
                go_roundw
                case rel => exact ⟨j + 1, by omega, by go_num, ⟨_, rfl, HN.out⟩, ⟨_, rfl⟩, ⟨_, rfl⟩⟩
                case measure => simp [intOf]; omega
            · have HN : Hid (kn = scan (many ss xss ps i) (most (many ss xss ps) C i) (j + 1) ∧ Below (w.alloc (.cells #[.slice va vn vc, .slice ua un uc, .slice na nl nc] 34)).heap.size (w.alloc (.cells #[.slice va vn vc, .slice ua un uc, .slice na nl nc] 34)) w4) := Lib.hid ⟨by rw [scan, ← HMY.out, ← hM2.out.1, if_neg he], B5.out⟩
              have H4 : Hid (¬ (kn : Int) < (m2 : Int)) := Lib.hid (by omega)
              clear he hle hM2
              go_wp2_with fail
              refine (part.most_snd _ (kn : Int) _ (by have := H4.out; omega)).mono ?_
              rintro e w' ⟨rfl, rfl⟩
              go_wp2_with fail
              go_roundw
              case rel => exact ⟨j + 1, by omega, by go_num, ⟨_, rfl, HN.out⟩, ⟨_, rfl⟩, ⟨_, rfl⟩⟩
              case measure => simp [intOf]; omega
          · have hkz2 : ¬ (j : Int) < (C : Int) := by omega
            obtain rfl : j = C := by omega
            have HN : Hid (m2 = most (many ss xss ps) j (i + 1) ∧ Below (w.alloc (.cells #[.slice va vn vc, .slice ua un uc, .slice na nl nc] 34)).heap.size (w.alloc (.cells #[.slice va vn vc, .slice ua un uc, .slice na nl nc] 34)) wi) := Lib.hid ⟨hM2.out.1, hM2.out.2⟩
            go_wp2_with fail
            go_roundw
            case rel => exact ⟨i + 1, by omega, by go_num, ⟨m2, rfl, HN.out⟩, ⟨_, rfl⟩, ⟨_, rfl⟩, ⟨_, rfl⟩⟩
            case measure => simp [intOf]; omega
      · have hkz : ¬ (i : Int) < (R : Int) := by omega
        obtain rfl : i = R := by omega
        go_wp2_with fail
        go_ret2
        exact ⟨ret_ib (by rw [hM.out.1]), below_tr BE.out hM.out.2⟩
  · rw [fst_no hok] at HV
    rw [res_no hok]
    clear hok
    go_enter Try.func32, Try.ntmps32
    go_wp2_with fail
    refine HV.out.mono ?_
    rintro e w1 ⟨rfl, hb⟩
    have L1 : Hid (Below (w.alloc (.cells #[.slice va vn vc, .slice ua un uc, .slice na nl nc] 34)).heap.size (w.alloc (.cells #[.slice va vn vc, .slice ua un uc, .slice na nl nc] 34)) w1) := Lib.hid hb
    have B1 := Lib.hid (below_tr BE.out hb)
    clear hb c0 c1 c2 c3
    go_wp2_with fail
    go_ret2
    exact ⟨rfl, B1.out⟩



set_option maxRecDepth 100000 in
set_option maxHeartbeats 4000000 in
theorem impl_any (sv : Value) (ss : List Int) (u : Value) (xss : List (List Int)) (nv : Value) (ps : List (Int × Int)) (x y : Int) (w : World) (h : TV w sv ss u xss nv ps) :
    Calls Try.prog 33 #[.agg #[sv, u, nv], .int .i64 x, .int .i64 y] w fun e w' => e = .returned (.tuple #[.int .i64 (res ss xss ps x y).1, .bool (res ss xss ps x y).2]) ∧ Below w.heap.size w w' := by
  obtain ⟨va, vn, vc, ua, un, uc, na, nl, nc, rfl, rfl, rfl⟩ := h.shape
  have BE : Hid (Below w.heap.size w (w.alloc (.cells #[.slice va vn vc, .slice ua un uc, .slice na nl nc] 34))) := Lib.hid (below_al (Below.refl w.heap.size w) _)
  have H := Lib.hid (h.below BE.out)
  have K0 : Hid (Blk (w.alloc (.cells #[.slice va vn vc, .slice ua un uc, .slice na nl nc] 34)) w.heap.size 34 #[.slice va vn vc, .slice ua un uc, .slice na nl nc]) := Lib.hid (Blk.new _ _ _)
  obtain ⟨c0, c1, c2, c3⟩ := three_cells K0.out
  have HV := Lib.hid (tkt.impl_valid _ ss _ xss _ ps x y _ H.out)
  clear h
  by_cases hok : okOf ss xss ps x y
  · rw [fst_yes hok] at HV
    obtain ⟨R, C, rfl, rfl, ht, r1, r2, q1, q2⟩ := ok_nat hok
    rw [res_yes hok]
    have HO := Lib.hid ht
    have HRW := Lib.hid (fun (W : World) (i j : Nat) (hb : Below (w.alloc (.cells #[.slice va vn vc, .slice ua un uc, .slice na nl nc] 34)).heap.size (w.alloc (.cells #[.slice va vn vc, .slice ua un uc, .slice na nl nc] 34)) W) (hi : i < R) (hj : j < C) => run.impl_run _ ss _ xss _ ps R C i j W (H.out.below hb) HO.out hi hj)
    have HLE := Lib.hid (fun i j => fin_len HO.out i j)
    have b1 : (R : Int) ≤ 4 := by omega
    have b2 : (C : Int) ≤ 4 := by omega
    clear hok ht r1 r2 q1 q2
    go_enter Try.func33, Try.ntmps33
    go_wp2_with fail
    refine HV.out.mono ?_
    rintro e w1 ⟨rfl, hb⟩
    have L1 : Hid (Below (w.alloc (.cells #[.slice va vn vc, .slice ua un uc, .slice na nl nc] 34)).heap.size (w.alloc (.cells #[.slice va vn vc, .slice ua un uc, .slice na nl nc] 34)) w1) := Lib.hid hb
    have B1 := Lib.hid (below_tr BE.out hb)
    clear hb c0 c1 c2 c3
    go_wp2_with fail
    go_loopw [8, 9, 10, 11, 12, 19] (fun mm z6 z7 z8 z9 s wr => ∃ i : Nat, i ≤ R ∧ s = .int .i64 i ∧ (∃ m : Nat, mm = .int .i64 m ∧ Hid ((m : Nat) = most (many ss xss ps) C i ∧ Below (w.alloc (.cells #[.slice va vn vc, .slice ua un uc, .slice na nl nc] 34)).heap.size (w.alloc (.cells #[.slice va vn vc, .slice ua un uc, .slice na nl nc] 34)) wr)) ∧ (∃ z, z6 = z) ∧ (∃ z, z7 = z) ∧ (∃ z, z8 = z) ∧ (∃ z, z9 = z)) (fun _ _ _ _ _ s _ => R - (intOf s).toNat)
    case atStart => exact ⟨0, Nat.zero_le _, rfl, ⟨0, rfl, rfl, L1.out⟩, ⟨_, rfl⟩, ⟨_, rfl⟩, ⟨_, rfl⟩, ⟨_, rfl⟩⟩
    case round =>
      obtain ⟨i, hi, rfl, ⟨m, rfl, hM⟩, ⟨z6, rfl⟩, ⟨z7, rfl⟩, ⟨z8, rfl⟩, ⟨z9, rfl⟩⟩ := hrel
      obtain ⟨wo, rfl⟩ : ∃ wo : World, wo = wr := ⟨_, rfl⟩
      by_cases hlt : i < R
      · have hkz : (i : Int) < (R : Int) := by omega
        go_wp2_with fail
        go_loopw [8, 10, 11, 12, 23] (fun mm z7 z8 z9 s wr => ∃ j : Nat, j ≤ C ∧ s = .int .i64 j ∧ (∃ m : Nat, mm = .int .i64 m ∧ Hid ((m : Nat) = scan (many ss xss ps i) (most (many ss xss ps) C i) j ∧ Below (w.alloc (.cells #[.slice va vn vc, .slice ua un uc, .slice na nl nc] 34)).heap.size (w.alloc (.cells #[.slice va vn vc, .slice ua un uc, .slice na nl nc] 34)) wr)) ∧ (∃ z, z7 = z) ∧ (∃ z, z8 = z) ∧ (∃ z, z9 = z)) (fun _ _ _ _ s _ => C - (intOf s).toNat)
        case atStart => exact ⟨0, Nat.zero_le _, rfl, ⟨m, rfl, hM⟩, ⟨_, rfl⟩, ⟨_, rfl⟩, ⟨_, rfl⟩⟩
        case round =>
          obtain ⟨j, hj, rfl, ⟨m2, rfl, hM2⟩, ⟨z7, rfl⟩, ⟨z8, rfl⟩, ⟨z9, rfl⟩⟩ := hrel
          obtain ⟨wi, rfl⟩ : ∃ wi : World, wi = wr := ⟨_, rfl⟩
          by_cases hlt2 : j < C
          · have hkz2 : (j : Int) < (C : Int) := by omega
            obtain ⟨c0, c1, c2, c3⟩ := three_cells (K0.out.below hM2.out.2)
            clear hM
            go_wp2_with fail
            refine (HRW.out _ i j hM2.out.2 hlt hlt2).mono ?_
            rintro e w4 ⟨u', rfl, hu, hb⟩
            obtain ⟨xa, xcap, rfl⟩ := task.ints_slice hu.ints
            have B5 := Lib.hid (below_tr hM2.out.2 hb)
            have hle := HLE.out i j
            have HMY : Hid ((fin ss xss ps i j).1.length = many ss xss ps i j) := Lib.hid rfl
            clear hu hb c0 c1 c2 c3
            obtain ⟨kn, hkn⟩ : ∃ kn : Nat, (fin ss xss ps i j).1.length = kn := ⟨_, rfl⟩
            rw [hkn] at hle HMY ⊢
            clear hkn
            by_cases he : kn ≤ m2
            · have HN : Hid (m2 = scan (many ss xss ps i) (most (many ss xss ps) C i) (j + 1) ∧ Below (w.alloc (.cells #[.slice va vn vc, .slice ua un uc, .slice na nl nc] 34)).heap.size (w.alloc (.cells #[.slice va vn vc, .slice ua un uc, .slice na nl nc] 34)) w4) := Lib.hid ⟨by rw [scan, ← HMY.out, ← hM2.out.1, if_pos he], B5.out⟩
              have h4 : max (m2 : Int) (kn : Int) = (m2 : Int) := by omega
              clear he hle hM2
              go_wp2_with fail
              go_roundw
              case rel => exact ⟨j + 1, by omega, by go_num, ⟨_, rfl, HN.out⟩, ⟨_, rfl⟩, ⟨_, rfl⟩, ⟨_, rfl⟩⟩
              case measure => simp [intOf]; omega
            · have HN : Hid (kn = scan (many ss xss ps i) (most (many ss xss ps) C i) (j + 1) ∧ Below (w.alloc (.cells #[.slice va vn vc, .slice ua un uc, .slice na nl nc] 34)).heap.size (w.alloc (.cells #[.slice va vn vc, .slice ua un uc, .slice na nl nc] 34)) w4) := Lib.hid ⟨by rw [scan, ← HMY.out, ← hM2.out.1, if_neg he], B5.out⟩
              have HLT : Hid (m2 < kn) := Lib.hid (by omega)
              clear he hle hM2
              go_wp2_with fail
              go_roundw
              case rel => exact ⟨j + 1, by omega, by go_num, ⟨kn, by first | rfl | (rw [if_pos HLT.out]) | (rw [if_pos (by have := HLT.out; omega)]), HN.out⟩, ⟨_, rfl⟩, ⟨_, rfl⟩, ⟨_, rfl⟩⟩
              case measure => simp [intOf]; omega
          · have hkz2 : ¬ (j : Int) < (C : Int) := by omega
            obtain rfl : j = C := by omega
            have HN : Hid (m2 = most (many ss xss ps) j (i + 1) ∧ Below (w.alloc (.cells #[.slice va vn vc, .slice ua un uc, .slice na nl nc] 34)).heap.size (w.alloc (.cells #[.slice va vn vc, .slice ua un uc, .slice na nl nc] 34)) wi) := Lib.hid ⟨hM2.out.1, hM2.out.2⟩
            go_wp2_with fail
            go_roundw
            case rel => exact ⟨i + 1, by omega, by go_num, ⟨m2, rfl, HN.out⟩, ⟨_, rfl⟩, ⟨_, rfl⟩, ⟨_, rfl⟩, ⟨_, rfl⟩⟩
            case measure => simp [intOf]; omega
      · have hkz : ¬ (i : Int) < (R : Int) := by omega
        obtain rfl : i = R := by omega
        go_wp2_with fail
        go_ret2
        exact ⟨ret_ib (by rw [hM.out.1]), below_tr BE.out hM.out.2⟩
  · rw [fst_no hok] at HV
    rw [res_no hok]
    clear hok
    go_enter Try.func33, Try.ntmps33
    go_wp2_with fail
    refine HV.out.mono ?_
    rintro e w1 ⟨rfl, hb⟩
    have L1 : Hid (Below (w.alloc (.cells #[.slice va vn vc, .slice ua un uc, .slice na nl nc] 34)).heap.size (w.alloc (.cells #[.slice va vn vc, .slice ua un uc, .slice na nl nc] 34)) w1) := Lib.hid hb
    have B1 := Lib.hid (below_tr BE.out hb)
    clear hb c0 c1 c2 c3
    go_wp2_with fail
    go_ret2
    exact ⟨rfl, B1.out⟩


end Go.Proofs.Ytggodllfaggjiaa.tbi
