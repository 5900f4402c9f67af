/- TalkSolves of both sides. -/
import Derived.Test.YtggodllfaggjiaaRtk
import Derived.Test.YtggodllfaggjiaaGrid
import Derived.Deep.RegionHeld3
namespace Go.Proofs.Ytggodllfaggjiaa.tso
open Go.RowKit Go.Deep Go.Proofs.Ytggodllfaggjiaa.base
open Go.Proofs.Ytggodllfaggjiaa.talk (TV)
open Go.Proofs.Ytggodllfaggjiaa.scene (three_cells)
open Go.Proofs.Ytggodllfaggjiaa.play (ret_bb)
open Go.Proofs.Ytggodllfaggjiaa.task (okTask wide taskB taskB_yes taskB_no)
open Go.Proofs.Ytggodllfaggjiaa.tkv
open Go.Proofs.Ytggodllfaggjiaa.rtk (okOf ok_nat fst_yes fst_no)
open Go.Proofs.Ytggodllfaggjiaa.runm
open Go.Proofs.Ytggodllfaggjiaa.grid (nn)

def valid (ss : List Int) (xss : List (List Int)) (ps : List (Int × Int)) (tss : List (List Int)) : Prop := okTask tss ∧ okOf ss xss ps tss.length (wide tss)
/-- what is known at the end for row i and column j -/
def known (ss : List Int) (xss : List (List Int)) (ps : List (Int × Int)) (i j : Nat) : Int := -1 - (fin ss xss ps i j).2
def solves (ss : List Int) (xss : List (List Int)) (ps : List (Int × Int)) (tss : List (List Int)) : Prop := ∀ i j, i < tss.length → j < wide tss → known ss xss ps i j = nn tss i j
open Classical in
/-- what TalkSolves answers -/
noncomputable def res (ss : List Int) (xss : List (List Int)) (ps : List (Int × Int)) (tss : List (List Int)) : Bool × Bool :=
  if valid ss xss ps tss then (if solves ss xss ps tss then true else false, true) else (false, false)
theorem res_no {ss : List Int} {xss : List (List Int)} {ps : List (Int × Int)} {tss : List (List Int)} (h : ¬ valid ss xss ps tss) : res ss xss ps tss = (false, false) := if_neg h
theorem res_yes {ss : List Int} {xss : List (List Int)} {ps : List (Int × Int)} {tss : List (List Int)} (h : valid ss xss ps tss) (k : solves ss xss ps tss) : res ss xss ps tss = (true, true) := by unfold res; rw [if_pos h, if_pos k]
theorem res_not {ss : List Int} {xss : List (List Int)} {ps : List (Int × Int)} {tss : List (List Int)} (h : valid ss xss ps tss) (k : ¬ solves ss xss ps tss) : res ss xss ps tss = (false, true) := by unfold res; rw [if_pos h, if_neg k]


set_option maxRecDepth 100000 in
set_option maxHeartbeats 4000000 in
theorem spec_any (sv : Value) (ss : List Int) (u : Value) (xss : List (List Int)) (nv : Value) (ps : List (Int × Int)) (tv : Value) (tss : List (List Int)) (w : World) (h : TV w sv ss u xss nv ps) (ht : IRows w tv tss) :
    Calls Try.prog 30 #[.agg #[sv, u, nv], tv] w fun e w' => e = .returned (.tuple #[.bool (res ss xss ps tss).1, .bool (res ss xss ps tss).2]) ∧ Below w.heap.size w w' := by
  obtain ⟨va, vn, vc, ua, un, uc, na, nl, nc, rfl, rfl, rfl⟩ := h.shape
  have BE : Hid (Below w.heap.size w (w.alloc (.cells #[.slice va vn vc, .slice ua un uc, .slice na nl nc] 34))) := Lib.hid (below_al (Below.refl w.heap.size w) _)
  have H := Lib.hid (h.below BE.out)
  have HTT := Lib.hid (ht.below BE.out)
  have K0 : Hid (Blk (w.alloc (.cells #[.slice va vn vc, .slice ua un uc, .slice na nl nc] 34)) w.heap.size 34 #[.slice va vn vc, .slice ua un uc, .slice na nl nc]) := Lib.hid (Blk.new _ _ _)
  obtain ⟨c0, c1, c2, c3⟩ := three_cells K0.out
  have HTW := Lib.hid (fun (W : World) (hb : Below (w.alloc (.cells #[.slice va vn vc, .slice ua un uc, .slice na nl nc] 34)).heap.size (w.alloc (.cells #[.slice va vn vc, .slice ua un uc, .slice na nl nc] 34)) W) => calls_below_drew (task.spec_task _ tss W (HTT.out.below hb)))
  by_cases hok : okTask tss
  · rw [taskB_yes hok] at HTW
    obtain ⟨B, d, cap, rb, ro, rc, rfl, hcells⟩ := grid.cells (ht.below BE.out) hok
    have HC := Lib.hid hcells
    have a0 := (hcells 0 (by have := hok.1.1; omega)).1
    rw [Nat.add_zero] at a0
    have p0 : (0 : Int) < (tss.length : Int) := by have := hok.1.1; omega
    have p1 : 0 < tss.length := by have := hok.1.1; omega
    have HVW := Lib.hid (fun (W : World) (hb : Below (w.alloc (.cells #[.slice va vn vc, .slice ua un uc, .slice na nl nc] 34)).heap.size (w.alloc (.cells #[.slice va vn vc, .slice ua un uc, .slice na nl nc] 34)) W) => tkt.spec_valid _ ss _ xss _ ps (tss.length : Int) ((wide tss : Nat) : Int) W (H.out.below hb))
    have m1 : (tss.length : Int) ≤ 4 := by have := hok.1.2; omega
    have m2 : ((wide tss : Nat) : Int) ≤ 4 := by have := hok.2.1.2; omega
    clear hcells h ht
    by_cases hv : okOf ss xss ps tss.length (wide tss)
    · rw [fst_yes hv] at HVW
      have HV : Hid (valid ss xss ps tss) := Lib.hid ⟨hok, hv⟩
      have HO := Lib.hid hv.2
      simp only [Int.toNat_natCast] at HO
      have HRW := Lib.hid (fun (W : World) (i j : Nat) (hb : Below (w.alloc (.cells #[.slice va vn vc, .slice ua un uc, .slice na nl nc] 34)).heap.size (w.alloc (.cells #[.slice va vn vc, .slice ua un uc, .slice na nl nc] 34)) W) (hi : i < tss.length) (hj : j < wide tss) => run.spec_run _ ss _ xss _ ps tss.length (wide tss) i j W (H.out.below hb) HO.out hi hj)
      have hS : ∀ i j, i < tss.length → j < wide tss → known ss xss ps i j ≠ nn tss i j → ¬ solves ss xss ps tss := fun i j hi hj hne h => hne (h i j hi hj)
      have HS := Lib.hid hS
      clear hok hv hS
      go_enter Try.func30, Try.ntmps30
      go_wp2_with fail
      go_region_held3 (fun w' => w'.cell? ⟨w.heap.size, 0, none⟩ = some (.slice va vn vc) ∧ w'.cell? ⟨w.heap.size, 1, none⟩ = some (.slice ua un uc) ∧ w'.cell? ⟨w.heap.size, 2, none⟩ = some (.slice na nl nc) ∧ w'.cell? ⟨B, d, none⟩ = some (.slice (some ⟨rb 0, ro 0, none⟩) (wide tss) (rc 0)) ∧ Below (w.alloc (.cells #[.slice va vn vc, .slice ua un uc, .slice na nl nc] 34)).heap.size (w.alloc (.cells #[.slice va vn vc, .slice ua un uc, .slice na nl nc] 34)) w')
        ((refine held4 c0 c1 c2 a0 ?_; repeat (first | (with_reducible exact Below.refl _ _) | (with_reducible assumption) | (with_reducible refine below_dr ?_) | (with_reducible refine below_tr ?_ (by assumption)))))
        (first
          | (go_at_call 56; (with_reducible refine (HTW.out _ ?_).mono ?_); (first | exact Below.refl _ _ | exact below_dr (Below.refl _ _)); rintro e w2 ⟨rfl, hb2⟩)
          | (go_at_call 64; (with_reducible refine (HVW.out _ ?_).mono ?_); (repeat (first | (with_reducible exact Below.refl _ _) | (with_reducible assumption) | (with_reducible refine below_dr ?_) | (with_reducible refine below_tr ?_ hb2))); rintro e w3 ⟨rfl, hb3⟩))
      have L3 : Hid (Below (w.alloc (.cells #[.slice va vn vc, .slice ua un uc, .slice na nl nc] 34)).heap.size (w.alloc (.cells #[.slice va vn vc, .slice ua un uc, .slice na nl nc] 34)) w3) := Lib.hid (by repeat (first | (with_reducible exact Below.refl _ _) | (with_reducible refine below_tr ?_ hb3) | (with_reducible refine below_dr ?_) | (with_reducible refine below_tr ?_ hb2)))
      have B3 := Lib.hid (below_tr BE.out L3.out)
      clear hb2 hb3 c0 c1 c2 a0
      go_wp2_with fail
      go_loopw [4, 5, 6, 7, 8, 9] (fun r1 r2 s z7 z8 z9 wr => ∃ i : Nat, i ≤ tss.length ∧ s = .int .i64 i ∧ r1 = .bool false ∧ r2 = .bool false ∧ (∃ z, z7 = z) ∧ (∃ z, z8 = z) ∧ (∃ z, z9 = z) ∧ Hid (∀ i' j', i' < i → j' < wide tss → known ss xss ps i' j' = nn tss i' j') ∧ Hid (Below (w.alloc (.cells #[.slice va vn vc, .slice ua un uc, .slice na nl nc] 34)).heap.size (w.alloc (.cells #[.slice va vn vc, .slice ua un uc, .slice na nl nc] 34)) wr)) (fun _ _ s _ _ _ _ => tss.length - (intOf s).toNat)
      case atStart => exact ⟨0, Nat.zero_le _, rfl, rfl, rfl, ⟨_, rfl⟩, ⟨_, rfl⟩, ⟨_, rfl⟩, fun i' j' h => by omega, L3.out⟩
      case round =>
        obtain ⟨i, hi, rfl, rfl, rfl, ⟨z7, rfl⟩, ⟨z8, rfl⟩, ⟨z9, rfl⟩, hH, hB⟩ := hrel
        obtain ⟨wo, rfl⟩ : ∃ wo : World, wo = wr := ⟨_, rfl⟩
        by_cases hlt : i < tss.length
        · have hkz : (i : Int) < (tss.length : Int) := by omega
          have x0 := below_cell hB.out _ _ (HC.out i hlt).1
          go_wp2_with fail
          clear x0
          go_loopw [4, 5, 7, 8, 9] (fun r1 r2 s z8 z9 wr => ∃ j : Nat, j ≤ wide tss ∧ s = .int .i64 j ∧ r1 = .bool false ∧ r2 = .bool false ∧ (∃ z, z8 = z) ∧ (∃ z, z9 = z) ∧ Hid (∀ j', j' < j → known ss xss ps i j' = nn tss i j') ∧ Hid (Below (w.alloc (.cells #[.slice va vn vc, .slice ua un uc, .slice na nl nc] 34)).heap.size (w.alloc (.cells #[.slice va vn vc, .slice ua un uc, .slice na nl nc] 34)) wr)) (fun _ _ s _ _ _ => wide tss - (intOf s).toNat)
          case atStart => exact ⟨0, Nat.zero_le _, rfl, rfl, rfl, ⟨_, rfl⟩, ⟨_, rfl⟩, fun j' h => by omega, hB⟩
          case round =>
            obtain ⟨j, hj, rfl, rfl, rfl, ⟨z8, rfl⟩, ⟨z9, rfl⟩, hI, hB2⟩ := hrel
            obtain ⟨wi, rfl⟩ : ∃ wi : World, wi = wr := ⟨_, rfl⟩
            by_cases hlt2 : j < wide tss
            · have hkz2 : (j : Int) < ((wide tss : Nat) : Int) := by omega
              have x0 := below_cell hB2.out _ _ (HC.out i hlt).1
              have y0 := below_cell hB2.out _ _ ((HC.out i hlt).2 j hlt2)
              obtain ⟨c0, c1, c2, c3⟩ := three_cells (K0.out.below hB2.out)
              clear hB
              go_wp2_with fail
              refine (HRW.out _ i j hB2.out hlt hlt2).mono ?_
              rintro e w4 ⟨u', rfl, hu, hb⟩
              obtain ⟨xa, xl, xc, rfl⟩ := hu.ints.shape
              have B5 := Lib.hid (below_tr hB2.out hb)
              replace x0 := below_cell B5.out _ _ (HC.out i hlt).1
              replace y0 := below_cell B5.out _ _ ((HC.out i hlt).2 j hlt2)
              clear hu hb c0 c1 c2 c3 hB2
              obtain ⟨kn, hkn⟩ : ∃ kn : Int, -1 - (fin ss xss ps i j).2 = kn := ⟨_, rfl⟩
              rw [hkn]
              have HKN : Hid (known ss xss ps i j = kn) := Lib.hid hkn
              clear hkn
              by_cases he : kn = nn tss i j
              · have de : (kn != nn tss i j) = false := by simp [he]
                have HN : Hid (∀ j', j' < j + 1 → known ss xss ps i j' = nn tss i j') := Lib.hid (fun j' hj' => by
                  by_cases e : j' = j
                  · subst e; rw [HKN.out]; exact he
                  · exact hI.out j' (by omega))
                clear he
                go_wp2_with fail
                go_roundw
                case rel => exact ⟨j + 1, by omega, by go_num, rfl, rfl, ⟨_, rfl⟩, ⟨_, rfl⟩, HN.out, B5.out⟩
                case measure => simp [intOf]; omega
              · have de : (kn != nn tss i j) = true := by simp [he]
                have HNO := Lib.hid (HS.out i j hlt hlt2 (by rw [HKN.out]; exact he))
                clear he
                go_wp2_with fail
                go_ret2
                exact ⟨ret_bb (res_not HV.out HNO.out).symm, below_tr BE.out B5.out⟩
            · have hkz2 : ¬ (j : Int) < ((wide tss : Nat) : Int) := by omega
              have x0 := below_cell hB2.out _ _ (HC.out i hlt).1
              have HN : Hid (∀ i' j', i' < i + 1 → j' < wide tss → known ss xss ps i' j' = nn tss i' j') := Lib.hid (fun i' j' hi' hj' => by
                by_cases e : i' = i
                · subst e; exact hI.out j' (by omega)
                · exact hH.out i' j' (by omega) hj')
              go_wp2_with fail
              go_roundw
              case rel => exact ⟨i + 1, by omega, by go_num, rfl, rfl, ⟨_, rfl⟩, ⟨_, rfl⟩, ⟨_, rfl⟩, HN.out, hB2.out⟩
              case measure => simp [intOf]; omega
        · have hkz : ¬ (i : Int) < (tss.length : Int) := by omega
          have HY : Hid (solves ss xss ps tss) := Lib.hid (fun i' j' hi' hj' => hH.out i' j' (by omega) hj')
          go_wp2_with fail
          go_ret2
          exact ⟨ret_bb (res_yes HV.out HY.out).symm, below_tr BE.out hB.out⟩
    · rw [fst_no hv] at HVW
      rw [res_no (fun h => hv h.2)]
      clear hok hv
      go_enter Try.func30, Try.ntmps30
      go_wp2_with fail
      go_region_held3 (fun w' => w'.cell? ⟨w.heap.size, 0, none⟩ = some (.slice va vn vc) ∧ w'.cell? ⟨w.heap.size, 1, none⟩ = some (.slice ua un uc) ∧ w'.cell? ⟨w.heap.size, 2, none⟩ = some (.slice na nl nc) ∧ w'.cell? ⟨B, d, none⟩ = some (.slice (some ⟨rb 0, ro 0, none⟩) (wide tss) (rc 0)) ∧ Below (w.alloc (.cells #[.slice va vn vc, .slice ua un uc, .slice na nl nc] 34)).heap.size (w.alloc (.cells #[.slice va vn vc, .slice ua un uc, .slice na nl nc] 34)) w')
        ((refine held4 c0 c1 c2 a0 ?_; repeat (first | (with_reducible exact Below.refl _ _) | (with_reducible assumption) | (with_reducible refine below_dr ?_) | (with_reducible refine below_tr ?_ (by assumption)))))
        (first
          | (go_at_call 56; (with_reducible refine (HTW.out _ ?_).mono ?_); (first | exact Below.refl _ _ | exact below_dr (Below.refl _ _)); rintro e w2 ⟨rfl, hb2⟩)
          | (go_at_call 64; (with_reducible refine (HVW.out _ ?_).mono ?_); (repeat (first | (with_reducible exact Below.refl _ _) | (with_reducible assumption) | (with_reducible refine below_dr ?_) | (with_reducible refine below_tr ?_ hb2))); rintro e w3 ⟨rfl, hb3⟩))
      have L3 : Hid (Below (w.alloc (.cells #[.slice va vn vc, .slice ua un uc, .slice na nl nc] 34)).heap.size (w.alloc (.cells #[.slice va vn vc, .slice ua un uc, .slice na nl nc] 34)) w3) := Lib.hid (by repeat (first | (with_reducible exact Below.refl _ _) | (with_reducible refine below_tr ?_ hb3) | (with_reducible refine below_dr ?_) | (with_reducible refine below_tr ?_ hb2)))
      have B3 := Lib.hid (below_tr BE.out L3.out)
      clear hb2 hb3 c0 c1 c2 a0
      go_wp2_with fail
      go_ret2
      exact ⟨rfl, B3.out⟩
  · have HTQ := Lib.hid (fun (W : World) (hb : Below (w.alloc (.cells #[.slice va vn vc, .slice ua un uc, .slice na nl nc] 34)).heap.size (w.alloc (.cells #[.slice va vn vc, .slice ua un uc, .slice na nl nc] 34)) W) => task.spec_task _ tss W (HTT.out.below hb))
    rw [taskB_no hok] at HTQ
    rw [res_no (fun h => hok h.1)]
    obtain ⟨ta, tl, tc, rfl⟩ := ht.shape
    clear hok h ht HTW
    go_enter Try.func30, Try.ntmps30
    go_wp2_with fail
    go_quiet ((go_at_call 56; go_must (exact Calls.quiet_of (HTQ.out _ (below_drewN (Below.refl _ _) _)))))
    go_wp2_with fail
    go_ret2
    exact ⟨rfl, below_drewN BE.out _⟩



set_option maxRecDepth 100000 in
set_option maxHeartbeats 4000000 in
theorem impl_any (sv : Value) (ss : List Int) (u : Value) (xss : List (List Int)) (nv : Value) (ps : List (Int × Int)) (tv : Value) (tss : List (List Int)) (w : World) (h : TV w sv ss u xss nv ps) (ht : IRows w tv tss) :
    Calls Try.prog 31 #[.agg #[sv, u, nv], tv] w fun e w' => e = .returned (.tuple #[.bool (res ss xss ps tss).1, .bool (res ss xss ps tss).2]) ∧ Below w.heap.size w w' := by
  obtain ⟨va, vn, vc, ua, un, uc, na, nl, nc, rfl, rfl, rfl⟩ := h.shape
  have BE : Hid (Below w.heap.size w (w.alloc (.cells #[.slice va vn vc, .slice ua un uc, .slice na nl nc] 34))) := Lib.hid (below_al (Below.refl w.heap.size w) _)
  have H := Lib.hid (h.below BE.out)
  have HTT := Lib.hid (ht.below BE.out)
  have K0 : Hid (Blk (w.alloc (.cells #[.slice va vn vc, .slice ua un uc, .slice na nl nc] 34)) w.heap.size 34 #[.slice va vn vc, .slice ua un uc, .slice na nl nc]) := Lib.hid (Blk.new _ _ _)
  obtain ⟨c0, c1, c2, c3⟩ := three_cells K0.out
  have HTW := Lib.hid (fun (W : World) (hb : Below (w.alloc (.cells #[.slice va vn vc, .slice ua un uc, .slice na nl nc] 34)).heap.size (w.alloc (.cells #[.slice va vn vc, .slice ua un uc, .slice na nl nc] 34)) W) => calls_below (task.impl_is _ tss W (HTT.out.below hb)))
  by_cases hok : okTask tss
  · rw [taskB_yes hok] at HTW
    obtain ⟨B, d, cap, rb, ro, rc, rfl, hcells⟩ := grid.cells (ht.below BE.out) hok
    have HC := Lib.hid hcells
    have a0 := (hcells 0 (by have := hok.1.1; omega)).1
    rw [Nat.add_zero] at a0
    have p0 : (0 : Int) < (tss.length : Int) := by have := hok.1.1; omega
    have p1 : 0 < tss.length := by have := hok.1.1; omega
    have HVW := Lib.hid (fun (W : World) (hb : Below (w.alloc (.cells #[.slice va vn vc, .slice ua un uc, .slice na nl nc] 34)).heap.size (w.alloc (.cells #[.slice va vn vc, .slice ua un uc, .slice na nl nc] 34)) W) => tkt.impl_valid _ ss _ xss _ ps (tss.length : Int) ((wide tss : Nat) : Int) W (H.out.below hb))
    have m1 : (tss.length : Int) ≤ 4 := by have := hok.1.2; omega
    have m2 : ((wide tss : Nat) : Int) ≤ 4 := by have := hok.2.1.2; omega
    clear hcells h ht
    by_cases hv : okOf ss xss ps tss.length (wide tss)
    · rw [fst_yes hv] at HVW
      have HV : Hid (valid ss xss ps tss) := Lib.hid ⟨hok, hv⟩
      have HO := Lib.hid hv.2
      simp only [Int.toNat_natCast] at HO
      have HRW := Lib.hid (fun (W : World) (i j : Nat) (hb : Below (w.alloc (.cells #[.slice va vn vc, .slice ua un uc, .slice na nl nc] 34)).heap.size (w.alloc (.cells #[.slice va vn vc, .slice ua un uc, .slice na nl nc] 34)) W) (hi : i < tss.length) (hj : j < wide tss) => run.impl_run _ ss _ xss _ ps tss.length (wide tss) i j W (H.out.below hb) HO.out hi hj)
      have hS : ∀ i j, i < tss.length → j < wide tss → known ss xss ps i j ≠ nn tss i j → ¬ solves ss xss ps tss := fun i j hi hj hne h => hne (h i j hi hj)
      have HS := Lib.hid hS
      clear hok hv hS
      go_enter Try.func31, Try.ntmps31
      go_wp2_with fail
      go_region_held3 (fun w' => w'.cell? ⟨w.heap.size, 0, none⟩ = some (.slice va vn vc) ∧ w'.cell? ⟨w.heap.size, 1, none⟩ = some (.slice ua un uc) ∧ w'.cell? ⟨w.heap.size, 2, none⟩ = some (.slice na nl nc) ∧ w'.cell? ⟨B, d, none⟩ = some (.slice (some ⟨rb 0, ro 0, none⟩) (wide tss) (rc 0)) ∧ Below (w.alloc (.cells #[.slice va vn vc, .slice ua un uc, .slice na nl nc] 34)).heap.size (w.alloc (.cells #[.slice va vn vc, .slice ua un uc, .slice na nl nc] 34)) w')
        ((refine held4 c0 c1 c2 a0 ?_; repeat (first | (with_reducible exact Below.refl _ _) | (with_reducible assumption) | (with_reducible refine below_dr ?_) | (with_reducible refine below_tr ?_ (by assumption)))))
        (first
          | (go_at_call 17; (with_reducible refine (HTW.out _ ?_).mono ?_); (first | exact Below.refl _ _ | exact below_dr (Below.refl _ _)); rintro e w2 ⟨rfl, hb2⟩)
          | (go_at_call 67; (with_reducible refine (HVW.out _ ?_).mono ?_); (repeat (first | (with_reducible exact Below.refl _ _) | (with_reducible assumption) | (with_reducible refine below_dr ?_) | (with_reducible refine below_tr ?_ hb2))); rintro e w3 ⟨rfl, hb3⟩))
      have L3 : Hid (Below (w.alloc (.cells #[.slice va vn vc, .slice ua un uc, .slice na nl nc] 34)).heap.size (w.alloc (.cells #[.slice va vn vc, .slice ua un uc, .slice na nl nc] 34)) w3) := Lib.hid (by repeat (first | (with_reducible exact Below.refl _ _) | (with_reducible refine below_tr ?_ hb3) | (with_reducible refine below_dr ?_) | (with_reducible refine below_tr ?_ hb2)))
      have B3 := Lib.hid (below_tr BE.out L3.out)
      clear hb2 hb3 c0 c1 c2 a0
      go_wp2_with fail
      go_loopw [4, 5, 6, 7, 8, 9, 10, 11, 28] (fun r1 r2 z6 z7 z8 z9 z10 z11 s wr => ∃ i : Nat, i ≤ tss.length ∧ s = .int .i64 i ∧ r1 = .bool false ∧ r2 = .bool false ∧ (∃ z, z6 = z) ∧ (∃ z, z7 = z) ∧ (∃ z, z8 = z) ∧ (∃ z, z9 = z) ∧ (∃ z, z10 = z) ∧ (∃ z, z11 = z) ∧ Hid (∀ i' j', i' < i → j' < wide tss → known ss xss ps i' j' = nn tss i' j') ∧ Hid (Below (w.alloc (.cells #[.slice va vn vc, .slice ua un uc, .slice na nl nc] 34)).heap.size (w.alloc (.cells #[.slice va vn vc, .slice ua un uc, .slice na nl nc] 34)) wr)) (fun _ _ _ _ _ _ _ _ s _ => tss.length - (intOf s).toNat)
      case atStart => exact ⟨0, Nat.zero_le _, rfl, rfl, rfl, ⟨_, rfl⟩, ⟨_, rfl⟩, ⟨_, rfl⟩, ⟨_, rfl⟩, ⟨_, rfl⟩, ⟨_, rfl⟩, fun i' j' h => by omega, L3.out⟩
      case round =>
        obtain ⟨i, hi, rfl, rfl, rfl, ⟨z6, rfl⟩, ⟨z7, rfl⟩, ⟨z8, rfl⟩, ⟨z9, rfl⟩, ⟨z10, rfl⟩, ⟨z11, rfl⟩, hH, hB⟩ := hrel
        obtain ⟨wo, rfl⟩ : ∃ wo : World, wo = wr := ⟨_, rfl⟩
        by_cases hlt : i < tss.length
        · have hkz : (i : Int) < (tss.length : Int) := by omega
          have x0 := below_cell hB.out _ _ (HC.out i hlt).1
          go_wp2_with fail
          clear x0
          go_loopw [4, 5, 8, 9, 10, 11, 35] (fun r1 r2 z8 z9 z10 z11 s wr => ∃ j : Nat, j ≤ wide tss ∧ s = .int .i64 j ∧ r1 = .bool false ∧ r2 = .bool false ∧ (∃ z, z8 = z) ∧ (∃ z, z9 = z) ∧ (∃ z, z10 = z) ∧ (∃ z, z11 = z) ∧ Hid (∀ j', j' < j → known ss xss ps i j' = nn tss i j') ∧ Hid (Below (w.alloc (.cells #[.slice va vn vc, .slice ua un uc, .slice na nl nc] 34)).heap.size (w.alloc (.cells #[.slice va vn vc, .slice ua un uc, .slice na nl nc] 34)) wr)) (fun _ _ _ _ _ _ s _ => wide tss - (intOf s).toNat)
          case atStart => exact ⟨0, Nat.zero_le _, rfl, rfl, rfl, ⟨_, rfl⟩, ⟨_, rfl⟩, ⟨_, rfl⟩, ⟨_, rfl⟩, fun j' h => by omega, hB⟩
          case round =>
            obtain ⟨j, hj, rfl, rfl, rfl, ⟨z8, rfl⟩, ⟨z9, rfl⟩, ⟨z10, rfl⟩, ⟨z11, rfl⟩, hI, hB2⟩ := hrel
            obtain ⟨wi, rfl⟩ : ∃ wi : World, wi = wr := ⟨_, rfl⟩
            by_cases hlt2 : j < wide tss
            · have hkz2 : (j : Int) < ((wide tss : Nat) : Int) := by omega
              have x0 := below_cell hB2.out _ _ (HC.out i hlt).1
              have y0 := below_cell hB2.out _ _ ((HC.out i hlt).2 j hlt2)
              obtain ⟨c0, c1, c2, c3⟩ := three_cells (K0.out.below hB2.out)
              clear hB
              go_wp2_with fail
              refine (HRW.out _ i j hB2.out hlt hlt2).mono ?_
              rintro e w4 ⟨u', rfl, hu, hb⟩
              obtain ⟨xa, xl, xc, rfl⟩ := hu.ints.shape
              have B5 := Lib.hid (below_tr hB2.out hb)
              replace x0 := below_cell B5.out _ _ (HC.out i hlt).1
              replace y0 := below_cell B5.out _ _ ((HC.out i hlt).2 j hlt2)
              clear hu hb c0 c1 c2 c3 hB2
              obtain ⟨kn, hkn⟩ : ∃ kn : Int, -1 - (fin ss xss ps i j).2 = kn := ⟨_, rfl⟩
              rw [hkn]
              have HKN : Hid (known ss xss ps i j = kn) := Lib.hid hkn
              clear hkn
              by_cases he : kn = nn tss i j
              · have de : (kn != nn tss i j) = false := by simp [he]
                have HN : Hid (∀ j', j' < j + 1 → known ss xss ps i j' = nn tss i j') := Lib.hid (fun j' hj' => by
                  by_cases e : j' = j
                  · subst e; rw [HKN.out]; exact he
                  · exact hI.out j' (by omega))
                clear he
                go_wp2_with fail
                go_roundw
                case rel => exact ⟨j + 1, by omega, by go_num, rfl, rfl, ⟨_, rfl⟩, ⟨_, rfl⟩, ⟨_, rfl⟩, ⟨_, rfl⟩, HN.out, B5.out⟩
                case measure => simp [intOf]; omega
              · have de : (kn != nn tss i j) = true := by simp [he]
                have HNO := Lib.hid (HS.out i j hlt hlt2 (by rw [HKN.out]; exact he))
                clear he
                go_wp2_with fail
                go_ret2
                exact ⟨ret_bb (res_not HV.out HNO.out).symm, below_tr BE.out B5.out⟩
            · have hkz2 : ¬ (j : Int) < ((wide tss : Nat) : Int) := by omega
              have x0 := below_cell hB2.out _ _ (HC.out i hlt).1
              have HN : Hid (∀ i' j', i' < i + 1 → j' < wide tss → known ss xss ps i' j' = nn tss i' j') := Lib.hid (fun i' j' hi' hj' => by
                by_cases e : i' = i
                · subst e; exact hI.out j' (by omega)
                · exact hH.out i' j' (by omega) hj')
              go_wp2_with fail
              go_roundw
              case rel => exact ⟨i + 1, by omega, by go_num, rfl, rfl, ⟨_, rfl⟩, ⟨_, rfl⟩, ⟨_, rfl⟩, ⟨_, rfl⟩, ⟨_, rfl⟩, ⟨_, rfl⟩, HN.out, hB2.out⟩
              case measure => simp [intOf]; omega
        · have hkz : ¬ (i : Int) < (tss.length : Int) := by omega
          have HY : Hid (solves ss xss ps tss) := Lib.hid (fun i' j' hi' hj' => hH.out i' j' (by omega) hj')
          go_wp2_with fail
          go_ret2
          exact ⟨ret_bb (res_yes HV.out HY.out).symm, below_tr BE.out hB.out⟩
    · rw [fst_no hv] at HVW
      rw [res_no (fun h => hv h.2)]
      clear hok hv
      go_enter Try.func31, Try.ntmps31
      go_wp2_with fail
      go_region_held3 (fun w' => w'.cell? ⟨w.heap.size, 0, none⟩ = some (.slice va vn vc) ∧ w'.cell? ⟨w.heap.size, 1, none⟩ = some (.slice ua un uc) ∧ w'.cell? ⟨w.heap.size, 2, none⟩ = some (.slice na nl nc) ∧ w'.cell? ⟨B, d, none⟩ = some (.slice (some ⟨rb 0, ro 0, none⟩) (wide tss) (rc 0)) ∧ Below (w.alloc (.cells #[.slice va vn vc, .slice ua un uc, .slice na nl nc] 34)).heap.size (w.alloc (.cells #[.slice va vn vc, .slice ua un uc, .slice na nl nc] 34)) w')
        ((refine held4 c0 c1 c2 a0 ?_; repeat (first | (with_reducible exact Below.refl _ _) | (with_reducible assumption) | (with_reducible refine below_dr ?_) | (with_reducible refine below_tr ?_ (by assumption)))))
        (first
          | (go_at_call 17; (with_reducible refine (HTW.out _ ?_).mono ?_); (first | exact Below.refl _ _ | exact below_dr (Below.refl _ _)); rintro e w2 ⟨rfl, hb2⟩)
          | (go_at_call 67; (with_reducible refine (HVW.out _ ?_).mono ?_); (repeat (first | (with_reducible exact Below.refl _ _) | (with_reducible assumption) | (with_reducible refine below_dr ?_) | (with_reducible refine below_tr ?_ hb2))); rintro e w3 ⟨rfl, hb3⟩))
      have L3 : Hid (Below (w.alloc (.cells #[.slice va vn vc, .slice ua un uc, .slice na nl nc] 34)).heap.size (w.alloc (.cells #[.slice va vn vc, .slice ua un uc, .slice na nl nc] 34)) w3) := Lib.hid (by repeat (first | (with_reducible exact Below.refl _ _) | (with_reducible refine below_tr ?_ hb3) | (with_reducible refine below_dr ?_) | (with_reducible refine below_tr ?_ hb2)))
      have B3 := Lib.hid (below_tr BE.out L3.out)
      clear hb2 hb3 c0 c1 c2 a0
      go_wp2_with fail
      go_ret2
      exact ⟨rfl, B3.out⟩
  · have HTQ := Lib.hid (fun (W : World) (hb : Below (w.alloc (.cells #[.slice va vn vc, .slice ua un uc, .slice na nl nc] 34)).heap.size (w.alloc (.cells #[.slice va vn vc, .slice ua un uc, .slice na nl nc] 34)) W) => task.impl_is _ tss W (HTT.out.below hb))
    rw [taskB_no hok] at HTQ
    rw [res_no (fun h => hok h.1)]
    obtain ⟨ta, tl, tc, rfl⟩ := ht.shape
    clear hok h ht HTW
    go_enter Try.func31, Try.ntmps31
    go_wp2_with fail
    go_quiet ((go_at_call 17; go_must (exact Calls.quiet_of_same ((HTQ.out _ (below_drewN (Below.refl _ _) _)).mono (fun _ _ h => ⟨h.1, h.2.symm⟩)))))
    go_wp2_with fail
    go_ret2
    exact ⟨rfl, below_drewN BE.out _⟩


end Go.Proofs.Ytggodllfaggjiaa.tso
