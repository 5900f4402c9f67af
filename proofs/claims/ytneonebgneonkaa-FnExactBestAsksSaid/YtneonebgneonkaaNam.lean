/- SumRuleBy and NamedRule of the program. -/
import Derived.Test.YtneonebgneonkaaRby
namespace Go.Proofs.Ytneonebgneonkaa.rby
open Go.RowKit Go.Deep Go.Proofs.Ytneonebgneonkaa.base
open Go.Proofs.Ytneonebgneonkaa.ints (ret_int)
open Go.Proofs.Ytneonebgneonkaa.play (within withinB withinB_yes withinB_no)
open Go.Proofs.Ytneonebgneonkaa.scene (three_cells)
open Go.Proofs.Ytneonebgneonkaa.rule (RV OR)

/-- a Rule that is answered -/
structure RR where
  f : List Int
  k : List (List Int)
  s : List (List Int)
  ok : Bool
def RR.zero : RR := ⟨[], [], [], false⟩
def made (xs ys : List Int) : RR := ⟨[0, 1], halves xs, [ys, ys], true⟩
open Classical in
noncomputable def sumR (xs : List Int) : RR := if within 4 0 1 xs then made xs [0, 1, 1, 0] else RR.zero
theorem sumR_yes {xs : List Int} (h : within 4 0 1 xs) : sumR xs = made xs [0, 1, 1, 0] := if_pos h
theorem sumR_no {xs : List Int} (h : ¬ within 4 0 1 xs) : sumR xs = RR.zero := if_neg h
def say (a : Int) : List Int := if a = 1 then [0, 0, 1, 1] else if a = 2 then [0, 1, 0, 1] else [0, 1, 1, 0]
def named (a : Int) : RR := if 1 ≤ a ∧ a ≤ 3 then made [0, 0, 1, 1] (say a) else RR.zero
theorem len_say (a : Int) : (say a).length = 4 := by
  unfold say
  split
  · rfl
  · split <;> rfl
theorem lens (r : RR) (h : r = RR.zero ∨ ∃ xs ys, ys.length = 4 ∧ r = made xs ys) : r.f.length ≤ 1048576 ∧ rws.total r.k ≤ 1048576 ∧ rws.total r.s ≤ 1048576 := by
  rcases h with rfl | ⟨xs, ys, hy, rfl⟩
  · exact ⟨by decide, by decide, by decide⟩
  · refine ⟨by show (2 : Nat) ≤ _; decide, by simp [made, halves, rws.total], by simp [made, rws.total, hy]⟩
theorem len_sumR (xs : List Int) : (sumR xs).f.length ≤ 1048576 ∧ rws.total (sumR xs).k ≤ 1048576 ∧ rws.total (sumR xs).s ≤ 1048576 := lens _ (by
  by_cases h : within 4 0 1 xs
  · exact .inr ⟨xs, _, rfl, sumR_yes h⟩
  · exact .inl (sumR_no h))
theorem len_named (a : Int) : (named a).f.length ≤ 1048576 ∧ rws.total (named a).k ≤ 1048576 ∧ rws.total (named a).s ≤ 1048576 := lens _ (by
  by_cases h : 1 ≤ a ∧ a ≤ 3
  · exact .inr ⟨_, _, len_say a, if_pos h⟩
  · exact .inl (if_neg h))

/-- four numbers just built -/
theorem four_new (w : World) (xs : List Int) (a b c d : Int) (h : xs = [a, b, c, d]) : Ints (w.alloc (.cells #[.int .i64 a, .int .i64 b, .int .i64 c, .int .i64 d] 3)) (.slice (some ⟨w.heap.size, 0, none⟩) 4 4) xs := by
  subst h
  exact (st3.ints_blk (xs := [a, b, c, d]) rfl (Blk.new w _ _) (by unfold maxLen; exact (show (4 : Nat) ≤ 2 ^ 63 - 1 by decide))).ints


set_option maxRecDepth 100000 in
set_option maxHeartbeats 4000000 in
theorem sumby (v : Value) (xs : List Int) (w : World) (h : Ints w v xs) :
    Calls Try.prog 26 #[v] w fun e w' => ∃ sv u nv, e = .returned (.tuple #[.agg #[sv, u, nv], .bool (sumR xs).ok]) ∧ OR w' w.heap.size w'.heap.size sv (sumR xs).f u (sumR xs).k nv (sumR xs).s ∧ Below w.heap.size w w' := by
  have B0 := Lib.hid (below_al (Below.refl w.heap.size w) (.cells #[.slice none 0 0, .slice none 0 0, .slice none 0 0] 28))
  have R0 := Lib.hid (Blk.new w 28 #[.slice none 0 0, .slice none 0 0, .slice none 0 0])
  have HB := play.impl_bits v xs 4 _ (h.below B0.out)
  by_cases hb : within 4 0 1 xs
  · rw [withinB_yes hb] at HB
    have H0 := Lib.hid HB
    have HE := Lib.hid (sumR_yes hb)
    have B1 := Lib.hid (below_al B0.out (.cells #[.int .i64 0, .int .i64 1, .int .i64 1, .int .i64 0] 3))
    have R1 := Lib.hid (R0.out.alloc (.cells #[.int .i64 0, .int .i64 1, .int .i64 1, .int .i64 0] 3))
    have HR : Hid (Calls Try.prog 74 #[v, .slice (some ⟨w.heap.size + 1, 0, none⟩) 4 4] ((w.alloc (.cells #[.slice none 0 0, .slice none 0 0, .slice none 0 0] 28)).alloc (.cells #[.int .i64 0, .int .i64 1, .int .i64 1, .int .i64 0] 3)) fun e w' => ∃ sv u nv, e = .returned (.agg #[sv, u, nv]) ∧ OR w' ((w.alloc (.cells #[.slice none 0 0, .slice none 0 0, .slice none 0 0] 28)).alloc (.cells #[.int .i64 0, .int .i64 1, .int .i64 1, .int .i64 0] 3)).heap.size w'.heap.size sv [0, 1] u (halves xs) nv [[0, 1, 1, 0], [0, 1, 1, 0]] ∧ Below ((w.alloc (.cells #[.slice none 0 0, .slice none 0 0, .slice none 0 0] 28)).alloc (.cells #[.int .i64 0, .int .i64 1, .int .i64 1, .int .i64 0] 3)).heap.size ((w.alloc (.cells #[.slice none 0 0, .slice none 0 0, .slice none 0 0] 28)).alloc (.cells #[.int .i64 0, .int .i64 1, .int .i64 1, .int .i64 0] 3)) w') := Lib.hid (by
      have := ruleBy v _ xs [0, 1, 1, 0] _ (h.below B1.out) (four_new (w.alloc (.cells #[.slice none 0 0, .slice none 0 0, .slice none 0 0] 28)) _ 0 1 1 0 rfl) (by have := hb.1; omega) rfl
      simpa using this)
    clear HB hb h
    go_enter Try.func26, Try.ntmps26
    go_wp2_with fail
    refine H0.out.mono ?_
    rintro e w' ⟨rfl, rfl⟩
    go_wp2_with fail
    refine HR.out.mono ?_
    rintro e w3 ⟨sv, u, nv, rfl, hO, hb3⟩
    obtain ⟨va, vn, vc, ua, un, uc, na, nn, nc, rfl, rfl, rfl⟩ := hO.view.shape
    have B3 := Lib.hid (below_tr B1.out hb3)
    have R3 := Lib.hid (R1.out.below hb3)
    have HO := Lib.hid hO
    have HZ := Lib.hid hb3.size
    clear hO hb3 HR H0
    obtain ⟨r0, r1, r2, r3⟩ := three_cells R3.out
    have rf : ∀ k, w3.frozen? ⟨w.heap.size, k, none⟩ = false := fun k => Joins.unfrozen_of_block R3.out k
    go_wp2_with fail
    refine bodyPost_ret (v := .tuple #[.agg #[.slice va vn vc, .slice ua un uc, .slice na nn nc], .bool true]) (by simp [results, Try.results26, go_sem, r0, r1, r2]) rfl ?_
    rw [HE.out]
    refine ⟨_, _, _, rfl, ?_, ?_⟩
    · refine (HO.out.wrote (S := fun p => p.block < w.heap.size + 1) ?_ (fun p hp => .inl (by have e : p.block < w.heap.size + 1 := hp; simp; omega))).mono (by simp <;> omega) (by simp [World.setCell])
      repeat (first | exact Wrote.refl _ _ | refine Wrote.setCell ?_ (by simp) _)
    · repeat (first | (with_reducible exact B3.out) | refine Below.setCell ?_ (by simp <;> omega) _)
  · rw [withinB_no hb] at HB
    have H0 := Lib.hid HB
    have HE := Lib.hid (sumR_no hb)
    clear HB hb h
    obtain ⟨r0, r1, r2, r3⟩ := three_cells R0.out
    have rf : ∀ k, (w.alloc (.cells #[.slice none 0 0, .slice none 0 0, .slice none 0 0] 28)).frozen? ⟨w.heap.size, k, none⟩ = false := fun k => Joins.unfrozen_of_block R0.out k
    go_enter Try.func26, Try.ntmps26
    go_wp2_with fail
    refine H0.out.mono ?_
    rintro e w' ⟨rfl, rfl⟩
    go_wp2_with fail
    refine bodyPost_ret (v := .tuple #[.agg #[.slice none 0 0, .slice none 0 0, .slice none 0 0], .bool false]) (by simp [results, Try.results26, go_sem, r0, r1, r2]) rfl ?_
    rw [HE.out]
    refine ⟨_, _, _, rfl, OR.nil _ _ _ ?_, ?_⟩
    · simp
    · repeat (first | (with_reducible exact B0.out) | refine Below.setCell ?_ (by simp <;> omega) _)



set_option maxRecDepth 100000 in
set_option maxHeartbeats 4000000 in
theorem namedRule (a : Int) (w : World) :
    Calls Try.prog 21 #[.int .i64 a] w fun e w' => ∃ sv u nv, e = .returned (.tuple #[.agg #[sv, u, nv], .bool (named a).ok]) ∧ OR w' w.heap.size w'.heap.size sv (named a).f u (named a).k nv (named a).s ∧ Below w.heap.size w w' := by
  have B0 := Lib.hid (below_al (below_al (Below.refl w.heap.size w) (.cells #[.slice none 0 0, .slice none 0 0, .slice none 0 0] 28)) (.cells #[.int .i64 0, .int .i64 0, .int .i64 1, .int .i64 1] 3))
  have R0 := Lib.hid ((Blk.new w 28 #[.slice none 0 0, .slice none 0 0, .slice none 0 0]).alloc (.cells #[.int .i64 0, .int .i64 0, .int .i64 1, .int .i64 1] 3))
  have I0 : Ints ((w.alloc (.cells #[.slice none 0 0, .slice none 0 0, .slice none 0 0] 28)).alloc (.cells #[.int .i64 0, .int .i64 0, .int .i64 1, .int .i64 1] 3)) (.slice (some ⟨w.heap.size + 1, 0, none⟩) 4 4) [0, 0, 1, 1] := by
    have := four_new (w.alloc (.cells #[.slice none 0 0, .slice none 0 0, .slice none 0 0] 28)) [0, 0, 1, 1] 0 0 1 1 rfl
    simpa using this
  by_cases h1 : a = 1
  · subst h1
    have HE : Hid (named 1 = made [0, 0, 1, 1] [0, 0, 1, 1]) := Lib.hid rfl
    have B1 := Lib.hid (below_al B0.out (.cells #[.int .i64 0, .int .i64 0, .int .i64 1, .int .i64 1] 3))
    have R1 := Lib.hid (R0.out.alloc (.cells #[.int .i64 0, .int .i64 0, .int .i64 1, .int .i64 1] 3))
    have HR : Hid (Calls Try.prog 74 #[.slice (some ⟨w.heap.size + 1, 0, none⟩) 4 4, .slice (some ⟨w.heap.size + 1 + 1, 0, none⟩) 4 4] (((w.alloc (.cells #[.slice none 0 0, .slice none 0 0, .slice none 0 0] 28)).alloc (.cells #[.int .i64 0, .int .i64 0, .int .i64 1, .int .i64 1] 3)).alloc (.cells #[.int .i64 0, .int .i64 0, .int .i64 1, .int .i64 1] 3)) fun e w' => ∃ sv u nv, e = .returned (.agg #[sv, u, nv]) ∧ OR w' (((w.alloc (.cells #[.slice none 0 0, .slice none 0 0, .slice none 0 0] 28)).alloc (.cells #[.int .i64 0, .int .i64 0, .int .i64 1, .int .i64 1] 3)).alloc (.cells #[.int .i64 0, .int .i64 0, .int .i64 1, .int .i64 1] 3)).heap.size w'.heap.size sv [0, 1] u (halves [0, 0, 1, 1]) nv [[0, 0, 1, 1], [0, 0, 1, 1]] ∧ Below (((w.alloc (.cells #[.slice none 0 0, .slice none 0 0, .slice none 0 0] 28)).alloc (.cells #[.int .i64 0, .int .i64 0, .int .i64 1, .int .i64 1] 3)).alloc (.cells #[.int .i64 0, .int .i64 0, .int .i64 1, .int .i64 1] 3)).heap.size (((w.alloc (.cells #[.slice none 0 0, .slice none 0 0, .slice none 0 0] 28)).alloc (.cells #[.int .i64 0, .int .i64 0, .int .i64 1, .int .i64 1] 3)).alloc (.cells #[.int .i64 0, .int .i64 0, .int .i64 1, .int .i64 1] 3)) w') := Lib.hid (by
      have := ruleBy _ _ [0, 0, 1, 1] [0, 0, 1, 1] _ (I0.below (below_al (Below.refl _ _) (.cells #[.int .i64 0, .int .i64 0, .int .i64 1, .int .i64 1] 3))) (four_new ((w.alloc (.cells #[.slice none 0 0, .slice none 0 0, .slice none 0 0] 28)).alloc (.cells #[.int .i64 0, .int .i64 0, .int .i64 1, .int .i64 1] 3)) [0, 0, 1, 1] 0 0 1 1 rfl) rfl rfl
      simpa using this)
    clear I0
    go_enter Try.func21, Try.ntmps21
    go_wp2_with fail
    refine HR.out.mono ?_
    rintro e w3 ⟨sv, u, nv, rfl, hO, hb3⟩
    obtain ⟨va, vn, vc, ua, un, uc, na, nn, nc, rfl, rfl, rfl⟩ := hO.view.shape
    have B3 := Lib.hid (below_tr B1.out hb3)
    have R3 := Lib.hid (R1.out.below hb3)
    have HO := Lib.hid hO
    have HZ := Lib.hid hb3.size
    clear hO hb3 HR
    obtain ⟨r0, r1, r2, r3⟩ := three_cells R3.out
    have rf : ∀ k, w3.frozen? ⟨w.heap.size, k, none⟩ = false := fun k => Joins.unfrozen_of_block R3.out k
    go_wp2_with fail
    refine bodyPost_ret (v := .tuple #[.agg #[.slice va vn vc, .slice ua un uc, .slice na nn nc], .bool true]) (by simp [results, Try.results21, go_sem, r0, r1, r2]) rfl ?_
    rw [HE.out]
    refine ⟨_, _, _, rfl, ?_, ?_⟩
    · refine (HO.out.wrote (S := fun p => p.block < w.heap.size + 1) ?_ (fun p hp => .inl (by have e : p.block < w.heap.size + 1 := hp; simp; omega))).mono (by simp <;> omega) (by simp [World.setCell])
      repeat (first | exact Wrote.refl _ _ | refine Wrote.setCell ?_ (by simp) _)
    · repeat (first | (with_reducible exact B3.out) | refine Below.setCell ?_ (by simp <;> omega) _)
  by_cases h2 : a = 2
  · subst h2
    clear h1
    have HE : Hid (named 2 = made [0, 0, 1, 1] [0, 1, 0, 1]) := Lib.hid rfl
    have B1 := Lib.hid (below_al B0.out (.cells #[.int .i64 0, .int .i64 1, .int .i64 0, .int .i64 1] 3))
    have R1 := Lib.hid (R0.out.alloc (.cells #[.int .i64 0, .int .i64 1, .int .i64 0, .int .i64 1] 3))
    have HR : Hid (Calls Try.prog 74 #[.slice (some ⟨w.heap.size + 1, 0, none⟩) 4 4, .slice (some ⟨w.heap.size + 1 + 1, 0, none⟩) 4 4] (((w.alloc (.cells #[.slice none 0 0, .slice none 0 0, .slice none 0 0] 28)).alloc (.cells #[.int .i64 0, .int .i64 0, .int .i64 1, .int .i64 1] 3)).alloc (.cells #[.int .i64 0, .int .i64 1, .int .i64 0, .int .i64 1] 3)) fun e w' => ∃ sv u nv, e = .returned (.agg #[sv, u, nv]) ∧ OR w' (((w.alloc (.cells #[.slice none 0 0, .slice none 0 0, .slice none 0 0] 28)).alloc (.cells #[.int .i64 0, .int .i64 0, .int .i64 1, .int .i64 1] 3)).alloc (.cells #[.int .i64 0, .int .i64 1, .int .i64 0, .int .i64 1] 3)).heap.size w'.heap.size sv [0, 1] u (halves [0, 0, 1, 1]) nv [[0, 1, 0, 1], [0, 1, 0, 1]] ∧ Below (((w.alloc (.cells #[.slice none 0 0, .slice none 0 0, .slice none 0 0] 28)).alloc (.cells #[.int .i64 0, .int .i64 0, .int .i64 1, .int .i64 1] 3)).alloc (.cells #[.int .i64 0, .int .i64 1, .int .i64 0, .int .i64 1] 3)).heap.size (((w.alloc (.cells #[.slice none 0 0, .slice none 0 0, .slice none 0 0] 28)).alloc (.cells #[.int .i64 0, .int .i64 0, .int .i64 1, .int .i64 1] 3)).alloc (.cells #[.int .i64 0, .int .i64 1, .int .i64 0, .int .i64 1] 3)) w') := Lib.hid (by
      have := ruleBy _ _ [0, 0, 1, 1] [0, 1, 0, 1] _ (I0.below (below_al (Below.refl _ _) (.cells #[.int .i64 0, .int .i64 1, .int .i64 0, .int .i64 1] 3))) (four_new ((w.alloc (.cells #[.slice none 0 0, .slice none 0 0, .slice none 0 0] 28)).alloc (.cells #[.int .i64 0, .int .i64 0, .int .i64 1, .int .i64 1] 3)) [0, 1, 0, 1] 0 1 0 1 rfl) rfl rfl
      simpa using this)
    clear I0
    go_enter Try.func21, Try.ntmps21
    go_wp2_with fail
    refine HR.out.mono ?_
    rintro e w3 ⟨sv, u, nv, rfl, hO, hb3⟩
    obtain ⟨va, vn, vc, ua, un, uc, na, nn, nc, rfl, rfl, rfl⟩ := hO.view.shape
    have B3 := Lib.hid (below_tr B1.out hb3)
    have R3 := Lib.hid (R1.out.below hb3)
    have HO := Lib.hid hO
    have HZ := Lib.hid hb3.size
    clear hO hb3 HR
    obtain ⟨r0, r1, r2, r3⟩ := three_cells R3.out
    have rf : ∀ k, w3.frozen? ⟨w.heap.size, k, none⟩ = false := fun k => Joins.unfrozen_of_block R3.out k
    go_wp2_with fail
    refine bodyPost_ret (v := .tuple #[.agg #[.slice va vn vc, .slice ua un uc, .slice na nn nc], .bool true]) (by simp [results, Try.results21, go_sem, r0, r1, r2]) rfl ?_
    rw [HE.out]
    refine ⟨_, _, _, rfl, ?_, ?_⟩
    · refine (HO.out.wrote (S := fun p => p.block < w.heap.size + 1) ?_ (fun p hp => .inl (by have e : p.block < w.heap.size + 1 := hp; simp; omega))).mono (by simp <;> omega) (by simp [World.setCell])
      repeat (first | exact Wrote.refl _ _ | refine Wrote.setCell ?_ (by simp) _)
    · repeat (first | (with_reducible exact B3.out) | refine Below.setCell ?_ (by simp <;> omega) _)
  by_cases h3 : a = 3
  · subst h3
    clear h1 h2
    have HE : Hid (named 3 = made [0, 0, 1, 1] [0, 1, 1, 0]) := Lib.hid rfl
    have B1 := B0
    have R1 := R0
    have HR := Lib.hid (sumby _ [0, 0, 1, 1] _ I0)
    have hS : sumR [0, 0, 1, 1] = made [0, 0, 1, 1] [0, 1, 1, 0] := sumR_yes ⟨rfl, fun k hk => by
      have hk4 : k < 4 := hk
      obtain rfl | rfl | rfl | rfl : k = 0 ∨ k = 1 ∨ k = 2 ∨ k = 3 := by omega
      all_goals exact ⟨by simp, by simp⟩⟩
    rw [hS] at HR
    clear I0 hS
    go_enter Try.func21, Try.ntmps21
    go_wp2_with fail
    refine HR.out.mono ?_
    rintro e w3 ⟨sv, u, nv, rfl, hO, hb3⟩
    obtain ⟨va, vn, vc, ua, un, uc, na, nn, nc, rfl, rfl, rfl⟩ := hO.view.shape
    have B3 := Lib.hid (below_tr B1.out hb3)
    have R3 := Lib.hid (R1.out.below hb3)
    have HO := Lib.hid hO
    have HZ := Lib.hid hb3.size
    clear hO hb3 HR
    obtain ⟨r0, r1, r2, r3⟩ := three_cells R3.out
    have rf : ∀ k, w3.frozen? ⟨w.heap.size, k, none⟩ = false := fun k => Joins.unfrozen_of_block R3.out k
    go_wp2_with fail
    refine bodyPost_ret (v := .tuple #[.agg #[.slice va vn vc, .slice ua un uc, .slice na nn nc], .bool true]) (by simp [results, Try.results21, go_sem, r0, r1, r2, made]) rfl ?_
    rw [HE.out]
    refine ⟨_, _, _, rfl, ?_, ?_⟩
    · refine (HO.out.wrote (S := fun p => p.block < w.heap.size + 1) ?_ (fun p hp => .inl (by have e : p.block < w.heap.size + 1 := hp; simp; omega))).mono (by simp <;> omega) (by simp [World.setCell])
      repeat (first | exact Wrote.refl _ _ | refine Wrote.setCell ?_ (by simp) _)
    · repeat (first | (with_reducible exact B3.out) | refine Below.setCell ?_ (by simp <;> omega) _)
  have e1 : (a == 1) = false := by simp [h1]
  have e2 : (a == 2) = false := by simp [h2]
  have e3 : (a == 3) = false := by simp [h3]
  have HE : Hid (named a = RR.zero) := Lib.hid (if_neg (fun h => by omega))
  clear h1 h2 h3 I0
  obtain ⟨r0, r1, r2, r3⟩ := three_cells R0.out
  have rf : ∀ k, ((w.alloc (.cells #[.slice none 0 0, .slice none 0 0, .slice none 0 0] 28)).alloc (.cells #[.int .i64 0, .int .i64 0, .int .i64 1, .int .i64 1] 3)).frozen? ⟨w.heap.size, k, none⟩ = false := fun k => Joins.unfrozen_of_block R0.out k
  go_enter Try.func21, Try.ntmps21
  go_wp2_with fail
  refine bodyPost_ret (v := .tuple #[.agg #[.slice none 0 0, .slice none 0 0, .slice none 0 0], .bool false]) (by simp [results, Try.results21, go_sem, r0, r1, r2]) rfl ?_
  rw [HE.out]
  refine ⟨_, _, _, rfl, OR.nil _ _ _ ?_, ?_⟩
  · simp; omega
  · repeat (first | (with_reducible exact B0.out) | refine Below.setCell ?_ (by simp <;> omega) _)


end Go.Proofs.Ytneonebgneonkaa.rby
