/- Lists of places: their order, the least proof; cmp.Compare, cmp.Or, slices.Compare, comparePlaces and placesIn of the program; l7Before of the model. -/
import Derived.Test.YtkikdecepdbbnaaScp
namespace Go.Proofs.Ytkikdecepdbbnaa.fpm
open Go.RowKit Go.Deep Go.Proofs.Ytkikdecepdbbnaa.base
open Go.Proofs.Ytkikdecepdbbnaa.ints (ret_int infoInt)
open Go.Proofs.Ytkikdecepdbbnaa.rws (total len_le_total)
open Go.Proofs.Ytkikdecepdbbnaa.val (ret_b)
open Go.Proofs.Ytkikdecepdbbnaa.scm

/-! ### the order -/
def cmpI (a b : Int) : Int := if a < b then -1 else if b < a then 1 else 0
def slc : List Int → List Int → Int
  | [], [] => 0
  | [], _ :: _ => -1
  | _ :: _, [] => 1
  | x :: a, y :: b => if cmpI x y ≠ 0 then cmpI x y else slc a b
def lexB : List Int → List Int → Bool
  | x :: a, y :: b => if x ≠ y then decide (x < y) else lexB a b
  | _, _ => false
def beforeB (a b : List Int) : Bool := if (a.length : Int) ≠ b.length then decide ((a.length : Int) < b.length) else lexB a b
def cmpP (a b : List Int) : Int := if cmpI a.length b.length ≠ 0 then cmpI a.length b.length else slc a b
theorem cmpI_range (a b : Int) : cmpI a b = -1 ∨ cmpI a b = 0 ∨ cmpI a b = 1 := by
  unfold cmpI; split; · exact .inl rfl
  split; · exact .inr (.inr rfl)
  exact .inr (.inl rfl)
theorem slc_range : ∀ a b, slc a b = -1 ∨ slc a b = 0 ∨ slc a b = 1
  | [], [] => by simp [slc]
  | [], _ :: _ => by simp [slc]
  | _ :: _, [] => by simp [slc]
  | x :: a, y :: b => by
    simp only [slc]
    split
    · exact cmpI_range x y
    · exact slc_range a b
theorem slc_lex : ∀ a b : List Int, a.length = b.length → decide (slc a b < 0) = lexB a b
  | [], [], _ => by simp [slc, lexB]
  | [], _ :: _, h => by simp at h
  | _ :: _, [], h => by simp at h
  | x :: a, y :: b, h => by
    have ih := slc_lex a b (by simpa using h)
    simp only [slc, lexB]
    unfold cmpI
    by_cases h1 : x < y
    · simp [h1, show x ≠ y by omega]
    · by_cases h2 : y < x
      · simp [h1, h2, show x ≠ y by omega]
      · have : x = y := by omega
        simp [this, ih]
theorem cmpP_before (a b : List Int) : decide (cmpP a b < 0) = beforeB a b := by
  unfold cmpP beforeB
  by_cases h : a.length = b.length
  · have e : cmpI (a.length : Int) (b.length : Int) = 0 := by unfold cmpI; rw [if_neg (by omega), if_neg (by omega)]
    rw [if_neg (by rw [e]; simp), if_neg (by omega)]
    exact slc_lex a b h
  · rw [if_pos (show (a.length : Int) ≠ b.length by omega)]
    unfold cmpI
    by_cases h1 : (a.length : Int) < b.length
    · simp [h1]
    · have h2 : (b.length : Int) < a.length := by omega
      simp [h1, h2]
theorem drop_cons {a : List Int} {k : Nat} (h : k < a.length) : a.drop k = a[k] :: a.drop (k + 1) := List.drop_eq_getElem_cons h

/-! ### the places of binary digits -/
def bitf (d k : Nat) : Bool := decide (d / 2 ^ k % 2 = 1)
def places (n d : Nat) : List Int := pass (bitf d) n
theorem bitf_no {n d k : Nat} (h : d < 2 ^ n) (hk : n ≤ k) : bitf d k = false := by
  have h1 : d < 2 ^ k := Nat.lt_of_lt_of_le h (Nat.pow_le_pow_right (by omega) hk)
  unfold bitf
  rw [Nat.div_eq_of_lt h1]
  simp
theorem places_ext {n d : Nat} (h : d < 2 ^ n) : ∀ j, places (n + j) d = places n d
  | 0 => rfl
  | j + 1 => by
    have ih := places_ext h j
    show pass (bitf d) (n + j + 1) = _
    rw [pass_no (bitf_no h (by omega))]
    exact ih
theorem places_mem {f : Nat → Bool} : ∀ (n : Nat) (x : Int), x ∈ pass f n → 0 ≤ x ∧ x < n
  | 0, x, h => by simp [pass] at h
  | n + 1, x, h => by
    cases e : f n with
    | true =>
      rw [pass_yes e] at h
      rcases List.mem_append.1 h with h | h
      · have := places_mem n x h; omega
      · simp at h; omega
    | false =>
      rw [pass_no e] at h
      have := places_mem n x h; omega
theorem rising_snoc {lo hi : Int} {xs : List Int} {x : Int} (h : rising lo hi xs) (h1 : lo ≤ x) (h2 : x ≤ hi) (h3 : ∀ y ∈ xs, y < x) : rising lo hi (xs ++ [x]) := by
  intro k hk
  by_cases e : k < xs.length
  · have hh := h k e
    refine ⟨by rw [List.getElem_append_left e]; exact hh.1, by rw [List.getElem_append_left e]; exact hh.2.1, fun h0 => ?_⟩
    rw [List.getElem_append_left e, List.getElem_append_left (by omega : k - 1 < xs.length)]
    exact hh.2.2 h0
  · have hk' : k = xs.length := by simp at hk; omega
    subst hk'
    refine ⟨by simp; exact h1, by simp; exact h2, fun h0 => ?_⟩
    rw [List.getElem_append_left (by omega : xs.length - 1 < xs.length)]
    simp
    exact h3 _ (List.getElem_mem _)
theorem rising_pass {f : Nat → Bool} : ∀ n : Nat, rising 0 ((n : Int) - 1) (pass f n)
  | 0 => fun k h => by simp [pass] at h
  | n + 1 => by
    have ih := rising_pass (f := f) n
    have ih' : rising 0 (((n + 1 : Nat) : Int) - 1) (pass f n) := fun k hk => ⟨(ih k hk).1, by have := (ih k hk).2.1; omega, (ih k hk).2.2⟩
    cases e : f n with
    | true =>
      rw [pass_yes e]
      exact rising_snoc ih' (by omega) (by omega) (fun y hy => by have := places_mem n y hy; omega)
    | false => rw [pass_no e]; exact ih'
theorem proof_nil (xss : List (List Int)) (ws : List Int) : scr.proofB xss ws [] = false := by simp [scr.proofB, ones]
/-- the least proof among the codes below k -/
def best (xss : List (List Int)) (ws : List Int) : Nat → List Int
  | 0 => []
  | k + 1 => if scr.proofB xss ws (places xss.length k) = true ∧ (best xss ws k = [] ∨ beforeB (places xss.length k) (best xss ws k) = true) then places xss.length k else best xss ws k
theorem best_one (xss : List (List Int)) (ws : List Int) : best xss ws 1 = [] := by
  have e : places xss.length 0 = [] := by
    have := places_ext (n := 0) (d := 0) (by decide) xss.length
    rw [Nat.zero_add] at this
    rw [this]; rfl
  simp [best, e, proof_nil]
theorem len_best (xss : List (List Int)) (ws : List Int) : ∀ k, (best xss ws k).length ≤ xss.length
  | 0 => by simp [best]
  | k + 1 => by
    simp only [best]
    split
    · exact len_pass _ _
    · exact len_best xss ws k
theorem best_yes {xss : List (List Int)} {ws : List Int} {k : Nat} (h1 : scr.proofB xss ws (places xss.length k) = true) (h2 : best xss ws k = [] ∨ beforeB (places xss.length k) (best xss ws k) = true) : best xss ws (k + 1) = places xss.length k := if_pos ⟨h1, h2⟩
theorem best_no1 {xss : List (List Int)} {ws : List Int} {k : Nat} (h1 : scr.proofB xss ws (places xss.length k) = false) : best xss ws (k + 1) = best xss ws k := if_neg (fun h => by rw [h1] at h; cases h.1)
theorem best_no2 {xss : List (List Int)} {ws : List Int} {k : Nat} (h2 : ¬ best xss ws k = []) (h3 : beforeB (places xss.length k) (best xss ws k) = false) : best xss ws (k + 1) = best xss ws k := if_neg (fun h => by
  rcases h.2 with h | h
  · exact h2 h
  · rw [h3] at h; cases h)
def posB (l : List Int) : Bool := decide ((0 : Int) < (l.length : Int))
open Classical in
noncomputable def findR (x : Int) (xss : List (List Int)) (ws : List Int) : List Int × Bool := if okScene x xss ws then (best xss ws (2 ^ xss.length), posB (best xss ws (2 ^ xss.length))) else ([], false)
theorem findR_yes {x : Int} {xss : List (List Int)} {ws : List Int} (h : okScene x xss ws) : findR x xss ws = (best xss ws (2 ^ xss.length), posB (best xss ws (2 ^ xss.length))) := if_pos h
theorem findR_no {x : Int} {xss : List (List Int)} {ws : List Int} (h : ¬ okScene x xss ws) : findR x xss ws = ([], false) := if_neg h
theorem len_findR (x : Int) (xss : List (List Int)) (ws : List Int) : (findR x xss ws).1.length ≤ 1048576 := by
  by_cases h : okScene x xss ws
  · rw [findR_yes h]
    have := len_best xss ws (2 ^ xss.length)
    have := h.len
    show (best _ _ _).length ≤ _
    omega
  · rw [findR_no h]; simp
theorem two_pow {n : Nat} (h : n ≤ 10) : 2 ^ n ≤ 1024 := Nat.le_trans (Nat.pow_le_pow_right (by omega) h) (by decide)
theorem shl_len {n : Nat} (h : n ≤ 10) : wrap64 ((2 : Int) ^ n) = ((2 ^ n : Nat) : Int) := by
  have h1 := two_pow h
  have h2 : ((2 : Int) ^ n) = ((2 ^ n : Nat) : Int) := by simp
  rw [h2]
  generalize 2 ^ n = m at *
  unfold wrap64
  omega
theorem and_one {d k : Nat} (h : d < 4096) : bits .and .i64 ((d : Int) / 2 ^ k) 1 = ((d / 2 ^ k % 2 : Nat) : Int) := by
  have e : ((d : Int) / 2 ^ k) = ((d / 2 ^ k : Nat) : Int) := by simp
  have hl : d / 2 ^ k < 4096 := Nat.lt_of_le_of_lt (Nat.div_le_self _ _) h
  rw [e]
  have := and_i64 (d / 2 ^ k) 1 (by omega) (by omega)
  rw [show ((1 : Int)) = ((1 : Nat) : Int) from rfl, this, Nat.and_one_is_mod]

/-! ### the library's comparisons -/

theorem isNaN (a : Int) (w : World) : Calls Try.prog 96 #[.int .i64 a] w fun e w' => e = .returned (.bool false) ∧ w = w' := by
  have d0 : (a != a) = false := bne_self_eq_false _
  go_enter Try.func96, Try.ntmps96
  go_wp2_with fail
  go_ret
  exact ⟨rfl, rfl⟩
theorem compare (a b : Int) (w : World) : Calls Try.prog 90 #[.int .i64 a, .int .i64 b] w fun e w' => e = .returned (.int .i64 (cmpI a b)) ∧ w = w' := by
  by_cases h1 : a < b
  · have HR : Hid (cmpI a b = -1) := Lib.hid (if_pos h1)
    have d1 : decide (a < b) = true := decide_eq_true h1
    clear h1
    go_enter Try.func90, Try.ntmps90
    go_wp2_with fail
    refine (isNaN a _).mono ?_
    rintro e w' ⟨rfl, rfl⟩
    go_wp2_with fail
    refine (isNaN b _).mono ?_
    rintro e w' ⟨rfl, rfl⟩
    go_wp2_with fail
    go_ret
    exact ⟨ret_int HR.out.symm, rfl⟩
  · by_cases h2 : b < a
    · have HR : Hid (cmpI a b = 1) := Lib.hid (by unfold cmpI; rw [if_neg h1, if_pos h2])
      have d1 : decide (a < b) = false := decide_eq_false h1
      have d2 : decide (b < a) = true := decide_eq_true h2
      clear h1 h2
      go_enter Try.func90, Try.ntmps90
      go_wp2_with fail
      refine (isNaN a _).mono ?_
      rintro e w' ⟨rfl, rfl⟩
      go_wp2_with fail
      refine (isNaN b _).mono ?_
      rintro e w' ⟨rfl, rfl⟩
      go_wp2_with fail
      go_ret
      exact ⟨ret_int HR.out.symm, rfl⟩
    · have HR : Hid (cmpI a b = 0) := Lib.hid (by unfold cmpI; rw [if_neg h1, if_neg h2])
      have d1 : decide (a < b) = false := decide_eq_false h1
      have d2 : decide (b < a) = false := decide_eq_false h2
      clear h1 h2
      go_enter Try.func90, Try.ntmps90
      go_wp2_with fail
      refine (isNaN a _).mono ?_
      rintro e w' ⟨rfl, rfl⟩
      go_wp2_with fail
      refine (isNaN b _).mono ?_
      rintro e w' ⟨rfl, rfl⟩
      go_wp2_with fail
      go_ret
      exact ⟨ret_int HR.out.symm, rfl⟩



set_option maxHeartbeats 2000000 in
theorem scompare (u v : Value) (a b : List Int) (w : World) (ha : Ints w u a) (hb : Ints w v b) (la : a.length ≤ 1000) (lb : b.length ≤ 1000) :
    Calls Try.prog 91 #[u, v] w fun e w' => e = .returned (.int .i64 (slc a b)) ∧ w = w' := by
  obtain ⟨A, ab, ao, ac, rfl, _, _, hA, hac⟩ := ha.form
  obtain ⟨B, bb, bo, bc, rfl, _, _, hB, hbc⟩ := hb.form
  clear ha hb
  go_enter Try.func91, Try.ntmps91
  go_wp2_with fail
  go_loopw [4, 5, 6, 7, 8, 11] (fun q z5 z6 z7 z8 i wr => ∃ k : Nat, k ≤ a.length ∧ i = .int .i64 k ∧ (∃ z, q = z) ∧ (∃ z, z5 = z) ∧ (∃ z, z6 = z) ∧ (∃ z, z7 = z) ∧ (∃ z, z8 = z) ∧ Hid (k ≤ b.length ∧ slc a b = slc (a.drop k) (b.drop k)) ∧ w = wr) (fun _ _ _ _ _ i _ => a.length - (intOf i).toNat)
  case atStart => exact ⟨0, Nat.zero_le _, rfl, ⟨_, rfl⟩, ⟨_, rfl⟩, ⟨_, rfl⟩, ⟨_, rfl⟩, ⟨_, rfl⟩, ⟨Nat.zero_le _, rfl⟩, rfl⟩
  case round =>
    obtain ⟨k, hk, rfl, ⟨y4, rfl⟩, ⟨y5, rfl⟩, ⟨y6, rfl⟩, ⟨y7, rfl⟩, ⟨y8, rfl⟩, hH, rfl⟩ := hrel
    by_cases hlt : k < a.length
    · have hkz : (k : Int) < (a.length : Int) := by omega
      obtain rfl := hA (by omega)
      have g0 := hac k hlt
      have HAC := Lib.hid hac
      by_cases hl2 : k < b.length
      · have d0 : decide ((b.length : Int) ≤ (k : Int)) = false := by simp; omega
        have hkb : (k : Int) < (b.length : Int) := by omega
        obtain rfl := hB (by omega)
        have g1 := hbc k hl2
        have HBC := Lib.hid hbc
        have HST : Hid (slc a b = if cmpI a[k] b[k] ≠ 0 then cmpI a[k] b[k] else slc (a.drop (k + 1)) (b.drop (k + 1))) := Lib.hid (by
          rw [hH.out.2, drop_cons hlt, drop_cons hl2]; rfl)
        have HC := Lib.hid (compare a[k] b[k] w)
        clear hac hbc hA hB
        generalize a[k] = p at *
        generalize b[k] = q at *
        generalize cmpI p q = c at *
        by_cases hc : c = 0
        · have dc : (c != 0) = false := by simp [hc]
          have HQ : Hid (slc a b = slc (a.drop (k + 1)) (b.drop (k + 1))) := Lib.hid (by rw [HST.out, if_neg (by simp [hc])])
          clear hc
          go_wp2_with fail
          refine HC.out.mono ?_
          rintro e w' ⟨rfl, rfl⟩
          go_wp2_with fail
          go_roundw
          case rel => exact ⟨k + 1, by omega, by go_num, ⟨_, rfl⟩, ⟨_, rfl⟩, ⟨_, rfl⟩, ⟨_, rfl⟩, ⟨_, rfl⟩, ⟨by omega, HQ.out⟩, by first | rfl | trivial⟩
          case measure => simp [intOf]; omega
        · have dc : (c != 0) = true := by simp [hc]
          have HQ : Hid (slc a b = c) := Lib.hid (by rw [HST.out, if_pos hc])
          clear hc
          go_wp2_with fail
          refine HC.out.mono ?_
          rintro e w' ⟨rfl, rfl⟩
          go_wp2_with fail
          go_ret
          exact ⟨ret_int HQ.out.symm, rfl⟩
      · have d0 : decide ((b.length : Int) ≤ (k : Int)) = true := by simp; omega
        have HQ : Hid (slc a b = 1) := Lib.hid (by
          rw [hH.out.2, drop_cons hlt, List.drop_eq_nil_of_le (by omega : b.length ≤ k)]; rfl)
        clear hac hbc hA hB
        go_wp2_with fail
        go_ret
        exact ⟨ret_int HQ.out.symm, rfl⟩
    · have hkz : ¬ (k : Int) < (a.length : Int) := by omega
      obtain rfl : k = a.length := by omega
      clear hac hbc hA hB
      by_cases hl2 : a.length < b.length
      · have d0 : decide ((a.length : Int) < (b.length : Int)) = true := by simp; omega
        have HQ : Hid (slc a b = -1) := Lib.hid (by
          rw [hH.out.2, List.drop_eq_nil_of_le (Nat.le_refl _), drop_cons hl2]; rfl)
        go_wp2_with fail
        go_ret
        exact ⟨ret_int HQ.out.symm, rfl⟩
      · have d0 : decide ((a.length : Int) < (b.length : Int)) = false := by simp; omega
        have HQ : Hid (slc a b = 0) := Lib.hid (by
          rw [hH.out.2, List.drop_eq_nil_of_le (Nat.le_refl _), List.drop_eq_nil_of_le (by omega : b.length ≤ a.length)]; rfl)
        go_wp2_with fail
        go_ret
        exact ⟨ret_int HQ.out.symm, rfl⟩



set_option maxHeartbeats 2000000 in
theorem orTwo (g : Nat) (a b : Int) (w : World) (h0 : w.cell? ⟨g, 0, none⟩ = some (.int .i64 a)) (h1 : w.cell? ⟨g, 1, none⟩ = some (.int .i64 b)) :
    Calls Try.prog 89 #[.slice (some ⟨g, 0, none⟩) 2 2] w fun e w' => e = .returned (.int .i64 (if a ≠ 0 then a else b)) ∧ w = w' := by
  by_cases ha : a = 0
  · rw [if_neg (by simp [ha])]
    have da : (a != 0) = false := by simp [ha]
    clear ha
    by_cases hb : b = 0
    · have db : (b != 0) = false := by simp [hb]
      have HB := Lib.hid hb
      clear hb
      go_enter Try.func89, Try.ntmps89
      go_wp2_with fail
      go_loopw [2, 5, 8] (fun q z i wr => ∃ k : Nat, k ≤ 2 ∧ i = .int .i64 k ∧ (∃ z', q = z') ∧ (∃ z', z = z') ∧ w = wr) (fun _ _ i _ => 2 - (intOf i).toNat)
      case atStart => exact ⟨0, by omega, rfl, ⟨_, rfl⟩, ⟨_, rfl⟩, rfl⟩
      case round =>
        obtain ⟨k, hk, rfl, ⟨y, rfl⟩, ⟨y', rfl⟩, rfl⟩ := hrel
        obtain rfl | rfl | rfl : k = 0 ∨ k = 1 ∨ k = 2 := by omega
        · go_wp2_with fail
          go_roundw
          case rel => exact ⟨1, by omega, by go_num, ⟨_, rfl⟩, ⟨_, rfl⟩, by first | rfl | trivial⟩
          case measure => simp [intOf]
        · go_wp2_with fail
          go_roundw
          case rel => exact ⟨2, by omega, by go_num, ⟨_, rfl⟩, ⟨_, rfl⟩, by first | rfl | trivial⟩
          case measure => simp [intOf]
        · go_wp2_with fail
          go_ret
          exact ⟨ret_int HB.out.symm, rfl⟩
    · have db : (b != 0) = true := by simp [hb]
      clear hb
      go_enter Try.func89, Try.ntmps89
      go_wp2_with fail
      go_loopw [2, 5, 8] (fun q z i wr => ∃ k : Nat, k ≤ 1 ∧ i = .int .i64 k ∧ (∃ z', q = z') ∧ (∃ z', z = z') ∧ w = wr) (fun _ _ i _ => 2 - (intOf i).toNat)
      case atStart => exact ⟨0, by omega, rfl, ⟨_, rfl⟩, ⟨_, rfl⟩, rfl⟩
      case round =>
        obtain ⟨k, hk, rfl, ⟨y, rfl⟩, ⟨y', rfl⟩, rfl⟩ := hrel
        obtain rfl | rfl : k = 0 ∨ k = 1 := by omega
        · go_wp2_with fail
          go_roundw
          case rel => exact ⟨1, by omega, by go_num, ⟨_, rfl⟩, ⟨_, rfl⟩, by first | rfl | trivial⟩
          case measure => simp [intOf]
        · go_wp2_with fail
          go_ret
          exact ⟨rfl, rfl⟩
  · rw [if_pos ha]
    have da : (a != 0) = true := by simp [ha]
    clear ha
    go_enter Try.func89, Try.ntmps89
    go_wp2_with fail
    go_loopw [2, 5, 8] (fun q z i wr => i = .int .i64 (0 : Nat) ∧ (∃ z', q = z') ∧ (∃ z', z = z') ∧ w = wr) (fun _ _ i _ => 2 - (intOf i).toNat)
    case atStart => exact ⟨rfl, ⟨_, rfl⟩, ⟨_, rfl⟩, rfl⟩
    case round =>
      obtain ⟨rfl, ⟨y, rfl⟩, ⟨y', rfl⟩, rfl⟩ := hrel
      go_wp2_with fail
      go_ret
      exact ⟨rfl, rfl⟩



set_option maxHeartbeats 2000000 in
theorem comparePlaces (u v : Value) (a b : List Int) (w : World) (ha : Ints w u a) (hb : Ints w v b) (la : a.length ≤ 1000) (lb : b.length ≤ 1000) :
    Calls Try.prog 70 #[u, v] w fun e w' => e = .returned (.int .i64 (cmpP a b)) ∧ Below w.heap.size w w' := by
  have HS := Lib.hid (scompare u v a b w ha hb la lb)
  obtain ⟨A, ac, rfl⟩ : ∃ A c, u = .slice A a.length c := by obtain ⟨A, c, hv, _⟩ := ha; exact ⟨A, c, by rw [hv, len_i64s]⟩
  obtain ⟨B, bc, rfl⟩ : ∃ A c, v = .slice A b.length c := by obtain ⟨A, c, hv, _⟩ := hb; exact ⟨A, c, by rw [hv, len_i64s]⟩
  have HC := Lib.hid (compare a.length b.length w)
  clear ha hb
  have HE : Hid (cmpP a b = if cmpI a.length b.length ≠ 0 then cmpI a.length b.length else slc a b) := Lib.hid rfl
  generalize cmpI a.length b.length = p at *
  generalize slc a b = q at *
  have HO := Lib.hid (orTwo w.heap.size p q (w.alloc (.cells #[.int .i64 p, .int .i64 q] 3)) ((Joins.cell_of_block (Blk.new w 3 #[.int .i64 p, .int .i64 q]) 0).trans rfl) ((Joins.cell_of_block (Blk.new w 3 #[.int .i64 p, .int .i64 q]) 1).trans rfl))
  obtain ⟨r, hr⟩ : ∃ r, r = (if p ≠ 0 then p else q) := ⟨_, rfl⟩
  rw [← hr] at HO HE
  clear hr
  go_enter Try.func70, Try.ntmps70
  go_wp2_with fail
  refine HC.out.mono ?_
  rintro e w' ⟨rfl, rfl⟩
  go_wp2_with fail
  refine HS.out.mono ?_
  rintro e w' ⟨rfl, rfl⟩
  go_wp2_with fail
  refine HO.out.mono ?_
  rintro e w' ⟨rfl, rfl⟩
  go_wp2_with fail
  go_ret
  exact ⟨ret_int HE.out.symm, below_al (Below.refl _ _) _⟩



set_option maxHeartbeats 2000000 in
theorem placesIn (d : Nat) (w : World) (hd : d < 1024) :
    Calls Try.prog 69 #[.int .i64 (d : Int)] w fun e w' => ∃ u, e = .returned u ∧ OwnInts w' w.heap.size w'.heap.size u (places 10 d) ∧ (¬ places 10 d = [] → ∃ g c, u = .slice (some ⟨g, 0, none⟩) (places 10 d).length c) ∧ Below w.heap.size w w' := by
  obtain ⟨i0, hi, hz0, hz1, hz2⟩ := info_parts infoInt
  have O0 : Hid (w.ownsRow w.heap.size 3 1 (.slice none 0 0) 0 (i64s (pass (bitf d) 0))) := Lib.hid (World.ownsRow_nil _ _ _ _)
  go_enter Try.func69, Try.ntmps69
  go_wp2_with fail
  go_loopw [3, 4, 5] (fun out z i wr => ∃ k : Nat, k ≤ 10 ∧ i = .int .i64 k ∧ (∃ z', z = z') ∧ ∃ m, Hid (wr.ownsRow w.heap.size 3 1 out m (i64s (pass (bitf d) k))) ∧ Hid (Below w.heap.size w wr)) (fun _ _ i _ => 10 - (intOf i).toNat)
  case atStart => exact ⟨0, Nat.zero_le _, rfl, ⟨_, rfl⟩, _, O0, Below.refl _ _⟩
  case round =>
    obtain ⟨k, hk, rfl, ⟨z', rfl⟩, m, hO, hB⟩ := hrel
    clear O0
    obtain ⟨wi, rfl⟩ : ∃ wi : World, wi = wr := ⟨_, rfl⟩
    obtain rfl : m = (pass (bitf d) k).length := by
      have := hO.out.1
      rw [len_i64s] at this; omega
    have HLE := Lib.hid (len_pass (bitf d) k)
    by_cases hlt : k < 10
    · have hkz : (k : Int) < 10 := by omega
      have ha := and_one (k := k) (show d < 4096 by omega)
      by_cases hb : d / 2 ^ k % 2 = 1
      · have HL : Hid (pass (bitf d) (k + 1) = pass (bitf d) k ++ [(k : Int)]) := Lib.hid (pass_yes (by unfold bitf; rw [hb]; rfl))
        rw [hb] at ha
        clear hb
        have hsz := hB.out.size
        go_wp2_with (at_builtin; go_must (refine wpList_append_own _ rfl (.tmp 13) (.tmp 15) 23 rfl w.heap.size 3 i0 (.int .i64 0) 1 8 Try.underlying23 hi hz0 hz1 hz2 rfl (by decide) _ _ _ rfl (hO.out.alloc _) ⟨wi.heap.size, 0, none⟩ 1 1 [.int .i64 (k : Int)] rfl rfl ?c1 ?c2 ?c3 ?c4 ?c5 ?_))
        try (case c1 => exact app.one_at _ _ _)
        case c2 => first | rfl | (intro u hu; simp at hu; subst hu; rfl)
        case c3 => have := HLE.out; unfold maxLen; omega
        case c4 => have := HLE.out; omega
        try (case c5 => first | omega | (simp; omega))
        intro v' w3 hown' hgrow _
        have O3 : Hid (w3.ownsRow w.heap.size 3 1 v' (pass (bitf d) (k + 1)).length (i64s (pass (bitf d) (k + 1)))) := Lib.hid (by
          rw [HL.out, ← app.i64s_snoc, List.length_append]; exact hown')
        have B3 : Hid (Below w.heap.size w w3) := Lib.hid ((below_al hB.out _).grown hgrow (by have := hB.out.size; simp; omega) (fun j hj => by have := (hO.out.lt j hj).1; omega))
        obtain ⟨xa, xl, xc, rfl⟩ := make.shape hown'
        clear hown' hgrow hsz
        go_wp2_with fail
        go_roundw
        case rel => exact ⟨k + 1, by omega, by go_num, ⟨_, rfl⟩, _, O3, B3⟩
        case measure => simp [intOf]; omega
      · have hb0 : d / 2 ^ k % 2 = 0 := by omega
        have O3 : Hid (wi.ownsRow w.heap.size 3 1 _ _ (i64s (pass (bitf d) (k + 1)))) := Lib.hid (by
          rw [pass_no (show bitf d k = false by unfold bitf; rw [hb0]; rfl)]; exact hO.out)
        rw [hb0] at ha
        clear hb hb0
        go_wp2_with fail
        go_roundw
        case rel => exact ⟨k + 1, by omega, by go_num, ⟨_, rfl⟩, _, O3, hB⟩
        case measure => simp [intOf]; omega
    · have hkz : ¬ (k : Int) < 10 := by omega
      obtain rfl : k = 10 := by omega
      have O2 := Lib.hid (app.ints_of_owns hO.out)
      have HN : Hid (¬ places 10 d = [] → ∃ g c, u3 = .slice (some ⟨g, 0, none⟩) (places 10 d).length c) := Lib.hid (fun hne => by
        rcases hO.out.2 with ⟨_, h2⟩ | ⟨g, c, cur, hv, _⟩
        · exact absurd (List.eq_nil_of_length_eq_zero h2) hne
        · exact ⟨g, c, hv⟩)
      obtain ⟨ra, rn, rc, rfl⟩ := O2.out.ints.shape
      go_wp2_with fail
      go_ret
      exact ⟨_, rfl, O2.out, HN.out, hB.out⟩



set_option maxHeartbeats 2000000 in
theorem l7before (u v : Value) (a b : List Int) (w : World) (ha : Ints w u a) (hb : Ints w v b) (la : a.length ≤ 1000) (lb : b.length ≤ 1000) :
    Calls Try.prog 68 #[u, v] w fun e w' => e = .returned (.bool (beforeB a b)) ∧ ∃ q, w' = w.drewN q := by
  obtain ⟨A, ab, ao, ac, rfl, _, _, hA, hac⟩ := ha.form
  obtain ⟨B, bb, bo, bc, rfl, _, _, hB, hbc⟩ := hb.form
  clear ha hb
  by_cases hl : a.length = b.length
  · have HE : Hid (beforeB a b = lexB a b) := Lib.hid (by unfold beforeB; rw [if_neg (by omega)])
    have dn : ((a.length : Int) != (b.length : Int)) = false := by rw [hl]; simp
    have HL := Lib.hid hl
    clear hl
    go_enter Try.func68, Try.ntmps68
    go_wp2_with fail
    go_loopw [4, 5] (fun q i wr => ∃ k : Nat, k ≤ a.length ∧ i = .int .i64 k ∧ q = .bool false ∧ Hid (lexB a b = lexB (a.drop k) (b.drop k)) ∧ ∃ n, wr = w.drewN n) (fun _ i _ => a.length - (intOf i).toNat)
    case atStart => exact ⟨0, Nat.zero_le _, rfl, rfl, Lib.hid rfl, 0, rfl⟩
    case round =>
      obtain ⟨k, hk, rfl, rfl, hH, n, rfl⟩ := hrel
      by_cases hlt : k < a.length
      · have hkz : (k : Int) < (a.length : Int) := by omega
        have hl2 : k < b.length := by have := HL.out; omega
        have hkb : (k : Int) < (b.length : Int) := by omega
        obtain rfl := hA (by omega)
        obtain rfl := hB (by omega)
        have g0 := hac k hlt
        have g1 := hbc k hl2
        have HAC := Lib.hid hac
        have HBC := Lib.hid hbc
        have HST : Hid (lexB a b = if a[k] ≠ b[k] then decide (a[k] < b[k]) else lexB (a.drop (k + 1)) (b.drop (k + 1))) := Lib.hid (by
          rw [hH.out, drop_cons hlt, drop_cons hl2]; rfl)
        have gl0 := World.block_lt_of_cell? _ _ g0
        have gl1 := World.block_lt_of_cell? _ _ g1
        clear hac hbc hA hB
        generalize a[k] = p at *
        generalize b[k] = q at *
        by_cases hpq : p = q
        · have dc : (p != q) = false := by simp [hpq]
          have HQ : Hid (lexB a b = lexB (a.drop (k + 1)) (b.drop (k + 1))) := Lib.hid (by rw [HST.out, if_neg (by simp [hpq])])
          clear hpq
          go_wp2_with fail
          go_quiet (fail)
          go_wp2_with fail
          go_roundw
          case rel => exact ⟨k + 1, by omega, by go_num, rfl, HQ, _, by first | rfl | exact ints.drewN_drewN _ _ _⟩
          case measure => simp [intOf]; omega
        · have dc : (p != q) = true := by simp [hpq]
          have HQ : Hid (lexB a b = decide (p < q)) := Lib.hid (by rw [HST.out, if_pos hpq])
          clear hpq
          go_wp2_with fail
          go_quiet (fail)
          go_wp2_with fail
          go_quiet (fail)
          go_wp2_with fail
          go_ret
          exact ⟨ret_b (by rw [HE.out, HQ.out]), _, by simp only [ints.drewN_drewN]; first | rfl | exact (ints.drewN_drewN _ _ _)⟩
      · have hkz : ¬ (k : Int) < (a.length : Int) := by omega
        obtain rfl : k = a.length := by omega
        have HQ : Hid (lexB a b = false) := Lib.hid (by
          rw [hH.out, List.drop_eq_nil_of_le (Nat.le_refl _)]; rfl)
        clear hac hbc hA hB
        go_wp2_with fail
        go_ret
        exact ⟨ret_b (by rw [HE.out, HQ.out]), _, rfl⟩
  · have HE : Hid (beforeB a b = decide ((a.length : Int) < (b.length : Int))) := Lib.hid (by unfold beforeB; rw [if_pos (by omega)])
    have dn : ((a.length : Int) != (b.length : Int)) = true := by simp; omega
    clear hl hac hbc hA hB
    go_enter Try.func68, Try.ntmps68
    go_wp2_with fail
    go_ret
    exact ⟨ret_b (by rw [HE.out]; simp), 0, rfl⟩


end Go.Proofs.Ytkikdecepdbbnaa.fpm
