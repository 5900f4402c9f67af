/- PlayOf: the arithmetic. -/
import Derived.Test.YtkajebhagkbcaaaCounts
import Derived.Test.YtkajebhagkbcaaaAlike
import Derived.Test.YtkajebhagkbcaaaPboxb
import Derived.Test.YtkajebhagkbcaaaPboxc
namespace Go.Proofs.Ytkajebhagkbcaaa.plof
open Go.RowKit Go.Deep Go.Proofs.Ytkajebhagkbcaaa.base
open Go.Proofs.Ytkajebhagkbcaaa.val (okSizes okBox boxB boxB_yes boxB_no)
open Go.Proofs.Ytkajebhagkbcaaa.play (within)
open Go.Proofs.Ytkajebhagkbcaaa.row (nn one)
open Go.Proofs.Ytkajebhagkbcaaa.rws (total)

/-- the count of a question -/
def cn (xss : List (List Int)) (X Y k : Nat) : Int := if k < X then counts.f0 xss Y k else counts.f1 xss (k - X)
theorem up1_eq (xss : List (List Int)) (X Y : Nat) : ∀ j, counts.up1 xss X Y j = (List.range (X + j)).map (cn xss X Y)
  | 0 => by
    rw [counts.up1_zero]
    unfold counts.up0
    refine List.map_congr_left (fun k hk => ?_)
    have := List.mem_range.1 hk
    unfold cn; rw [if_pos (by omega)]
  | j + 1 => by
    rw [counts.up1_succ, up1_eq xss X Y j, show X + (j + 1) = (X + j) + 1 from by omega, List.range_succ, List.map_append]
    congr 1
    simp only [List.map_cons, List.map_nil]
    unfold cn
    rw [if_neg (by omega), show X + j - X = j from by omega]
def O (xss : List (List Int)) (X Y : Nat) (wh : Int) (n : Nat) : List Int := (List.range n).map (fun k => cn xss X Y k / wh)
def M (xss : List (List Int)) (X Y : Nat) : List Int := (List.range (X + Y)).map (fun k => min (cn xss X Y k) 1)
theorem O_succ (xss : List (List Int)) (X Y : Nat) (wh : Int) (k : Nat) : O xss X Y wh (k + 1) = O xss X Y wh k ++ [cn xss X Y k / wh] := by simp [O, List.range_succ]
theorem len_O (xss : List (List Int)) (X Y : Nat) (wh : Int) (n : Nat) : (O xss X Y wh n).length = n := by simp [O]
theorem len_M (xss : List (List Int)) (X Y : Nat) : (M xss X Y).length = X + Y := by simp [M]
theorem O_at {xss : List (List Int)} {X Y : Nat} {wh : Int} {k : Nat} (h : k < X + Y) : (O xss X Y wh (X + Y)).getD k 0 = cn xss X Y k / wh := by simp [O, List.getD, h]
theorem M_at {xss : List (List Int)} {X Y : Nat} {k : Nat} (h : k < X + Y) : (M xss X Y).getD k 0 = min (cn xss X Y k) 1 := by simp [M, List.getD, h]
theorem cn_bd {X Y : Nat} {wh : Int} {xss : List (List Int)} (h : okBox X Y wh xss) {k : Nat} (hk : k < X + Y) : 0 ≤ cn xss X Y k ∧ cn xss X Y k ≤ wh := by
  have hX := h.1.1
  have hY := h.1.2
  have hl := h.2.2.1
  have row : ∀ r, r < xss.length → (0 ≤ one xss r 0 ∧ one xss r 0 ≤ wh) ∧ (0 ≤ one xss r 1 ∧ one xss r 1 ≤ wh) := fun r hr => by
    have b0 := row.nn_bd h hr (k := 0) (by omega)
    have b1 := row.nn_bd h hr (k := 1) (by omega)
    have b2 := row.nn_bd h hr (k := 2) (by omega)
    have b3 := row.nn_bd h hr (k := 3) (by omega)
    have hs : nn xss r 0 + nn xss r 1 + nn xss r 2 + nn xss r 3 = wh := by
      obtain ⟨h1, h2, h3⟩ := row.row_ok h hr
      unfold row.nn
      generalize xss.getD r [] = q at *
      match q, h1 with
      | [a, b, c, d], _ => simp at h3; simp; omega
    unfold one
    refine ⟨?_, ?_⟩
    · rw [if_pos rfl]; omega
    · rw [if_neg (by decide)]; omega
  unfold cn
  split
  · rename_i hk'
    have : k * Y < xss.length := by
      have : (k + 1) * Y ≤ X * Y := Nat.mul_le_mul_right _ (by omega)
      rw [Nat.add_mul] at this
      rw [← Int.natCast_mul] at hl
      omega
    exact (row _ this).1
  · have : k - X < xss.length := by
      have : 1 * Y ≤ X * Y := Nat.mul_le_mul_right _ (by omega)
      rw [← Int.natCast_mul] at hl
      omega
    exact (row _ this).2
/-- the numbers are those of the play's box -/
def Pl (xss : List (List Int)) (X Y : Nat) (wh : Int) (ps : List Int) : Prop := ∀ r k, r < X * Y → k < 4 → nn xss r k = pbox.N ps X Y wh r k
theorem cn_play {X Y : Nat} {wh : Int} {xss : List (List Int)} {ps : List Int} (hX : 0 < X) (hY : 0 < Y) (hl : ps.length = X + Y) (hb : ∀ k, k < X + Y → 0 ≤ ps.getD k 0 ∧ ps.getD k 0 ≤ 1) (h : Pl xss X Y wh ps) {k : Nat} (hk : k < X + Y) : cn xss X Y k = wh * ps.getD k 0 := by
  have bit : ∀ j, j < X + Y → ps.getD j 0 = 0 ∨ ps.getD j 0 = 1 := fun j hj => by have := hb j hj; omega
  unfold cn
  split
  · rename_i hk'
    have hr : k * Y < X * Y := Nat.mul_lt_mul_of_pos_right hk' hY
    unfold counts.f0 one
    rw [if_pos rfl, h _ 2 hr (by omega), h _ 3 hr (by omega)]
    have e := fun j => pbox.N_at ps X Y wh k 0 j hY
    simp only [Nat.add_zero] at e
    rw [e 2, e 3]
    rcases bit k hk with a | a <;> rcases bit X (by omega) with b | b <;> simp only [a, b] <;> simp
  · have hr : k - X < X * Y := by
      have : 1 * Y ≤ X * Y := Nat.mul_le_mul_right _ (by omega)
      omega
    unfold counts.f1 one
    rw [if_neg (by decide), h _ 1 hr (by omega), h _ 3 hr (by omega)]
    have e := fun j => pbox.N_at ps X Y wh 0 (k - X) j (by omega)
    simp only [Nat.zero_mul, Nat.zero_add] at e
    rw [e 1, e 3, show X + (k - X) = k from by omega]
    rcases bit 0 (by omega) with a | a <;> rcases bit k hk with b | b <;> simp only [a, b] <;> simp
theorem ext_getD {xs ys : List Int} {n : Nat} (h1 : xs.length = n) (h2 : ys.length = n) (h : ∀ k, k < n → xs.getD k 0 = ys.getD k 0) : xs = ys := by
  refine List.ext_getElem (by omega) (fun k a b => ?_)
  have := h k (by omega)
  simpa [List.getD, a, b] using this
theorem both {X Y : Nat} {wh : Int} {xss : List (List Int)} {ps : List Int} (hok : okBox X Y wh xss) (hl : ps.length = X + Y) (hb : ∀ k, k < X + Y → 0 ≤ ps.getD k 0 ∧ ps.getD k 0 ≤ 1) (h : Pl xss X Y wh ps) : O xss X Y wh (X + Y) = ps ∧ M xss X Y = ps := by
  have hX : 0 < X := by have := hok.1.1; omega
  have hY : 0 < Y := by have := hok.1.2; omega
  have hw := hok.2.1
  constructor
  · refine ext_getD (len_O _ _ _ _ _) hl (fun k hk => ?_)
    rw [O_at hk, cn_play hX hY hl hb h hk]
    exact Int.mul_ediv_cancel_left _ (by omega)
  · refine ext_getD (len_M _ _ _) hl (fun k hk => ?_)
    rw [M_at hk, cn_play hX hY hl hb h hk]
    have := hb k hk
    have e : ps.getD k 0 = 0 ∨ ps.getD k 0 = 1 := by omega
    rcases e with e | e <;> rw [e] <;> omega
theorem O_bits {X Y : Nat} {wh : Int} {xss : List (List Int)} (hok : okBox X Y wh xss) : ∀ k, k < X + Y → 0 ≤ (O xss X Y wh (X + Y)).getD k 0 ∧ (O xss X Y wh (X + Y)).getD k 0 ≤ 1 := fun k hk => by
  rw [O_at hk]
  have b := cn_bd hok hk
  have hw := hok.2.1
  refine ⟨Int.ediv_nonneg b.1 (by omega), ?_⟩
  have : cn xss X Y k / wh ≤ wh / wh := Int.ediv_le_ediv (by omega) b.2
  rw [Int.ediv_self (by omega)] at this
  exact this
theorem M_bits {X Y : Nat} {wh : Int} {xss : List (List Int)} (hok : okBox X Y wh xss) : ∀ k, k < X + Y → 0 ≤ (M xss X Y).getD k 0 ∧ (M xss X Y).getD k 0 ≤ 1 := fun k hk => by
  rw [M_at hk]
  have b := cn_bd hok hk
  omega
theorem within_of {X Y : Nat} {ps : List Int} (hl : ps.length = X + Y) (hb : ∀ k, k < X + Y → 0 ≤ ps.getD k 0 ∧ ps.getD k 0 ≤ 1) : within ((X : Int) + Y) 0 1 ps := by
  refine ⟨by omega, fun k hk => ?_⟩
  have := hb k (by omega)
  simpa [List.getD, hk] using this
theorem pl_same {X Y : Nat} {wh : Int} {xss : List (List Int)} (hok : okBox X Y wh xss) : Pl xss X Y wh (M xss X Y) ↔ Pl xss X Y wh (O xss X Y wh (X + Y)) := by
  constructor
  · intro h; rw [(both hok (len_M _ _ _) (M_bits hok) h).1]; exact h
  · intro h; rw [(both hok (len_O _ _ _ _ _) (O_bits hok) h).2]; exact h
theorem m_is {X Y : Nat} {wh : Int} {xss : List (List Int)} (hok : okBox X Y wh xss) (h : Pl xss X Y wh (O xss X Y wh (X + Y))) : M xss X Y = O xss X Y wh (X + Y) := (both hok (len_O _ _ _ _ _) (O_bits hok) h).2

open Classical in
/-- what PlayOf answers -/
noncomputable def res (x y wh : Int) (xss : List (List Int)) : List Int × Bool := if okBox x y wh xss ∧ Pl xss x.toNat y.toNat wh (O xss x.toNat y.toNat wh (x.toNat + y.toNat)) then (O xss x.toNat y.toNat wh (x.toNat + y.toNat), true) else ([], false)
theorem res_yes {X Y : Nat} {wh : Int} {xss : List (List Int)} (h : okBox X Y wh xss) (h' : Pl xss X Y wh (O xss X Y wh (X + Y))) : res X Y wh xss = (O xss X Y wh (X + Y), true) := if_pos ⟨h, h'⟩
theorem res_pl {X Y : Nat} {wh : Int} {xss : List (List Int)} (h' : ¬ Pl xss X Y wh (O xss X Y wh (X + Y))) : res X Y wh xss = ([], false) := if_neg (fun h => h' h.2)
theorem res_no {x y wh : Int} {xss : List (List Int)} (h : ¬ okBox x y wh xss) : res x y wh xss = ([], false) := if_neg (fun h' => h h'.1)
theorem len_res (x y wh : Int) (xss : List (List Int)) : (res x y wh xss).1.length ≤ 1048576 := by
  by_cases h : okBox x y wh xss ∧ Pl xss x.toNat y.toNat wh (O xss x.toNat y.toNat wh (x.toNat + y.toNat))
  · have e : res x y wh xss = (O xss x.toNat y.toNat wh (x.toNat + y.toNat), true) := if_pos h
    rw [e]
    simp only [len_O]
    have := h.1.1.1; have := h.1.1.2; omega
  · have e : res x y wh xss = ([], false) := if_neg h
    rw [e]; simp

theorem nn_rows {N : Nat → Nat → Int} {n r k : Nat} (hr : r < n) (hk : k < 4) : nn (make.rowsOf N n) r k = N r k := by
  have e : (make.rowsOf N n).getD r [] = make.quad N r := by simp [make.rowsOf, List.getD, hr]
  unfold nn
  rw [e]
  unfold make.quad
  match k, hk with
  | 0, _ => rfl
  | 1, _ => rfl
  | 2, _ => rfl
  | 3, _ => rfl
/-- alike, as the model asks -/
theorem alike_spec {X Y : Nat} {wh : Int} {xss : List (List Int)} {ps : List Int} (hok : okBox X Y wh xss) : alike.alike wh xss 1 (make.rowsOf (pbox.N ps X Y 1) (X * Y)) ↔ Pl xss X Y wh ps := by
  have hl : xss.length = X * Y := by have := hok.2.2.1; rw [← Int.natCast_mul] at this; omega
  constructor
  · intro h r k hr hk
    have := h r k (by omega) hk
    rw [nn_rows hr hk] at this
    unfold pbox.N at this ⊢
    split at this <;> rename_i c <;> simp only [c, if_true, if_false] <;> omega
  · intro h r k hr hk
    rw [nn_rows (by omega) hk, h r k (by omega) hk]
    unfold pbox.N
    split <;> omega
/-- alike, as the program asks -/
theorem alike_impl {X Y : Nat} {wh : Int} {xss : List (List Int)} {ps : List Int} (hok : okBox X Y wh xss) : alike.alike wh (make.rowsOf (pbox.N ps X Y wh) (X * Y)) wh xss ↔ Pl xss X Y wh ps := by
  have hw := hok.2.1
  constructor
  · intro h r k hr hk
    have := h r k (by rw [make.len_rowsOf]; exact hr) hk
    rw [nn_rows hr hk] at this
    exact (Int.eq_of_mul_eq_mul_right (by omega) this).symm
  · intro h r k hr hk
    rw [make.len_rowsOf] at hr
    rw [nn_rows hr hk, h r k hr hk]

end Go.Proofs.Ytkajebhagkbcaaa.plof
