/- Sums of Boxes: wirings by the sum rules, one after another. It speaks of no program. -/
import Derived.Test.YtneonebgneonkaaWrm
import Derived.Test.YtneonebgneonkaaPbox
namespace Go.Proofs.Ytneonebgneonkaa.smm
open Go.RowKit Go.Deep Go.Proofs.Ytneonebgneonkaa.base
open Go.Proofs.Ytneonebgneonkaa.val (okSizes okBox okRow)
open Go.Proofs.Ytneonebgneonkaa.row (nn nn_bd)
open Go.Proofs.Ytneonebgneonkaa.play (within withinB)
open Go.Proofs.Ytneonebgneonkaa.two (two)
open Go.Proofs.Ytneonebgneonkaa.wrm

def F : List Int := [0, 1]
def K : List (List Int) := [[0, 0], [1, 1]]
def S : List (List Int) := [[0, 1, 1, 0], [0, 1, 1, 0]]
theorem within_of {n : Nat} {xs : List Int} (h : xs.length = n) (h2 : ∀ z ∈ xs, 0 ≤ z ∧ z ≤ 1) : within n 0 1 xs := ⟨by omega, fun k hk => h2 _ (List.getElem_mem hk)⟩
theorem rule_sum : rule F K S :=
  ⟨within_of (n := 2) rfl (by decide), ⟨rfl, within_of (n := 2) rfl (by decide), within_of (n := 2) rfl (by decide)⟩, ⟨rfl, within_of (n := 4) rfl (by decide), within_of (n := 4) rfl (by decide)⟩⟩

/-- a Box as it is read -/
structure Bx where
  x : Int
  y : Int
  wh : Int
  rows : List (List Int)
noncomputable def wire (r : make.Res) (b : Bx) : make.Res := wrm.res r.x r.y r.wh r.rows b.x b.y b.wh b.rows F K S F K S
noncomputable def fold (r : make.Res) (bs : List Bx) : make.Res := bs.foldl wire r
theorem fold_snoc (r : make.Res) (bs : List Bx) (b : Bx) : fold r (bs ++ [b]) = wire (fold r bs) b := by simp [fold]
theorem tot_wire (r : make.Res) (b : Bx) : rws.total (wire r b).rows ≤ 1048576 := wrm.tot_res
theorem tot_fold (r : make.Res) (hr : rws.total r.rows ≤ 1048576) : ∀ bs : List Bx, rws.total (fold r bs).rows ≤ 1048576 := fun bs => by
  rcases List.eq_nil_or_concat bs with rfl | ⟨l, b, rfl⟩
  · exact hr
  · rw [List.concat_eq_append, fold_snoc]; exact tot_wire _ _
noncomputable def P0 : make.Res := pbox.res 2 2 [0, 0, 0, 0] 1
theorem P0_eq : P0 = ⟨2, 2, 1, make.rowsOf (pbox.N [0, 0, 0, 0] 2 2 1) 4, true⟩ :=
  pbox.res_yes ⟨⟨by omega, by omega⟩, within_of (n := 4) rfl (by decide), by omega, by omega⟩
theorem pN (r k : Nat) (hr : r < 4) : pbox.N [0, 0, 0, 0] 2 2 1 r k = if k = 0 then 1 else 0 := by
  unfold pbox.N
  have e1 : ([0, 0, 0, 0] : List Int).getD (r / 2) 0 = 0 := by
    obtain h | h : r / 2 = 0 ∨ r / 2 = 1 := by omega
    all_goals rw [h]; rfl
  have e2 : ([0, 0, 0, 0] : List Int).getD (2 + r % 2) 0 = 0 := by
    obtain h | h : r % 2 = 0 ∨ r % 2 = 1 := by omega
    all_goals rw [h]; rfl
  rw [e1, e2]
  by_cases h : k = 0
  · rw [if_pos h, if_pos (by omega)]
  · rw [if_neg h, if_neg (by omega)]
theorem nn_rows (N : Nat → Nat → Int) {r k : Nat} (hr : r < 4) (hk : k < 4) : nn (make.rowsOf N 4) r k = N r k := by
  unfold nn make.rowsOf
  have e : ((List.range 4).map (make.quad N)).getD r [] = make.quad N r := by
    obtain rfl | rfl | rfl | rfl : r = 0 ∨ r = 1 ∨ r = 2 ∨ r = 3 := by omega
    all_goals rfl
  rw [e]
  obtain rfl | rfl | rfl | rfl : k = 0 ∨ k = 1 ∨ k = 2 ∨ k = 3 := by omega
  all_goals rfl
theorem rows_self {wh : Int} {xss : List (List Int)} (h : two 2 2 wh xss) {N : Nat → Nat → Int} (hN : ∀ r, r < 4 → ∀ k, k < 4 → N r k = nn xss r k) : make.rowsOf N 4 = xss := by
  have hl := len_two h
  refine List.ext_getElem (by rw [make.len_rowsOf, hl]) (fun r h1 h2 => ?_)
  have hr : r < 4 := by rw [make.len_rowsOf] at h1; exact h1
  have e : (make.rowsOf N 4)[r]'h1 = make.quad N r := by simp [make.rowsOf]
  rw [e]
  have h4 := (h.1.2.2.2 r h2).1
  refine List.ext_getElem (by rw [h4]; rfl) (fun k k1 k2 => ?_)
  have hk : k < 4 := by omega
  have e2 := hN r hr k hk
  have e3 : nn xss r k = xss[r][k] := by unfold nn; simp [List.getD, h2, k2]
  rw [← e3, ← e2]
  obtain rfl | rfl | rfl | rfl : k = 0 ∨ k = 1 ∨ k = 2 ∨ k = 3 := by omega
  all_goals rfl
theorem two_P0 : two 2 2 1 (make.rowsOf (pbox.N [0, 0, 0, 0] 2 2 1) 4) := by
  refine ⟨make.ok_rowsOf (x := 2) (y := 2) ⟨by omega, by omega⟩ ⟨by omega, by omega⟩ (fun r hr => make.okRow_quad (fun k hk => ?_) ?_), rfl, rfl⟩
  · rw [pN r k (by omega)]; split <;> omega
  · rw [pN r 0 (by omega), pN r 1 (by omega), pN r 2 (by omega), pN r 3 (by omega)]; decide
theorem acc_tail (f : Nat → Int) (g : Nat → Nat) (j : Nat) (m : Nat) : ∀ n, (∀ t, m ≤ t → t < m + n → f t = 0) → acc f g (m + n) j = acc f g m j
  | 0, _ => rfl
  | n + 1, h => by
    have ih := acc_tail f g j m n (fun t h1 h2 => h t h1 (by omega))
    have h0 := h (m + n) (by omega) (by omega)
    show acc f g (m + n) j + (if g (m + n) = j then f (m + n) else 0) = _
    rw [h0, ih]; simp
theorem first_N (xss : List (List Int)) {p j : Nat} (hp : p < 4) (hj : j < 4) : N (make.rowsOf (pbox.N [0, 0, 0, 0] 2 2 1) 4) xss F K S F K S p j = nn xss p j := by
  unfold N
  have hq : qa F F p < 4 := qa_lt rule_sum rule_sum hp
  have ht : ∀ t, t < 16 → term (make.rowsOf (pbox.N [0, 0, 0, 0] 2 2 1) 4) xss F K F K p t = if t < 4 then nn xss p t else 0 := fun t ht => by
    unfold term
    rw [nn_rows _ hq (by omega : t / 4 < 4), pN _ _ hq]
    by_cases h : t < 4
    · have h0 : t / 4 = 0 := by omega
      have h1 : t % 4 = t := by omega
      rw [if_pos (by omega), if_pos h, Int.one_mul, h0, h1]
      have : qb K K p 0 = p := by
        obtain rfl | rfl | rfl | rfl : p = 0 ∨ p = 1 ∨ p = 2 ∨ p = 3 := by omega
        all_goals rfl
      rw [this]
    · rw [if_neg (by omega), if_neg h, Int.zero_mul]
  have hg : ∀ t, t < 4 → spot S S p t = t := fun t h => by
    obtain rfl | rfl | rfl | rfl : p = 0 ∨ p = 1 ∨ p = 2 ∨ p = 3 := by omega
    all_goals
      obtain rfl | rfl | rfl | rfl : t = 0 ∨ t = 1 ∨ t = 2 ∨ t = 3 := by omega
      all_goals rfl
  rw [acc_tail _ _ _ 4 12 (fun t h1 h2 => by rw [ht t (by omega), if_neg (by omega)])]
  have a0 := ht 0 (by omega)
  have a1 := ht 1 (by omega)
  have a2 := ht 2 (by omega)
  have a3 := ht 3 (by omega)
  simp only [acc, hg 0 (by omega), hg 1 (by omega), hg 2 (by omega), hg 3 (by omega), a0, a1, a2, a3]
  obtain rfl | rfl | rfl | rfl : j = 0 ∨ j = 1 ∨ j = 2 ∨ j = 3 := by omega
  all_goals simp
theorem first_yes {b : Bx} (h : two b.x b.y b.wh b.rows) : wire P0 b = ⟨2, 2, b.wh, b.rows, true⟩ := by
  obtain ⟨x, y, wh, rows⟩ := b
  have h' : two x y wh rows := h
  obtain ⟨_, rfl, rfl⟩ := id h'
  rw [P0_eq]
  unfold wire
  have hw := h'.1.2.1
  rw [res_yes ⟨⟨⟨two_P0, h'⟩, rule_sum, rule_sum⟩, by simp; omega⟩, rows_self h' (fun r hr k hk => first_N rows hr hk)]
  simp
theorem wire_zero (b : Bx) : wire make.Res.zero b = make.Res.zero := res_no (fun h => by have := h.1.1.1.2.1; exact absurd this (show ¬ (0 : Int) = 2 by decide))
theorem wire_bad (r : make.Res) {b : Bx} (h : ¬ two b.x b.y b.wh b.rows) : wire r b = make.Res.zero := res_no (fun h' => h h'.1.1.2)

end Go.Proofs.Ytneonebgneonkaa.smm
