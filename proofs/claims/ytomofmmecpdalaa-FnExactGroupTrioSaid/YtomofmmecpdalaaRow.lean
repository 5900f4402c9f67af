/- One row of a valid Box: l2Row, l2One, l2Agree of the model; rowOf, answering, agreement of the program. -/
import Derived.Test.YtomofmmecpdalaaVal
import Derived.RegionTactic
import Derived.ChangeAlike
import Derived.BigRegion
import Derived.Deep.WholeRow
import Derived.Laws.CopyRow
namespace Go.Proofs.Ytomofmmecpdalaa.row
open Go.RowKit Go.Deep Go.Proofs.Ytomofmmecpdalaa.base
open Go.Proofs.Ytomofmmecpdalaa.val (okBox okRow okSizes)
open Go.Proofs.Ytomofmmecpdalaa.ints (ret_int)

/-- number k of row r -/
def nn (xss : List (List Int)) (r k : Nat) : Int := (xss.getD r []).getD k 0
/-- the place of the row of two questions -/
def at_ (y i j : Int) : Nat := (i * y + j).toNat

theorem opn_add (b o k : Nat) : (⟨b, o, none⟩ : Addr).add k = ⟨b, o + k, none⟩ := by unfold Addr.add; split <;> simp_all
theorem idx_lt {x y i j : Int} (h : okSizes x y) (i0 : 0 ≤ i) (i1 : i < x) (j0 : 0 ≤ j) (j1 : j < y) : 0 ≤ i * y ∧ i * y ≤ 6 ∧ i * y + j < x * y ∧ 0 ≤ i * y + j := by
  obtain ⟨⟨a1, a2⟩, b1, b2⟩ := h
  have hx : y = 1 ∨ y = 2 ∨ y = 3 := by omega
  rcases hx with rfl | rfl | rfl <;> omega
theorem wrap2 {a j : Int} (h1 : 0 ≤ a) (h2 : a ≤ 6) (h3 : 0 ≤ a + j) (h4 : a + j ≤ 9) : IntKind.i64.wrap a = a ∧ IntKind.i64.wrap (a + j) = a + j := ⟨IntWalk.i64_in _ (by omega), IntWalk.i64_in _ (by omega)⟩
theorem mul9 {x y : Int} (h : okSizes x y) : x * y ≤ 9 := (val.mul_small h).2
theorem at_lt {x y wh i j : Int} {xss : List (List Int)} (h : okBox x y wh xss) (i0 : 0 ≤ i) (i1 : i < x) (j0 : 0 ≤ j) (j1 : j < y) : at_ y i j < xss.length := by
  have := idx_lt h.1 i0 i1 j0 j1
  have := h.2.2.1
  unfold at_; omega
theorem getD_lt {xss : List (List Int)} {r : Nat} (h : r < xss.length) : xss.getD r [] = xss[r] := by simp [List.getD, h]
theorem row_ok {x y wh : Int} {xss : List (List Int)} (h : okBox x y wh xss) {r : Nat} (hr : r < xss.length) : okRow wh (xss.getD r []) := by
  rw [getD_lt hr]; exact h.2.2.2 r hr
theorem nn_get (xss : List (List Int)) (r k : Nat) (h : k < (xss.getD r []).length) : (xss.getD r [])[k] = nn xss r k := by
  unfold nn; rw [List.getD_eq_getElem?_getD (l := xss.getD r []), List.getElem?_eq_getElem h]; rfl
theorem nn_bd {x y wh : Int} {xss : List (List Int)} (h : okBox x y wh xss) {r : Nat} (hr : r < xss.length) {k : Nat} (hk : k < 4) : 0 ≤ nn xss r k ∧ nn xss r k ≤ 1000 := by
  obtain ⟨h1, h2, _⟩ := row_ok h hr
  have hk' : k < (xss.getD r []).length := by omega
  have := h2 k hk'
  have e : nn xss r k = (xss.getD r [])[k] := (nn_get xss r k hk').symm
  rw [e]
  have := h.2.1
  omega
/-- the cells of a row as a walk wants them -/
theorem cells4 {W : World} {u : Value} {x y wh : Int} {xss : List (List Int)} (h : okBox x y wh xss) {r : Nat} (hr : r < xss.length) (hu : Ints W u (xss.getD r [])) :
    ∃ b o cap, u = .slice (some ⟨b, o, none⟩) 4 cap ∧ 4 ≤ cap ∧ cap ≤ maxLen ∧ W.cell? ⟨b, o, none⟩ = some (.int .i64 (nn xss r 0)) ∧ W.cell? ⟨b, o + 1, none⟩ = some (.int .i64 (nn xss r 1)) ∧ W.cell? ⟨b, o + 2, none⟩ = some (.int .i64 (nn xss r 2)) ∧ W.cell? ⟨b, o + 3, none⟩ = some (.int .i64 (nn xss r 3)) := by
  obtain ⟨A, b, o, cap, hv, h1, h2, h3, hc⟩ := hu.form
  have hl := (row_ok h hr).1
  rw [hl] at hv h1 h3
  have hA := h3 (by omega)
  have g : ∀ k, k < 4 → W.cell? ⟨b, o + k, none⟩ = some (.int .i64 (nn xss r k)) := fun k hk => by
    have := hc k (by omega)
    rw [this]
    exact congrArg (fun z => some (Value.int .i64 z)) (nn_get xss r k (by omega))
  exact ⟨b, o, cap, by rw [hv, hA], h1, h2, by simpa using g 0 (by omega), g 1 (by omega), g 2 (by omega), g 3 (by omega)⟩



/-- the sum of the numbers for the answer 1 of a player -/
def one (xss : List (List Int)) (r : Nat) (p : Int) : Int := if p = 0 then nn xss r 2 + nn xss r 3 else nn xss r 1 + nn xss r 3



theorem copy4 {W : World} {b o cap n : Nat} {n0 n1 n2 n3 : Value} (z : Array Value) (t : TypeId) (hz : z.size = 4) (hn : n = W.heap.size) (c0 : W.cell? ⟨b, o, none⟩ = some n0) (c1 : W.cell? ⟨b, o + 1, none⟩ = some n1) (c2 : W.cell? ⟨b, o + 2, none⟩ = some n2)
    (c3 : W.cell? ⟨b, o + 3, none⟩ = some n3) (h0 : n0.oneCell' = true) (h1 : n1.oneCell' = true) (h2 : n2.oneCell' = true) (h3 : n3.oneCell' = true) :
    (Builtin.copy_ #[33, 33] 3 #[.slice (some ⟨n, 0, none⟩) 4 4, .slice (some ⟨b, o, none⟩) 4 cap]).run Try.prog (W.alloc (.cells z t)).drew = .ok (.int .i64 4) (W.alloc (.cells #[n0, n1, n2, n3] t)).drew := by
  subst hn
  have hlt : b < W.heap.size := World.block_lt_of_cell? _ _ c0
  have old : ∀ k, (W.alloc (.cells z t)).drew.cell? ⟨b, k, none⟩ = W.cell? ⟨b, k, none⟩ := fun k => World.cell?_alloc_lt W _ ⟨b, k, none⟩ hlt
  have hi : (Try.prog.info? 3).map (·.size) = some 1 := by
    obtain ⟨i, h, h'⟩ := Option.map_eq_some_iff.1 ints.infoInt
    rw [h]; simp at h' ⊢; exact h'.2.1
  have := run_copy_row (P := Try.prog) (W.alloc (.cells z t)).drew 33 33 3 3 W.heap.size 0 4 4 ⟨b, o, none⟩ 4 cap z t [n0, n1, n2, n3] Try.underlying33 hi (heap_alloc_new W.drew _) (by simp)
    (fun j v hv => by
      rw [opn_add]
      rw [old]
      match j, hv with
      | 0, hv => simp at hv; subst hv; exact c0
      | 1, hv => simp at hv; subst hv; exact c1
      | 2, hv => simp at hv; subst hv; exact c2
      | 3, hv => simp at hv; subst hv; exact c3)
    (by simp [hz]) (by simp [h0, h1, h2, h3])
  rw [this]
  have e : (z.toList.take 0 ++ [n0, n1, n2, n3] ++ z.toList.drop (0 + [n0, n1, n2, n3].length)).toArray = #[n0, n1, n2, n3] := by
    rw [List.take_zero, List.nil_append, List.drop_of_length_le (by simp [hz])]; rfl
  rw [e]
  show Result.ok _ ((W.drew.alloc (.cells z t)).setRow W.drew.heap.size #[n0, n1, n2, n3]) = _
  rw [World.setRow_alloc_new]
  rfl

theorem copy4p {W : World} {b o cap n : Nat} {n0 n1 n2 n3 : Value} (z : Array Value) (t : TypeId) (hz : z.size = 4) (hn : n = W.heap.size) (c0 : W.cell? ⟨b, o, none⟩ = some n0) (c1 : W.cell? ⟨b, o + 1, none⟩ = some n1) (c2 : W.cell? ⟨b, o + 2, none⟩ = some n2)
    (c3 : W.cell? ⟨b, o + 3, none⟩ = some n3) (h0 : n0.oneCell' = true) (h1 : n1.oneCell' = true) (h2 : n2.oneCell' = true) (h3 : n3.oneCell' = true) :
    (Builtin.copy_ #[33, 33] 3 #[.slice (some ⟨n, 0, none⟩) 4 4, .slice (some ⟨b, o, none⟩) 4 cap]).run Try.prog (W.alloc (.cells z t)) = .ok (.int .i64 4) (W.alloc (.cells #[n0, n1, n2, n3] t)) := by
  subst hn
  have hlt : b < W.heap.size := World.block_lt_of_cell? _ _ c0
  have old : ∀ k, (W.alloc (.cells z t)).cell? ⟨b, k, none⟩ = W.cell? ⟨b, k, none⟩ := fun k => World.cell?_alloc_lt W _ ⟨b, k, none⟩ hlt
  have hi : (Try.prog.info? 3).map (·.size) = some 1 := by
    obtain ⟨i, h, h'⟩ := Option.map_eq_some_iff.1 ints.infoInt
    rw [h]; simp at h' ⊢; exact h'.2.1
  have := run_copy_row (P := Try.prog) (W.alloc (.cells z t)) 33 33 3 3 W.heap.size 0 4 4 ⟨b, o, none⟩ 4 cap z t [n0, n1, n2, n3] Try.underlying33 hi (heap_alloc_new W _) (by simp)
    (fun j v hv => by
      rw [opn_add]
      rw [old]
      match j, hv with
      | 0, hv => simp at hv; subst hv; exact c0
      | 1, hv => simp at hv; subst hv; exact c1
      | 2, hv => simp at hv; subst hv; exact c2
      | 3, hv => simp at hv; subst hv; exact c3)
    (by simp [hz]) (by simp [h0, h1, h2, h3])
  rw [this]
  have e : (z.toList.take 0 ++ [n0, n1, n2, n3] ++ z.toList.drop (0 + [n0, n1, n2, n3].length)).toArray = #[n0, n1, n2, n3] := by
    rw [List.take_zero, List.nil_append, List.drop_of_length_le (by simp [hz])]; rfl
  rw [e]
  show Result.ok _ ((W.alloc (.cells z t)).setRow W.heap.size #[n0, n1, n2, n3]) = _
  rw [World.setRow_alloc_new]
  rfl





/-- the agreement of a row -/
def agr (xss : List (List Int)) (r : Nat) : Int := nn xss r 0 - nn xss r 1 - nn xss r 2 + nn xss r 3





end Go.Proofs.Ytomofmmecpdalaa.row
