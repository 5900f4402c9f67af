/- A task as a grid of cells; rectangles: lists of places that lie in it. It speaks of no function. -/
import Derived.Test.YtimfnhejiiagmaaTask
namespace Go.Proofs.Ytimfnhejiiagmaa.grid
open Go.RowKit Go.Deep Go.Proofs.Ytimfnhejiiagmaa.base
open Go.Proofs.Ytimfnhejiiagmaa.task (okTask wide wide_eq row_len row_bd)

/-- the number of a task at a row and a column -/
def nn (xss : List (List Int)) (i j : Nat) : Int := (xss.getD i []).getD j 0
theorem nn_eq {xss : List (List Int)} {i j : Nat} (h : i < xss.length) (h2 : j < xss[i].length) : nn xss i j = xss[i][j] := by
  unfold nn; simp [List.getD, h, h2]
theorem nn_bd {xss : List (List Int)} (h : okTask xss) {i j : Nat} (hi : i < xss.length) (hj : j < wide xss) : nn xss i j = 0 ∨ nn xss i j = 1 := by
  have hj' : j < xss[i].length := by rw [row_len h i hi]; exact hj
  rw [nn_eq hi hj']
  have := row_bd h i hi j hj'
  omega

/-- all cells of a task -/
theorem cells {w : World} {v : Value} {xss : List (List Int)} (h : IRows w v xss) (hok : okTask xss) :
    ∃ (B d cap : Nat) (rb ro rc : Nat → Nat), v = .slice (some ⟨B, d, none⟩) xss.length cap ∧
      ∀ r, r < xss.length → w.cell? ⟨B, d + r, none⟩ = some (.slice (some ⟨rb r, ro r, none⟩) (wide xss) (rc r)) ∧ ∀ c, c < wide xss → w.cell? ⟨rb r, ro r + c, none⟩ = some (.int .i64 (nn xss r c)) := by
  obtain ⟨A, B, d, cap, R, hv, hcap, hmax, hA, hr⟩ := h.form
  have hp : 0 < xss.length := by have := hok.1.1; omega
  have hw : 0 < wide xss := by have := hok.2.1.1; omega
  have each : ∀ r, ∃ q : Nat × Nat × Nat, r < xss.length → R r = .slice (some ⟨q.1, q.2.1, none⟩) (wide xss) q.2.2 ∧ ∀ c, c < wide xss → w.cell? ⟨q.1, q.2.1 + c, none⟩ = some (.int .i64 (nn xss r c)) := by
    intro r
    by_cases hlt : r < xss.length
    · obtain ⟨A2, b2, o2, cap2, e2, _, _, hA2, hc2⟩ := (hr r hlt).2.form
      have hl := row_len hok r hlt
      refine ⟨(b2, o2, cap2), fun _ => ⟨by rw [e2, hA2 (by omega), hl], fun c hc => ?_⟩⟩
      rw [nn_eq hlt (by rw [hl]; exact hc)]
      exact hc2 c (by rw [hl]; exact hc)
    · exact ⟨(0, 0, 0), fun h => absurd h hlt⟩
  obtain ⟨f, hf⟩ := Classical.axiomOfChoice each
  refine ⟨B, d, cap, fun r => (f r).1, fun r => (f r).2.1, fun r => (f r).2.2, by rw [hv, hA hp], fun r hlt => ⟨?_, (hf r hlt).2⟩⟩
  rw [(hr r hlt).1, (hf r hlt).1]

/-- the places of a list, as naturals -/
def at_ (xs : List Int) (a : Nat) : Nat := (xs.getD a 0).toNat
/-- a list with places below n -/
def inB (n : Nat) (xs : List Int) : Prop := 0 < xs.length ∧ ∀ a (h : a < xs.length), 0 ≤ xs[a] ∧ xs[a] < n
theorem at_eq {n : Nat} {xs : List Int} (h : inB n xs) {a : Nat} (ha : a < xs.length) : xs[a] = ((at_ xs a : Nat) : Int) := by
  unfold at_; simp [List.getD, ha]; have := (h.2 a ha).1; omega
theorem at_lt {n : Nat} {xs : List Int} (h : inB n xs) {a : Nat} (ha : a < xs.length) : at_ xs a < n := by
  have h1 := at_eq h ha; have h2 := (h.2 a ha).2; omega
theorem lists {w : World} {v : Value} {n : Nat} {xs : List Int} (h : Ints w v xs) (hb : inB n xs) :
    ∃ (b o cap : Nat), v = .slice (some ⟨b, o, none⟩) xs.length cap ∧ ∀ a, a < xs.length → w.cell? ⟨b, o + a, none⟩ = some (.int .i64 ((at_ xs a : Nat) : Int)) ∧ at_ xs a < n := by
  obtain ⟨A, b, o, cap, hv, hcap, hmax, hA, hc⟩ := h.form
  exact ⟨b, o, cap, by rw [hv, hA hb.1], fun a ha => ⟨by rw [hc a ha, at_eq hb ha], at_lt hb ha⟩⟩

theorem len_max {w : World} {v : Value} {xs : List Int} (h : Ints w v xs) : (xs.length : Int) ≤ 9223372036854775807 := by
  obtain ⟨A, b, o, cap, _, hcap, hmax, _⟩ := h.form
  unfold maxLen at hmax; omega

/-- the first number of a rectangle; a plain one -/
def first (xss : List (List Int)) (rs cs : List Int) : Int := nn xss (at_ rs 0) (at_ cs 0)
def plain (xss : List (List Int)) (rs cs : List Int) : Prop := ∀ a b, a < rs.length → b < cs.length → nn xss (at_ rs a) (at_ cs b) = first xss rs cs
end Go.Proofs.Ytimfnhejiiagmaa.grid
