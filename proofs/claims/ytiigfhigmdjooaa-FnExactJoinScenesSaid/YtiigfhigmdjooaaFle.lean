/- FlipEvent of the program. -/
import Derived.Test.YtiigfhigmdjooaaLst
import Derived.Test.YtiigfhigmdjooaaScv
import Derived.Deep.RegionHeld3
namespace Go.Proofs.Ytiigfhigmdjooaa.fle
open Go.RowKit Go.Deep Go.Proofs.Ytiigfhigmdjooaa.base
open Go.Proofs.Ytiigfhigmdjooaa.ints (infoInt infoInts ret_int)
open Go.Proofs.Ytiigfhigmdjooaa.rws (total len_le_total)
open Go.Proofs.Ytiigfhigmdjooaa.val (ret_b)
open Go.Proofs.Ytiigfhigmdjooaa.play (within withinB withinB_yes withinB_no)
open Go.Proofs.Ytiigfhigmdjooaa.scm
open Go.Proofs.Ytiigfhigmdjooaa.lst

/-- what a function answers that makes a Scene -/
structure Res where
  x : Int
  rows : List (List Int)
  ws : List Int
  ok : Bool
def none_ : Res := ⟨0, [], [], false⟩

def set3 (W : World) (g : Nat) (a b c : Value) : World := ((W.setCell ⟨g, 0, none⟩ a).setCell ⟨g, 1, none⟩ b).setCell ⟨g, 2, none⟩ c
theorem set3_wrote (W : World) (g : Nat) (a b c : Value) : Wrote (fun p => p.block = g) W (set3 W g a b c) := Wrote.setCell (S := fun p => p.block = g) (p := ⟨g, 2, none⟩) (Wrote.setCell (S := fun p => p.block = g) (p := ⟨g, 1, none⟩) (Wrote.setCell (S := fun p => p.block = g) (p := ⟨g, 0, none⟩) (Wrote.refl _ _) rfl a) rfl b) rfl c
theorem set3_same {W : World} {g : Nat} {t : TypeId} {x0 x1 x2 : Value} (a b c : Value) (h : Blk W g t #[x0, x1, x2]) : Blk (set3 W g a b c) g t #[a, b, c] := by
  have h1 := Joins.block_setCell (i := 0) h a
  have h2 := Joins.block_setCell (i := 1) h1 b
  have h3 := Joins.block_setCell (i := 2) h2 c
  exact h3
theorem set3_below {W : World} {g B : Nat} (a b c : Value) (hB : B ≤ g) {w : World} (h : Below B w W) : Below B w (set3 W g a b c) := h.trans ((set3_wrote W g a b c).below (fun p hp => by have : p.block = g := hp; omega))
theorem heldB3 {w1 w' : World} {B : Nat} {p1 p2 p3 : Addr} {u1 u2 u3 : Value} (h1 : w1.cell? p1 = some u1) (h2 : w1.cell? p2 = some u2) (h3 : w1.cell? p3 = some u3) (l1 : p1.block < B) (l2 : p2.block < B) (l3 : p3.block < B) (hb : Below B w1 w') :
    w'.cell? p1 = some u1 ∧ w'.cell? p2 = some u2 ∧ w'.cell? p3 = some u3 ∧ Below B w1 w' :=
  ⟨(hb.cell l1).trans h1, (hb.cell l2).trans h2, (hb.cell l3).trans h3, hb⟩

/-- the sums of the first k contexts flipped where they have the event -/
def flk (xss : List (List Int)) (ws : List Int) (e : Int) (k : Nat) : List Int := (List.range ws.length).map (fun j => if j < k ∧ e ∈ xss.getD j [] then 1 - ws.getD j 0 else ws.getD j 0)
theorem len_flk (xss : List (List Int)) (ws : List Int) (e : Int) (k : Nat) : (flk xss ws e k).length = ws.length := by simp [flk]
theorem flk_zero (xss : List (List Int)) (ws : List Int) (e : Int) : flk xss ws e 0 = ws := by
  apply List.ext_getElem (by simp [flk])
  intro i h1 h2
  simp [flk, List.getD, h2]
theorem flk_at (xss : List (List Int)) (ws : List Int) (e : Int) {k : Nat} (h : k < ws.length) : (flk xss ws e k)[k]'(by rw [len_flk]; exact h) = ws[k] := by simp [flk, List.getD, h]
theorem flk_no (xss : List (List Int)) (ws : List Int) {e : Int} {k : Nat} (h : ¬ e ∈ xss.getD k []) : flk xss ws e (k + 1) = flk xss ws e k := by
  unfold flk
  apply List.map_congr_left
  intro j _
  by_cases hj : j = k
  · subst hj; rw [if_neg (fun hh => h hh.2), if_neg (fun hh => h hh.2)]
  · by_cases hl : j < k
    · have : (j < k + 1 ∧ e ∈ xss.getD j []) ↔ (j < k ∧ e ∈ xss.getD j []) := ⟨fun hh => ⟨hl, hh.2⟩, fun hh => ⟨by omega, hh.2⟩⟩
      simp only [this]
    · rw [if_neg (fun hh => by have := hh.1; omega), if_neg (fun hh => hl hh.1)]
theorem flk_yes (xss : List (List Int)) (ws : List Int) {e : Int} {k : Nat} (hk : k < ws.length) (h : e ∈ xss.getD k []) : (i64s (flk xss ws e k)).set k (.int .i64 (1 - ws[k])) = i64s (flk xss ws e (k + 1)) := by
  apply List.ext_getElem (by simp [flk, i64s])
  intro i h1 h2
  have h3 : i < ws.length := by rw [len_i64s, len_flk] at h2; exact h2
  rw [List.getElem_set]
  by_cases ee : k = i
  · subst ee
    rw [if_pos rfl]
    have hc : k < k + 1 ∧ e ∈ xss.getD k [] := ⟨by omega, h⟩
    simp only [i64s, flk, List.getElem_map, List.getElem_range, if_pos hc]
    simp [List.getD, hk]
  · rw [if_neg ee]
    simp only [i64s, flk, List.getElem_map, List.getElem_range]
    have : (i < k + 1 ∧ e ∈ xss.getD i []) ↔ (i < k ∧ e ∈ xss.getD i []) := ⟨fun hh => ⟨by omega, hh.2⟩, fun hh => ⟨by omega, hh.2⟩⟩
    simp only [this]

open Classical in
noncomputable def flipR (x : Int) (xss : List (List Int)) (ws : List Int) (e : Int) : Res := if okScene x xss ws ∧ 0 ≤ e ∧ e < x then ⟨x, xss, flk xss ws e xss.length, true⟩ else none_
theorem flipR_yes {x : Int} {xss : List (List Int)} {ws : List Int} {e : Int} (h : okScene x xss ws ∧ 0 ≤ e ∧ e < x) : flipR x xss ws e = ⟨x, xss, flk xss ws e xss.length, true⟩ := if_pos h
theorem flipR_no {x : Int} {xss : List (List Int)} {ws : List Int} {e : Int} (h : ¬ (okScene x xss ws ∧ 0 ≤ e ∧ e < x)) : flipR x xss ws e = none_ := if_neg h
theorem total_ok {x : Int} {xss : List (List Int)} {ws : List Int} (h : okScene x xss ws) : rws.total xss ≤ 1048576 := by
  have h1 : ∀ (l : List (List Int)) (_ : ∀ r ∈ l, r.length ≤ 12), (l.map List.length).sum ≤ 12 * l.length := by
    intro l
    induction l with
    | nil => intro _; simp
    | cons a l ih =>
      intro hh
      have h1 := ih (fun r hr => hh r (List.mem_cons_of_mem _ hr))
      have h2 := hh a List.mem_cons_self
      simp only [List.map_cons, List.sum_cons, List.length_cons]
      omega
  have h2 := h1 xss (fun r hr => by obtain ⟨k, hk, rfl⟩ := List.mem_iff_getElem.1 hr; exact h.ctx_len hk)
  have h3 := h.len
  unfold rws.total
  omega
theorem total_flipR {x : Int} {xss : List (List Int)} {ws : List Int} {e : Int} : rws.total (flipR x xss ws e).rows ≤ 1048576 := by
  by_cases h : okScene x xss ws ∧ 0 ≤ e ∧ e < x
  · rw [flipR_yes h]; exact total_ok h.1
  · rw [flipR_no h]; decide
theorem len_flipR {x : Int} {xss : List (List Int)} {ws : List Int} {e : Int} : (flipR x xss ws e).ws.length ≤ 1048576 := by
  by_cases h : okScene x xss ws ∧ 0 ≤ e ∧ e < x
  · rw [flipR_yes h]
    show (flk _ _ _ _).length ≤ _
    rw [len_flk]
    have := h.1.sums.1
    have := h.1.len
    omega
  · rw [flipR_no h]; decide
theorem bounds {x : Int} {xss : List (List Int)} {ws : List Int} (h : okScene x xss ws) : ∀ r (hr : r < xss.length), 0 < xss[r].length ∧ xss[r].length ≤ 12 ∧ ∀ k (hk : k < xss[r].length), 0 ≤ (xss[r])[k] ∧ (xss[r])[k] ≤ 11 := fun r hr =>
  ⟨(h.ctx r hr).1, h.ctx_len hr, fun k hk => by have := rising_at (h.ctx r hr).2 hk; have := h.ev1; omega⟩



end Go.Proofs.Ytiigfhigmdjooaa.fle
