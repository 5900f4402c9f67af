/- Rows that were built one after another; SquareScene and StarScene of both sides. -/
import Derived.Test.YtkikdecepdbbnaaScene
import Derived.Test.YtkikdecepdbbnaaApp
namespace Go.Proofs.Ytkikdecepdbbnaa.sqr
open Go.RowKit Go.Deep Go.Proofs.Ytkikdecepdbbnaa.base

theorem heap_cell {w : World} {g k : Nat} {t : TypeId} {cs : Array Value} {u : Value} (h : w.heap[g]? = some (.cells cs t (0, 0))) (hk : cs[k]? = some u) : w.cell? ⟨g, 0 + k, none⟩ = some u := by
  rw [Nat.zero_add, Joins.cell_of_block h]; exact hk
def outer (P : Nat) (xss : List (List Int)) : List Value := (List.range xss.length).map fun r => Value.slice (some ⟨P + r, 0, none⟩) (xss.getD r []).length (xss.getD r []).length
theorem outer_at {P : Nat} {xss : List (List Int)} {r : Nat} {u : Value} (h : (outer P xss)[r]? = some u) : ∃ hr : r < xss.length, u = .slice (some ⟨P + r, 0, none⟩) xss[r].length xss[r].length := by
  unfold outer at h
  have hr : r < xss.length := by
    rcases Nat.lt_or_ge r xss.length with g | g
    · exact g
    · rw [List.getElem?_eq_none (by simpa using g)] at h; cases h
  simp [hr] at h
  exact ⟨hr, h.symm⟩
theorem outer_mem {P : Nat} {xss : List (List Int)} {u : Value} (h : u ∈ outer P xss) : ∃ r, ∃ hr : r < xss.length, u = .slice (some ⟨P + r, 0, none⟩) xss[r].length xss[r].length := by
  obtain ⟨r, hr, rfl⟩ := List.mem_iff_getElem.1 h
  exact ⟨r, outer_at (List.getElem?_eq_getElem hr)⟩
theorem own_built {w : World} {P T : Nat} {t t2 : TypeId} {xss : List (List Int)} (hrow : ∀ r (h : r < xss.length), w.heap[P + r]? = some (.cells (i64s xss[r]).toArray t (0, 0)))
    (hout : w.heap[P + xss.length]? = some (.cells (outer P xss).toArray t2 (0, 0))) (hlen : ∀ r (h : r < xss.length), xss[r].length ≤ maxLen) (hn : xss.length ≤ maxLen) (hT : P + xss.length < T) :
    OwnRows w P T (.slice (some ⟨P + xss.length, 0, none⟩) xss.length xss.length) xss := by
  have hol : (outer P xss).length = xss.length := by simp [outer]
  have hrw : ∀ r (h : r < xss.length), Ints w (.slice (some ⟨P + r, 0, none⟩) xss[r].length xss[r].length) xss[r] := fun r h =>
    ⟨_, _, by rw [len_i64s], by rw [len_i64s]; exact Nat.le_refl _, hlen r h, fun k u hu => ⟨_, _, rfl, heap_cell (hrow r h) (by simpa using hu)⟩⟩
  refine ⟨outer P xss, ⟨_, _, by rw [hol], by rw [hol]; exact Nat.le_refl _, hn, fun k u hu => ⟨_, _, rfl, heap_cell hout (by simpa using hu)⟩⟩, hol, fun r h => ?_, ?_, ?_, ?_, ?_, ?_, ?_, ?_⟩
  · exact ⟨.slice (some ⟨P + r, 0, none⟩) xss[r].length xss[r].length, by simp [outer, h], hrw r h⟩
  · rintro p ⟨b, o, len, cap, he, hb, _⟩; injection he with e1; injection e1 with e2; injection e2 with e3; omega
  · rintro p ⟨b, o, len, cap, he, hb, _⟩; injection he with e1; injection e1 with e2; injection e2 with e3; omega
  · intro u hu p hp
    obtain ⟨r, hr, rfl⟩ := outer_mem hu
    obtain ⟨b, o, len, cap, he, hb, _⟩ := hp; injection he with e1; injection e1 with e2; injection e2 with e3; omega
  · intro u hu p hp
    obtain ⟨r, hr, rfl⟩ := outer_mem hu
    obtain ⟨b, o, len, cap, he, hb, _⟩ := hp; injection he with e1; injection e1 with e2; injection e2 with e3; omega
  · intro u hu p hp
    obtain ⟨r, hr, rfl⟩ := outer_mem hu
    obtain ⟨b, o, len, cap, he, hb, hs, _⟩ := hp; injection he with e1; injection e1 with e2; injection e2 with e3
    obtain ⟨pb, po, ps⟩ := p
    simp only at hb hs
    subst hs
    rw [hb, ← e3]
    exact Joins.unfrozen_of_block (hrow r hr) _
  · intro u hu p hp hq
    obtain ⟨r, hr, rfl⟩ := outer_mem hu
    obtain ⟨b, o, len, cap, he, hb, _⟩ := hp; injection he with e1; injection e1 with e2; injection e2 with e3
    obtain ⟨b', o', len', cap', he', hb', _⟩ := hq; injection he' with f1; injection f1 with f2; injection f2 with f3
    omega
  · intro r s a b hrs ha hb p hp hq
    obtain ⟨hr, rfl⟩ := outer_at ha
    obtain ⟨hs, rfl⟩ := outer_at hb
    obtain ⟨b, o, len, cap, he, hb, _⟩ := hp; injection he with e1; injection e1 with e2; injection e2 with e3
    obtain ⟨b', o', len', cap', he', hb', _⟩ := hq; injection he' with f1; injection f1 with f2; injection f2 with f3
    omega
theorem ints_built {w : World} {P B T : Nat} {t : TypeId} {xs : List Int} (h : w.heap[P]? = some (.cells (i64s xs).toArray t (0, 0))) (hm : xs.length ≤ maxLen) (hB : B ≤ P) (hT : P < T) : OwnInts w B T (.slice (some ⟨P, 0, none⟩) xs.length xs.length) xs := by
  refine ⟨⟨_, _, by rw [len_i64s], by rw [len_i64s]; exact Nat.le_refl _, hm, fun k u hu => ⟨_, _, rfl, heap_cell h (by simpa using hu)⟩⟩, ?_, ?_, ?_⟩
  · rintro p ⟨b, o, len, cap, he, hb, _⟩; injection he with e1; injection e1 with e2; injection e2 with e3; omega
  · rintro p ⟨b, o, len, cap, he, hb, _⟩; injection he with e1; injection e1 with e2; injection e2 with e3; omega
  · rintro ⟨pb, po, ps⟩ ⟨b, o, len, cap, he, hb, hs, _⟩; injection he with e1; injection e1 with e2; injection e2 with e3
    simp only at hb hs
    subst hs
    rw [hb, ← e3]
    exact Joins.unfrozen_of_block h _

theorem heap_al (w : World) (o : Obj) (k : Nat) : (w.alloc o).heap[k]? = if k = w.heap.size then some o else w.heap[k]? := by
  by_cases h : k = w.heap.size
  · rw [if_pos h, h]; exact heap_alloc_new w o
  · rw [if_neg h]
    rcases Nat.lt_or_ge k w.heap.size with g | g
    · exact (Below.heap_alloc w o k g)
    · rw [Array.getElem?_eq_none (by simp; omega), Array.getElem?_eq_none (by omega)]
theorem cell_al (w : World) (o : Obj) (b i : Nat) (h : b < w.heap.size) : (w.alloc o).cell? ⟨b, i, none⟩ = w.cell? ⟨b, i, none⟩ := World.cell?_alloc_lt w o ⟨b, i, none⟩ h
theorem cell_al0 (w : World) (cs : Array Value) (t : TypeId) (i : Nat) : (w.alloc (.cells cs t)).cell? ⟨w.heap.size, i, none⟩ = cs[i]? := Joins.cell_of_block (Blk.new w t cs) i

def square : List (List Int) := [[0, 1, 2], [3, 4, 5], [6, 7, 8], [0, 3, 6], [1, 4, 7], [2, 5, 8]]
def star : List (List Int) := [[0, 1, 2, 3], [0, 4, 5, 6], [1, 4, 7, 8], [2, 5, 7, 9], [3, 6, 8, 9]]


set_option maxRecDepth 100000 in
set_option maxHeartbeats 4000000 in
theorem impl_square (w : World) :
    Calls Try.prog 36 #[] w fun e w' => ∃ v' u', e = .returned (.agg #[.int .i64 9, u', v']) ∧ scene.OG w' w.heap.size w'.heap.size v' [0, 0, 0, 0, 0, 1] u' square ∧ Below w.heap.size w w' := by
  go_enter Try.func36, Try.ntmps36
  go_wp2_with fail
  refine bodyPost_ret (v := .agg #[.int .i64 9, .slice (some ⟨w.heap.size + 1 + 6, 0, none⟩) 6 6, .slice (some ⟨w.heap.size + 1 + 6 + 1, 0, none⟩) 6 6]) (by simp [results, Try.results36, go_sem, cell_al]) rfl ⟨_, _, rfl, ?_, ?_⟩
  · refine ⟨w.heap.size + 1 + 6 + 1, by omega, by simp, .inr ⟨?_, ?_⟩⟩
    · refine (own_built (P := w.heap.size + 1) (T := w.heap.size + 1 + 6 + 1) (t := 3) (t2 := 23) (xss := square) (fun r hr => ?_) ?_ (fun r hr => ?_) (by unfold maxLen; decide) (by show w.heap.size + 1 + 6 < _; omega)).mono (by omega) (Nat.le_refl _)
      · match r, hr with
        | 0, _ => ((repeat (rw [heap_al, if_neg (by simp only [World.size_alloc]; omega)])); rw [heap_al, if_pos (by simp only [World.size_alloc] <;> omega)]; rfl)
        | 1, _ => ((repeat (rw [heap_al, if_neg (by simp only [World.size_alloc]; omega)])); rw [heap_al, if_pos (by simp only [World.size_alloc] <;> omega)]; rfl)
        | 2, _ => ((repeat (rw [heap_al, if_neg (by simp only [World.size_alloc]; omega)])); rw [heap_al, if_pos (by simp only [World.size_alloc] <;> omega)]; rfl)
        | 3, _ => ((repeat (rw [heap_al, if_neg (by simp only [World.size_alloc]; omega)])); rw [heap_al, if_pos (by simp only [World.size_alloc] <;> omega)]; rfl)
        | 4, _ => ((repeat (rw [heap_al, if_neg (by simp only [World.size_alloc]; omega)])); rw [heap_al, if_pos (by simp only [World.size_alloc] <;> omega)]; rfl)
        | 5, _ => ((repeat (rw [heap_al, if_neg (by simp only [World.size_alloc]; omega)])); rw [heap_al, if_pos (by simp only [World.size_alloc] <;> omega)]; rfl)
        | r + 6, hr => exact absurd hr (by show ¬ r + 6 < 6; omega)
      · show (_ : World).heap[w.heap.size + 1 + 6]? = _
        ((repeat (rw [heap_al, if_neg (by simp only [World.size_alloc]; omega)])); rw [heap_al, if_pos (by simp only [World.size_alloc] <;> omega)]; rfl)
      · match r, hr with
        | 0, _ => simp [square, maxLen]
        | 1, _ => simp [square, maxLen]
        | 2, _ => simp [square, maxLen]
        | 3, _ => simp [square, maxLen]
        | 4, _ => simp [square, maxLen]
        | 5, _ => simp [square, maxLen]
        | r + 6, hr => exact absurd hr (by show ¬ r + 6 < 6; omega)
    · exact ints_built (xs := [0, 0, 0, 0, 0, 1]) (P := w.heap.size + 1 + 6 + 1) (t := 3) (by ((repeat (rw [heap_al, if_neg (by simp only [World.size_alloc]; omega)])); rw [heap_al, if_pos (by simp only [World.size_alloc] <;> omega)]; rfl)) (by unfold maxLen; decide) (by omega) (by simp)
  · repeat (first | exact Below.refl _ _ | refine below_al ?_ _)



set_option maxRecDepth 100000 in
set_option maxHeartbeats 4000000 in
theorem spec_square (w : World) :
    Calls Try.prog 35 #[] w fun e w' => ∃ v' u', e = .returned (.agg #[.int .i64 9, u', v']) ∧ scene.OG w' w.heap.size w'.heap.size v' [0, 0, 0, 0, 0, 1] u' square ∧ Below w.heap.size w w' := by
  go_enter Try.func35, Try.ntmps35
  go_wp2_with fail
  refine bodyPost_ret (v := .agg #[.int .i64 9, .slice (some ⟨w.heap.size + 1 + 6, 0, none⟩) 6 6, .slice (some ⟨w.heap.size + 1 + 6 + 1, 0, none⟩) 6 6]) (by simp [results, Try.results35, go_sem, cell_al]) rfl ⟨_, _, rfl, ?_, ?_⟩
  · refine ⟨w.heap.size + 1 + 6 + 1, by omega, by simp, .inr ⟨?_, ?_⟩⟩
    · refine (own_built (P := w.heap.size + 1) (T := w.heap.size + 1 + 6 + 1) (t := 3) (t2 := 23) (xss := square) (fun r hr => ?_) ?_ (fun r hr => ?_) (by unfold maxLen; decide) (by show w.heap.size + 1 + 6 < _; omega)).mono (by omega) (Nat.le_refl _)
      · match r, hr with
        | 0, _ => ((repeat (rw [heap_al, if_neg (by simp only [World.size_alloc]; omega)])); rw [heap_al, if_pos (by simp only [World.size_alloc] <;> omega)]; rfl)
        | 1, _ => ((repeat (rw [heap_al, if_neg (by simp only [World.size_alloc]; omega)])); rw [heap_al, if_pos (by simp only [World.size_alloc] <;> omega)]; rfl)
        | 2, _ => ((repeat (rw [heap_al, if_neg (by simp only [World.size_alloc]; omega)])); rw [heap_al, if_pos (by simp only [World.size_alloc] <;> omega)]; rfl)
        | 3, _ => ((repeat (rw [heap_al, if_neg (by simp only [World.size_alloc]; omega)])); rw [heap_al, if_pos (by simp only [World.size_alloc] <;> omega)]; rfl)
        | 4, _ => ((repeat (rw [heap_al, if_neg (by simp only [World.size_alloc]; omega)])); rw [heap_al, if_pos (by simp only [World.size_alloc] <;> omega)]; rfl)
        | 5, _ => ((repeat (rw [heap_al, if_neg (by simp only [World.size_alloc]; omega)])); rw [heap_al, if_pos (by simp only [World.size_alloc] <;> omega)]; rfl)
        | r + 6, hr => exact absurd hr (by show ¬ r + 6 < 6; omega)
      · show (_ : World).heap[w.heap.size + 1 + 6]? = _
        ((repeat (rw [heap_al, if_neg (by simp only [World.size_alloc]; omega)])); rw [heap_al, if_pos (by simp only [World.size_alloc] <;> omega)]; rfl)
      · match r, hr with
        | 0, _ => simp [square, maxLen]
        | 1, _ => simp [square, maxLen]
        | 2, _ => simp [square, maxLen]
        | 3, _ => simp [square, maxLen]
        | 4, _ => simp [square, maxLen]
        | 5, _ => simp [square, maxLen]
        | r + 6, hr => exact absurd hr (by show ¬ r + 6 < 6; omega)
    · exact ints_built (xs := [0, 0, 0, 0, 0, 1]) (P := w.heap.size + 1 + 6 + 1) (t := 3) (by ((repeat (rw [heap_al, if_neg (by simp only [World.size_alloc]; omega)])); rw [heap_al, if_pos (by simp only [World.size_alloc] <;> omega)]; rfl)) (by unfold maxLen; decide) (by omega) (by simp)
  · repeat (first | exact Below.refl _ _ | refine below_al ?_ _)



set_option maxRecDepth 100000 in
set_option maxHeartbeats 4000000 in
theorem impl_star (w : World) :
    Calls Try.prog 39 #[] w fun e w' => ∃ v' u', e = .returned (.agg #[.int .i64 10, u', v']) ∧ scene.OG w' w.heap.size w'.heap.size v' [1, 0, 0, 0, 0] u' star ∧ Below w.heap.size w w' := by
  go_enter Try.func39, Try.ntmps39
  go_wp2_with fail
  refine bodyPost_ret (v := .agg #[.int .i64 10, .slice (some ⟨w.heap.size + 1 + 5, 0, none⟩) 5 5, .slice (some ⟨w.heap.size + 1 + 5 + 1, 0, none⟩) 5 5]) (by simp [results, Try.results39, go_sem, cell_al]) rfl ⟨_, _, rfl, ?_, ?_⟩
  · refine ⟨w.heap.size + 1 + 5 + 1, by omega, by simp, .inr ⟨?_, ?_⟩⟩
    · refine (own_built (P := w.heap.size + 1) (T := w.heap.size + 1 + 5 + 1) (t := 3) (t2 := 23) (xss := star) (fun r hr => ?_) ?_ (fun r hr => ?_) (by unfold maxLen; decide) (by show w.heap.size + 1 + 5 < _; omega)).mono (by omega) (Nat.le_refl _)
      · match r, hr with
        | 0, _ => ((repeat (rw [heap_al, if_neg (by simp only [World.size_alloc]; omega)])); rw [heap_al, if_pos (by simp only [World.size_alloc] <;> omega)]; rfl)
        | 1, _ => ((repeat (rw [heap_al, if_neg (by simp only [World.size_alloc]; omega)])); rw [heap_al, if_pos (by simp only [World.size_alloc] <;> omega)]; rfl)
        | 2, _ => ((repeat (rw [heap_al, if_neg (by simp only [World.size_alloc]; omega)])); rw [heap_al, if_pos (by simp only [World.size_alloc] <;> omega)]; rfl)
        | 3, _ => ((repeat (rw [heap_al, if_neg (by simp only [World.size_alloc]; omega)])); rw [heap_al, if_pos (by simp only [World.size_alloc] <;> omega)]; rfl)
        | 4, _ => ((repeat (rw [heap_al, if_neg (by simp only [World.size_alloc]; omega)])); rw [heap_al, if_pos (by simp only [World.size_alloc] <;> omega)]; rfl)
        | r + 5, hr => exact absurd hr (by show ¬ r + 5 < 5; omega)
      · show (_ : World).heap[w.heap.size + 1 + 5]? = _
        ((repeat (rw [heap_al, if_neg (by simp only [World.size_alloc]; omega)])); rw [heap_al, if_pos (by simp only [World.size_alloc] <;> omega)]; rfl)
      · match r, hr with
        | 0, _ => simp [star, maxLen]
        | 1, _ => simp [star, maxLen]
        | 2, _ => simp [star, maxLen]
        | 3, _ => simp [star, maxLen]
        | 4, _ => simp [star, maxLen]
        | r + 5, hr => exact absurd hr (by show ¬ r + 5 < 5; omega)
    · exact ints_built (xs := [1, 0, 0, 0, 0]) (P := w.heap.size + 1 + 5 + 1) (t := 3) (by ((repeat (rw [heap_al, if_neg (by simp only [World.size_alloc]; omega)])); rw [heap_al, if_pos (by simp only [World.size_alloc] <;> omega)]; rfl)) (by unfold maxLen; decide) (by omega) (by simp)
  · repeat (first | exact Below.refl _ _ | refine below_al ?_ _)



set_option maxRecDepth 100000 in
set_option maxHeartbeats 4000000 in
theorem spec_star (w : World) :
    Calls Try.prog 38 #[] w fun e w' => ∃ v' u', e = .returned (.agg #[.int .i64 10, u', v']) ∧ scene.OG w' w.heap.size w'.heap.size v' [1, 0, 0, 0, 0] u' star ∧ Below w.heap.size w w' := by
  go_enter Try.func38, Try.ntmps38
  go_wp2_with fail
  refine bodyPost_ret (v := .agg #[.int .i64 10, .slice (some ⟨w.heap.size + 1 + 5, 0, none⟩) 5 5, .slice (some ⟨w.heap.size + 1 + 5 + 1, 0, none⟩) 5 5]) (by simp [results, Try.results38, go_sem, cell_al]) rfl ⟨_, _, rfl, ?_, ?_⟩
  · refine ⟨w.heap.size + 1 + 5 + 1, by omega, by simp, .inr ⟨?_, ?_⟩⟩
    · refine (own_built (P := w.heap.size + 1) (T := w.heap.size + 1 + 5 + 1) (t := 3) (t2 := 23) (xss := star) (fun r hr => ?_) ?_ (fun r hr => ?_) (by unfold maxLen; decide) (by show w.heap.size + 1 + 5 < _; omega)).mono (by omega) (Nat.le_refl _)
      · match r, hr with
        | 0, _ => ((repeat (rw [heap_al, if_neg (by simp only [World.size_alloc]; omega)])); rw [heap_al, if_pos (by simp only [World.size_alloc] <;> omega)]; rfl)
        | 1, _ => ((repeat (rw [heap_al, if_neg (by simp only [World.size_alloc]; omega)])); rw [heap_al, if_pos (by simp only [World.size_alloc] <;> omega)]; rfl)
        | 2, _ => ((repeat (rw [heap_al, if_neg (by simp only [World.size_alloc]; omega)])); rw [heap_al, if_pos (by simp only [World.size_alloc] <;> omega)]; rfl)
        | 3, _ => ((repeat (rw [heap_al, if_neg (by simp only [World.size_alloc]; omega)])); rw [heap_al, if_pos (by simp only [World.size_alloc] <;> omega)]; rfl)
        | 4, _ => ((repeat (rw [heap_al, if_neg (by simp only [World.size_alloc]; omega)])); rw [heap_al, if_pos (by simp only [World.size_alloc] <;> omega)]; rfl)
        | r + 5, hr => exact absurd hr (by show ¬ r + 5 < 5; omega)
      · show (_ : World).heap[w.heap.size + 1 + 5]? = _
        ((repeat (rw [heap_al, if_neg (by simp only [World.size_alloc]; omega)])); rw [heap_al, if_pos (by simp only [World.size_alloc] <;> omega)]; rfl)
      · match r, hr with
        | 0, _ => simp [star, maxLen]
        | 1, _ => simp [star, maxLen]
        | 2, _ => simp [star, maxLen]
        | 3, _ => simp [star, maxLen]
        | 4, _ => simp [star, maxLen]
        | r + 5, hr => exact absurd hr (by show ¬ r + 5 < 5; omega)
    · exact ints_built (xs := [1, 0, 0, 0, 0]) (P := w.heap.size + 1 + 5 + 1) (t := 3) (by ((repeat (rw [heap_al, if_neg (by simp only [World.size_alloc]; omega)])); rw [heap_al, if_pos (by simp only [World.size_alloc] <;> omega)]; rfl)) (by unfold maxLen; decide) (by omega) (by simp)
  · repeat (first | exact Below.refl _ _ | refine below_al ?_ _)



theorem specv_square (w : World) : Calls Try.prog 35 #[] w fun e w' => ∃ v' u', e = .returned (.agg #[.int .i64 9, u', v']) ∧ scene.GV w' v' [0, 0, 0, 0, 0, 1] u' square ∧ Below w.heap.size w w' :=
  (spec_square w).mono fun _ _ ⟨v', u', he, ho, hb⟩ => ⟨v', u', he, ho.view, hb⟩



theorem specv_star (w : World) : Calls Try.prog 38 #[] w fun e w' => ∃ v' u', e = .returned (.agg #[.int .i64 10, u', v']) ∧ scene.GV w' v' [1, 0, 0, 0, 0] u' star ∧ Below w.heap.size w w' :=
  (spec_star w).mono fun _ _ ⟨v', u', he, ho, hb⟩ => ⟨v', u', he, ho.view, hb⟩


end Go.Proofs.Ytkikdecepdbbnaa.sqr
