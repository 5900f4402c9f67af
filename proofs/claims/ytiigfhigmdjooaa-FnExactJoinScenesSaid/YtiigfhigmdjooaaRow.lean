/- One row of a valid Box: l2Row, l2One, l2Agree of the model; rowOf, answering, agreement of the program. -/
import Derived.Test.YtiigfhigmdjooaaVal
import Derived.RegionTactic
import Derived.ChangeAlike
import Derived.BigRegion
import Derived.Deep.WholeRow
import Derived.Laws.CopyRow
namespace Go.Proofs.Ytiigfhigmdjooaa.row
open Go.RowKit Go.Deep Go.Proofs.Ytiigfhigmdjooaa.base
open Go.Proofs.Ytiigfhigmdjooaa.val (okBox okRow okSizes)
open Go.Proofs.Ytiigfhigmdjooaa.ints (ret_int)

/-- number k of row r -/
def nn (xss : List (List Int)) (r k : Nat) : Int := (xss.getD r []).getD k 0
/-- the place of the row of two questions -/
def at_ (y i j : Int) : Nat := (i * y + j).toNat

theorem opn_add (b o k : Nat) : (⟨b, o, none⟩ : Addr).add k = ⟨b, o + k, none⟩ := by unfold Addr.add; split <;> simp_all
theorem idx_lt {x y i j : Int} (h : okSizes x y) (i0 : 0 ≤ i) (i1 : i < x) (j0 : 0 ≤ j) (j1 : j < y) : 0 ≤ i * y ∧ i * y ≤ 6 ∧ i * y + j < x * y ∧ 0 ≤ i * y + j := by
  obtain ⟨⟨a1, a2⟩, b1, b2⟩ := h
  have hx : y = 1 ∨ y = 2 ∨ y = 3 := by omega
  rcases hx with rfl | rfl | rfl <;> omega
theorem wrap2 {a j : Int} (h1 : 0 ≤ a) (h2 : a ≤ 6) (h3 : 0 ≤ a + j) (h4 : a + j ≤ 9) : IntKind.i64.wrap a = a ∧ IntKind.i64.wrap (a + j) = a + j := ⟨IntWalk.i64_in _ (by omega), IntWalk.i64_in _ (by omega)⟩
theorem mul9 {x y : Int} (h : okSizes x y) : x * y ≤ 9 := (val.mul_small h).2
theorem at_lt {x y wh i j : Int} {xss : List (List Int)} (h : okBox x y wh xss) (i0 : 0 ≤ i) (i1 : i < x) (j0 : 0 ≤ j) (j1 : j < y) : at_ y i j < xss.length := by
  have := idx_lt h.1 i0 i1 j0 j1
  have := h.2.2.1
  unfold at_; omega
theorem getD_lt {xss : List (List Int)} {r : Nat} (h : r < xss.length) : xss.getD r [] = xss[r] := by simp [List.getD, h]
theorem row_ok {x y wh : Int} {xss : List (List Int)} (h : okBox x y wh xss) {r : Nat} (hr : r < xss.length) : okRow wh (xss.getD r []) := by
  rw [getD_lt hr]; exact h.2.2.2 r hr
theorem nn_get (xss : List (List Int)) (r k : Nat) (h : k < (xss.getD r []).length) : (xss.getD r [])[k] = nn xss r k := by
  unfold nn; rw [List.getD_eq_getElem?_getD (l := xss.getD r []), List.getElem?_eq_getElem h]; rfl
theorem nn_bd {x y wh : Int} {xss : List (List Int)} (h : okBox x y wh xss) {r : Nat} (hr : r < xss.length) {k : Nat} (hk : k < 4) : 0 ≤ nn xss r k ∧ nn xss r k ≤ 1000 := by
  obtain ⟨h1, h2, _⟩ := row_ok h hr
  have hk' : k < (xss.getD r []).length := by omega
  have := h2 k hk'
  have e : nn xss r k = (xss.getD r [])[k] := (nn_get xss r k hk').symm
  rw [e]
  have := h.2.1
  omega
/-- the cells of a row as a walk wants them -/
theorem cells4 {W : World} {u : Value} {x y wh : Int} {xss : List (List Int)} (h : okBox x y wh xss) {r : Nat} (hr : r < xss.length) (hu : Ints W u (xss.getD r [])) :
    ∃ b o cap, u = .slice (some ⟨b, o, none⟩) 4 cap ∧ 4 ≤ cap ∧ cap ≤ maxLen ∧ W.cell? ⟨b, o, none⟩ = some (.int .i64 (nn xss r 0)) ∧ W.cell? ⟨b, o + 1, none⟩ = some (.int .i64 (nn xss r 1)) ∧ W.cell? ⟨b, o + 2, none⟩ = some (.int .i64 (nn xss r 2)) ∧ W.cell? ⟨b, o + 3, none⟩ = some (.int .i64 (nn xss r 3)) := by
  obtain ⟨A, b, o, cap, hv, h1, h2, h3, hc⟩ := hu.form
  have hl := (row_ok h hr).1
  rw [hl] at hv h1 h3
  have hA := h3 (by omega)
  have g : ∀ k, k < 4 → W.cell? ⟨b, o + k, none⟩ = some (.int .i64 (nn xss r k)) := fun k hk => by
    have := hc k (by omega)
    rw [this]
    exact congrArg (fun z => some (Value.int .i64 z)) (nn_get xss r k (by omega))
  exact ⟨b, o, cap, by rw [hv, hA], h1, h2, by simpa using g 0 (by omega), g 1 (by omega), g 2 (by omega), g 3 (by omega)⟩


set_option maxHeartbeats 1000000 in
theorem l2row (x y wh i j : Int) (v : Value) (xss : List (List Int)) (w : World) (h : IRows w v xss) (hok : okBox x y wh xss) (i0 : 0 ≤ i) (i1 : i < x) (j0 : 0 ≤ j) (j1 : j < y) :
    Calls Try.prog 190 #[.agg #[.int .i64 x, .int .i64 y, .int .i64 wh, v], .int .i64 i, .int .i64 j] w fun e w' => ∃ u, e = .returned u ∧ Ints w' u (xss.getD (at_ y i j) []) ∧ Below w.heap.size w w' := by
  obtain ⟨A, b, o, cap, R, rfl, hcap, hmax, hA, hc⟩ := h.form
  obtain ⟨d1, d2, d3, d4⟩ := idx_lt hok.1 i0 i1 j0 j1
  have hr := at_lt hok i0 i1 j0 j1
  have hlen : (xss.length : Int) = x * y := hok.2.2.1
  obtain rfl := hA (by omega)
  obtain ⟨g0, g1⟩ := hc _ hr
  have gl : b < w.heap.size := World.block_lt_of_cell? _ _ g0
  have e0 : i * y + j < (xss.length : Int) := by omega
  have g0' : w.cell? ⟨b, o + (i * y + j).toNat, none⟩ = some (R (at_ y i j)) := g0
  have HG : Hid (Ints w (R (at_ y i j)) (xss.getD (at_ y i j) [])) := by rw [getD_lt hr]; exact g1
  generalize R (at_ y i j) = u at *
  have m9 := mul9 hok.1
  obtain ⟨k1, k2⟩ := wrap2 d1 d2 d4 (by omega)
  have HL := Lib.hid hlen
  clear h hc hA hmax hok hlen g0 g1 hr m9
  go_enter Try.func190, Try.ntmps190
  go_wp2_with fail
  go_ret
  exact ⟨u, rfl, HG.out.below (below_al (Below.refl _ _) _), below_al (Below.refl _ _) _⟩


/-- the sum of the numbers for the answer 1 of a player -/
def one (xss : List (List Int)) (r : Nat) (p : Int) : Int := if p = 0 then nn xss r 2 + nn xss r 3 else nn xss r 1 + nn xss r 3



theorem copy4 {W : World} {b o cap n : Nat} {n0 n1 n2 n3 : Value} (z : Array Value) (t : TypeId) (hz : z.size = 4) (hn : n = W.heap.size) (c0 : W.cell? ⟨b, o, none⟩ = some n0) (c1 : W.cell? ⟨b, o + 1, none⟩ = some n1) (c2 : W.cell? ⟨b, o + 2, none⟩ = some n2)
    (c3 : W.cell? ⟨b, o + 3, none⟩ = some n3) (h0 : n0.oneCell' = true) (h1 : n1.oneCell' = true) (h2 : n2.oneCell' = true) (h3 : n3.oneCell' = true) :
    (Builtin.copy_ #[39, 39] 3 #[.slice (some ⟨n, 0, none⟩) 4 4, .slice (some ⟨b, o, none⟩) 4 cap]).run Try.prog (W.alloc (.cells z t)).drew = .ok (.int .i64 4) (W.alloc (.cells #[n0, n1, n2, n3] t)).drew := by
  subst hn
  have hlt : b < W.heap.size := World.block_lt_of_cell? _ _ c0
  have old : ∀ k, (W.alloc (.cells z t)).drew.cell? ⟨b, k, none⟩ = W.cell? ⟨b, k, none⟩ := fun k => World.cell?_alloc_lt W _ ⟨b, k, none⟩ hlt
  have hi : (Try.prog.info? 3).map (·.size) = some 1 := by
    obtain ⟨i, h, h'⟩ := Option.map_eq_some_iff.1 ints.infoInt
    rw [h]; simp at h' ⊢; exact h'.2.1
  have := run_copy_row (P := Try.prog) (W.alloc (.cells z t)).drew 39 39 3 3 W.heap.size 0 4 4 ⟨b, o, none⟩ 4 cap z t [n0, n1, n2, n3] Try.underlying39 hi (heap_alloc_new W.drew _) (by simp)
    (fun j v hv => by
      rw [opn_add]
      rw [old]
      match j, hv with
      | 0, hv => simp at hv; subst hv; exact c0
      | 1, hv => simp at hv; subst hv; exact c1
      | 2, hv => simp at hv; subst hv; exact c2
      | 3, hv => simp at hv; subst hv; exact c3)
    (by simp [hz]) (by simp [h0, h1, h2, h3])
  rw [this]
  have e : (z.toList.take 0 ++ [n0, n1, n2, n3] ++ z.toList.drop (0 + [n0, n1, n2, n3].length)).toArray = #[n0, n1, n2, n3] := by
    rw [List.take_zero, List.nil_append, List.drop_of_length_le (by simp [hz])]; rfl
  rw [e]
  show Result.ok _ ((W.drew.alloc (.cells z t)).setRow W.drew.heap.size #[n0, n1, n2, n3]) = _
  rw [World.setRow_alloc_new]
  rfl

theorem copy4p {W : World} {b o cap n : Nat} {n0 n1 n2 n3 : Value} (z : Array Value) (t : TypeId) (hz : z.size = 4) (hn : n = W.heap.size) (c0 : W.cell? ⟨b, o, none⟩ = some n0) (c1 : W.cell? ⟨b, o + 1, none⟩ = some n1) (c2 : W.cell? ⟨b, o + 2, none⟩ = some n2)
    (c3 : W.cell? ⟨b, o + 3, none⟩ = some n3) (h0 : n0.oneCell' = true) (h1 : n1.oneCell' = true) (h2 : n2.oneCell' = true) (h3 : n3.oneCell' = true) :
    (Builtin.copy_ #[39, 39] 3 #[.slice (some ⟨n, 0, none⟩) 4 4, .slice (some ⟨b, o, none⟩) 4 cap]).run Try.prog (W.alloc (.cells z t)) = .ok (.int .i64 4) (W.alloc (.cells #[n0, n1, n2, n3] t)) := by
  subst hn
  have hlt : b < W.heap.size := World.block_lt_of_cell? _ _ c0
  have old : ∀ k, (W.alloc (.cells z t)).cell? ⟨b, k, none⟩ = W.cell? ⟨b, k, none⟩ := fun k => World.cell?_alloc_lt W _ ⟨b, k, none⟩ hlt
  have hi : (Try.prog.info? 3).map (·.size) = some 1 := by
    obtain ⟨i, h, h'⟩ := Option.map_eq_some_iff.1 ints.infoInt
    rw [h]; simp at h' ⊢; exact h'.2.1
  have := run_copy_row (P := Try.prog) (W.alloc (.cells z t)) 39 39 3 3 W.heap.size 0 4 4 ⟨b, o, none⟩ 4 cap z t [n0, n1, n2, n3] Try.underlying39 hi (heap_alloc_new W _) (by simp)
    (fun j v hv => by
      rw [opn_add]
      rw [old]
      match j, hv with
      | 0, hv => simp at hv; subst hv; exact c0
      | 1, hv => simp at hv; subst hv; exact c1
      | 2, hv => simp at hv; subst hv; exact c2
      | 3, hv => simp at hv; subst hv; exact c3)
    (by simp [hz]) (by simp [h0, h1, h2, h3])
  rw [this]
  have e : (z.toList.take 0 ++ [n0, n1, n2, n3] ++ z.toList.drop (0 + [n0, n1, n2, n3].length)).toArray = #[n0, n1, n2, n3] := by
    rw [List.take_zero, List.nil_append, List.drop_of_length_le (by simp [hz])]; rfl
  rw [e]
  show Result.ok _ ((W.alloc (.cells z t)).setRow W.heap.size #[n0, n1, n2, n3]) = _
  rw [World.setRow_alloc_new]
  rfl


set_option maxHeartbeats 1000000 in
theorem rowof (x y wh i j : Int) (v : Value) (xss : List (List Int)) (w : World) (h : IRows w v xss) (hok : okBox x y wh xss) (i0 : 0 ≤ i) (i1 : i < x) (j0 : 0 ≤ j) (j1 : j < y) :
    Calls Try.prog 148 #[.agg #[.int .i64 x, .int .i64 y, .int .i64 wh, v], .int .i64 i, .int .i64 j] w fun e w' =>
      e = .returned (.agg #[.int .i64 (nn xss (at_ y i j) 0), .int .i64 (nn xss (at_ y i j) 1), .int .i64 (nn xss (at_ y i j) 2), .int .i64 (nn xss (at_ y i j) 3)]) ∧ Below w.heap.size w w' := by
  obtain ⟨A, b, o, cap, R, rfl, hcap, hmax, hA, hc⟩ := h.form
  obtain ⟨d1, d2, d3, d4⟩ := idx_lt hok.1 i0 i1 j0 j1
  have hr := at_lt hok i0 i1 j0 j1
  have hlen : (xss.length : Int) = x * y := hok.2.2.1
  obtain rfl := hA (by omega)
  obtain ⟨g0, g1⟩ := hc _ hr
  have gl : b < w.heap.size := World.block_lt_of_cell? _ _ g0
  have e0 : i * y + j < (xss.length : Int) := by omega
  have g0' : w.cell? ⟨b, o + (i * y + j).toNat, none⟩ = some (R (at_ y i j)) := g0
  obtain ⟨b', o', cap', hR, hcap', hmax', c0, c1, c2, c3⟩ := cells4 hok hr (by rw [getD_lt hr]; exact g1)
  rw [hR] at g0'
  have gl' : b' < w.heap.size := World.block_lt_of_cell? _ _ c0
  generalize nn xss (at_ y i j) 0 = n0 at *
  generalize nn xss (at_ y i j) 1 = n1 at *
  generalize nn xss (at_ y i j) 2 = n2 at *
  generalize nn xss (at_ y i j) 3 = n3 at *
  have m9 := mul9 hok.1
  obtain ⟨k1, k2⟩ := wrap2 d1 d2 d4 (by omega)
  have HL := Lib.hid hlen
  clear h hc hA hmax hok hlen g0 g1 hr hR hmax' m9
  have q0 := cell_al3 g0'
  have q1 := fun (o1 o2 : Obj) => copy4 (W := (w.alloc o1).alloc o2) (cap := cap') #[.int .i64 0, .int .i64 0, .int .i64 0, .int .i64 0] 152 rfl (n := w.heap.size + 1 + 1) (by simp)
    (below_cell (below_al (below_al (Below.refl _ _) o1) o2) _ _ c0) (below_cell (below_al (below_al (Below.refl _ _) o1) o2) _ _ c1) (below_cell (below_al (below_al (Below.refl _ _) o1) o2) _ _ c2) (below_cell (below_al (below_al (Below.refl _ _) o1) o2) _ _ c3) rfl rfl rfl rfl
  go_enter Try.func148, Try.ntmps148
  go_wp2_with fail
  go_region
  all_goals go_wp2_with fail
  refine bodyPost_ret (v := .agg #[.int .i64 n0, .int .i64 n1, .int .i64 n2, .int .i64 n3]) (by simp [results, Try.results148, go_sem]) rfl ⟨rfl, ?_⟩
  repeat (first | exact Below.refl _ _ | refine below_dr ?_ | refine below_al ?_ _ | refine Below.setCell ?_ (by simp <;> omega) _)




/-- the agreement of a row -/
def agr (xss : List (List Int)) (r : Nat) : Int := nn xss r 0 - nn xss r 1 - nn xss r 2 + nn xss r 3





end Go.Proofs.Ytiigfhigmdjooaa.row
