/- What a pair of answers wins in a Game: l4Won of the model; weightOf, winsOf, wonWeight of the program; the total. -/
import Derived.Test.YtimfnhejiiagmaaGval
import Derived.Test.YtimfnhejiiagmaaRow
import Derived.Deep.RegionHeld3
namespace Go.Proofs.Ytimfnhejiiagmaa.gwon
open Go.RowKit Go.Deep Go.Proofs.Ytimfnhejiiagmaa.base
open Go.Proofs.Ytimfnhejiiagmaa.ints (ret_int)
open Go.Proofs.Ytimfnhejiiagmaa.val (okSizes)
open Go.Proofs.Ytimfnhejiiagmaa.gval (okGame)
open Go.Proofs.Ytimfnhejiiagmaa.row (nn at_ getD_lt nn_get idx_lt wrap2 mul9 copy4)

def wt (ws : List Int) (t : Nat) : Int := ws.getD t 0
/-- what the answers a and b win for the pair t -/
def won (ws : List Int) (xss : List (List Int)) (t : Nat) (a b : Int) : Int := wt ws t * nn xss t (2 * a + b).toNat

theorem at_ltw {x y i j : Int} {ws : List Int} {xss : List (List Int)} (h : okGame x y ws xss) (i0 : 0 ≤ i) (i1 : i < x) (j0 : 0 ≤ j) (j1 : j < y) : at_ y i j < ws.length ∧ at_ y i j < xss.length := by
  have := idx_lt h.1 i0 i1 j0 j1
  have := h.2.1
  have := h.2.2.1
  unfold at_; omega
theorem wt_get {ws : List Int} {t : Nat} (h : t < ws.length) : ws[t] = wt ws t := by simp [wt, List.getD, h]
theorem wt_bd {x y : Int} {ws : List Int} {xss : List (List Int)} (h : okGame x y ws xss) (t : Nat) : 0 ≤ wt ws t ∧ wt ws t ≤ 99 := by
  by_cases ht : t < ws.length
  · rw [← wt_get ht]; exact h.2.2.2.1 t ht
  · unfold wt; rw [List.getD_eq_getElem?_getD, List.getElem?_eq_none (by omega)]; simp
theorem row_ok {x y : Int} {ws : List Int} {xss : List (List Int)} (h : okGame x y ws xss) {r : Nat} (hr : r < xss.length) : play.within 4 0 1 (xss.getD r []) := by
  rw [getD_lt hr]; exact h.2.2.2.2.1 r hr
theorem nn_bd {x y : Int} {ws : List Int} {xss : List (List Int)} (h : okGame x y ws xss) (r k : Nat) : 0 ≤ nn xss r k ∧ nn xss r k ≤ 1 := by
  by_cases hr : r < xss.length
  · obtain ⟨h1, h2⟩ := row_ok h hr
    by_cases hk : k < (xss.getD r []).length
    · have := h2 k hk
      rw [nn_get xss r k hk] at this
      exact this
    · unfold nn; rw [List.getD_eq_getElem?_getD (l := xss.getD r []), List.getElem?_eq_none (by omega)]; simp
  · unfold nn; rw [List.getD_eq_getElem?_getD (l := xss), List.getElem?_eq_none (by omega)]; simp
theorem won_bd {x y : Int} {ws : List Int} {xss : List (List Int)} (h : okGame x y ws xss) (t : Nat) (a b : Int) : 0 ≤ won ws xss t a b ∧ won ws xss t a b ≤ 99 := by
  have h1 := wt_bd h t
  have h2 := nn_bd h t (2 * a + b).toNat
  unfold won
  have hx : nn xss t (2 * a + b).toNat = 0 ∨ nn xss t (2 * a + b).toNat = 1 := by omega
  rcases hx with e | e <;> rw [e] <;> omega
theorem won_lt {x y : Int} {ws : List Int} {xss : List (List Int)} (h : okGame x y ws xss) (t : Nat) (a b : Int) : (won ws xss t a b < wt ws t ↔ (0 < wt ws t ∧ won ws xss t a b = 0)) := by
  have h1 := wt_bd h t
  have h2 := nn_bd h t (2 * a + b).toNat
  unfold won
  have hx : nn xss t (2 * a + b).toNat = 0 ∨ nn xss t (2 * a + b).toNat = 1 := by omega
  rcases hx with e | e <;> rw [e] <;> omega
/-- the cells of a row as a walk wants them -/
theorem cells4 {W : World} {u : Value} {x y : Int} {ws : List Int} {xss : List (List Int)} (h : okGame x y ws xss) {r : Nat} (hr : r < xss.length) (hu : Ints W u (xss.getD r [])) :
    ∃ b o cap, u = .slice (some ⟨b, o, none⟩) 4 cap ∧ 4 ≤ cap ∧ cap ≤ maxLen ∧ W.cell? ⟨b, o, none⟩ = some (.int .i64 (nn xss r 0)) ∧ W.cell? ⟨b, o + 1, none⟩ = some (.int .i64 (nn xss r 1)) ∧ W.cell? ⟨b, o + 2, none⟩ = some (.int .i64 (nn xss r 2)) ∧ W.cell? ⟨b, o + 3, none⟩ = some (.int .i64 (nn xss r 3)) := by
  obtain ⟨A, b, o, cap, hv, h1, h2, h3, hc⟩ := hu.form
  have hl : (xss.getD r []).length = 4 := by have := (row_ok h hr).1; omega
  rw [hl] at hv h1 h3
  have hA := h3 (by omega)
  have g : ∀ k, k < 4 → W.cell? ⟨b, o + k, none⟩ = some (.int .i64 (nn xss r k)) := fun k hk => by
    have := hc k (by omega)
    rw [this]
    exact congrArg (fun z => some (Value.int .i64 z)) (nn_get xss r k (by omega))
  exact ⟨b, o, cap, by rw [hv, hA], h1, h2, by simpa using g 0 (by omega), g 1 (by omega), g 2 (by omega), g 3 (by omega)⟩

set_option maxHeartbeats 1000000 in
theorem weightof (x y i j : Int) (v : Value) (ws : List Int) (u : Value) (xss : List (List Int)) (w : World) (h : game.GV w v ws u xss) (hok : okGame x y ws xss) (i0 : 0 ≤ i) (i1 : i < x) (j0 : 0 ≤ j) (j1 : j < y) :
    Calls Try.prog 83 #[.agg #[.int .i64 x, .int .i64 y, v, u], .int .i64 i, .int .i64 j] w fun e w' => e = .returned (.int .i64 (wt ws (at_ y i j))) ∧ Below w.heap.size w w' := by
  obtain ⟨ua, un, uc, rfl⟩ := h.rows.shape
  obtain ⟨A, b, o, cap, rfl, hcap, hmax, hA, hc⟩ := h.ints.form
  obtain ⟨d1, d2, d3, d4⟩ := idx_lt hok.1 i0 i1 j0 j1
  obtain ⟨hr, _⟩ := at_ltw hok i0 i1 j0 j1
  have hlen : (ws.length : Int) = x * y := hok.2.1
  obtain rfl := hA (by omega)
  have g0 := hc _ hr
  have gl : b < w.heap.size := World.block_lt_of_cell? _ _ g0
  have e0 : i * y + j < (ws.length : Int) := by omega
  have g0' : w.cell? ⟨b, o + (i * y + j).toNat, none⟩ = some (.int .i64 (wt ws (at_ y i j))) := by rw [← wt_get hr]; exact g0
  generalize wt ws (at_ y i j) = z at *
  have m9 := mul9 hok.1
  obtain ⟨k1, k2⟩ := wrap2 d1 d2 d4 (by omega)
  have HL := Lib.hid hlen
  clear h hc hA hmax hok hlen g0 hr m9
  go_enter Try.func83, Try.ntmps83
  go_wp2_with fail
  go_ret
  exact ⟨rfl, below_al (Below.refl _ _) _⟩

set_option maxHeartbeats 1000000 in
theorem winsof (x y i j : Int) (v : Value) (ws : List Int) (u : Value) (xss : List (List Int)) (w : World) (h : game.GV w v ws u xss) (hok : okGame x y ws xss) (i0 : 0 ≤ i) (i1 : i < x) (j0 : 0 ≤ j) (j1 : j < y) :
    Calls Try.prog 148 #[.agg #[.int .i64 x, .int .i64 y, v, u], .int .i64 i, .int .i64 j] w fun e w' =>
      e = .returned (.agg #[.int .i64 (nn xss (at_ y i j) 0), .int .i64 (nn xss (at_ y i j) 1), .int .i64 (nn xss (at_ y i j) 2), .int .i64 (nn xss (at_ y i j) 3)]) ∧ Below w.heap.size w w' := by
  obtain ⟨va, vn, vc, rfl⟩ := h.ints.shape
  obtain ⟨A, b, o, cap, R, rfl, hcap, hmax, hA, hc⟩ := h.rows.form
  obtain ⟨d1, d2, d3, d4⟩ := idx_lt hok.1 i0 i1 j0 j1
  obtain ⟨_, hr⟩ := at_ltw hok i0 i1 j0 j1
  have hlen : (xss.length : Int) = x * y := hok.2.2.1
  obtain rfl := hA (by omega)
  obtain ⟨g0, g1⟩ := hc _ hr
  have gl : b < w.heap.size := World.block_lt_of_cell? _ _ g0
  have e0 : i * y + j < (xss.length : Int) := by omega
  have g0' : w.cell? ⟨b, o + (i * y + j).toNat, none⟩ = some (R (at_ y i j)) := g0
  obtain ⟨b', o', cap', hR, hcap', hmax', c0, c1, c2, c3⟩ := cells4 hok hr (by rw [getD_lt hr]; exact g1)
  rw [hR] at g0'
  have gl' : b' < w.heap.size := World.block_lt_of_cell? _ _ c0
  generalize nn xss (at_ y i j) 0 = n0 at *
  generalize nn xss (at_ y i j) 1 = n1 at *
  generalize nn xss (at_ y i j) 2 = n2 at *
  generalize nn xss (at_ y i j) 3 = n3 at *
  have m9 := mul9 hok.1
  obtain ⟨k1, k2⟩ := wrap2 d1 d2 d4 (by omega)
  have HL := Lib.hid hlen
  clear h hc hA hmax hok hlen g0 g1 hr hR hmax' m9
  have q0 := cell_al3 g0'
  have q1 := fun (o1 o2 : Obj) => copy4 (W := (w.alloc o1).alloc o2) (cap := cap') #[.int .i64 0, .int .i64 0, .int .i64 0, .int .i64 0] 158 rfl (n := w.heap.size + 1 + 1) (by simp)
    (below_cell (below_al (below_al (Below.refl _ _) o1) o2) _ _ c0) (below_cell (below_al (below_al (Below.refl _ _) o1) o2) _ _ c1) (below_cell (below_al (below_al (Below.refl _ _) o1) o2) _ _ c2) (below_cell (below_al (below_al (Below.refl _ _) o1) o2) _ _ c3) rfl rfl rfl rfl
  go_enter Try.func148, Try.ntmps148
  go_wp2_with fail
  go_region
  all_goals go_wp2_with fail
  refine bodyPost_ret (v := .agg #[.int .i64 n0, .int .i64 n1, .int .i64 n2, .int .i64 n3]) (by simp [results, Try.results148, go_sem]) rfl ⟨rfl, ?_⟩
  repeat (first | exact Below.refl _ _ | refine below_dr ?_ | refine below_al ?_ _ | refine Below.setCell ?_ (by simp <;> omega) _)

theorem pick4 {ws : List Int} {xss : List (List Int)} {t : Nat} {a b : Int} (ha : a = 0 ∨ a = 1) (hb : b = 0 ∨ b = 1) : won ws xss t a b = wt ws t * (if a = 0 then (if b = 0 then nn xss t 0 else nn xss t 1) else (if b = 0 then nn xss t 2 else nn xss t 3)) := by
  rcases ha with rfl | rfl <;> rcases hb with rfl | rfl <;> rfl


theorem ix0 (n0 n1 n2 n3 : Int) (W : World) : (Instr.index 158 (.agg #[.int .i64 n0, .int .i64 n1, .int .i64 n2, .int .i64 n3]) (.int .i64 0)).run Try.prog W = .ok (.int .i64 n0) W := by kernel_rfl


theorem ix1 (n0 n1 n2 n3 : Int) (W : World) : (Instr.index 158 (.agg #[.int .i64 n0, .int .i64 n1, .int .i64 n2, .int .i64 n3]) (.int .i64 1)).run Try.prog W = .ok (.int .i64 n1) W := by kernel_rfl
theorem ix2 (n0 n1 n2 n3 : Int) (W : World) : (Instr.index 158 (.agg #[.int .i64 n0, .int .i64 n1, .int .i64 n2, .int .i64 n3]) (.int .i64 2)).run Try.prog W = .ok (.int .i64 n2) W := by kernel_rfl
theorem ix3 (n0 n1 n2 n3 : Int) (W : World) : (Instr.index 158 (.agg #[.int .i64 n0, .int .i64 n1, .int .i64 n2, .int .i64 n3]) (.int .i64 3)).run Try.prog W = .ok (.int .i64 n3) W := by kernel_rfl


set_option maxRecDepth 100000 in
set_option maxHeartbeats 4000000 in
theorem iwon (x y i j a b : Int) (v : Value) (ws : List Int) (u : Value) (xss : List (List Int)) (w : World) (h : game.GV w v ws u xss) (hok : okGame x y ws xss) (i0 : 0 ≤ i) (i1 : i < x) (j0 : 0 ≤ j) (j1 : j < y) (ha : a = 0 ∨ a = 1) (hb : b = 0 ∨ b = 1) :
    Calls Try.prog 197 #[.agg #[.int .i64 x, .int .i64 y, v, u], .int .i64 i, .int .i64 j, .int .i64 a, .int .i64 b] w fun e w' => e = .returned (.int .i64 (won ws xss (at_ y i j) a b)) ∧ Below w.heap.size w w' := by
  have HE := Lib.hid (pick4 (ws := ws) (xss := xss) (t := at_ y i j) ha hb)
  obtain ⟨wb0, wb1⟩ := wt_bd hok (at_ y i j)
  obtain ⟨n00, n01⟩ := nn_bd hok (at_ y i j) 0
  obtain ⟨n10, n11⟩ := nn_bd hok (at_ y i j) 1
  obtain ⟨n20, n21⟩ := nn_bd hok (at_ y i j) 2
  obtain ⟨n30, n31⟩ := nn_bd hok (at_ y i j) 3
  have HW : Hid (∀ W, Below w.heap.size w W → Calls Try.prog 83 #[.agg #[.int .i64 x, .int .i64 y, v, u], .int .i64 i, .int .i64 j] W fun e w' => e = .returned (.int .i64 (wt ws (at_ y i j))) ∧ Below W.heap.size W w') := Lib.hid (fun W hW => weightof x y i j v ws u xss W (h.below hW) hok i0 i1 j0 j1)
  have HI : Hid (∀ W, Below w.heap.size w W → Calls Try.prog 148 #[.agg #[.int .i64 x, .int .i64 y, v, u], .int .i64 i, .int .i64 j] W fun e w' => e = .returned (.agg #[.int .i64 (nn xss (at_ y i j) 0), .int .i64 (nn xss (at_ y i j) 1), .int .i64 (nn xss (at_ y i j) 2), .int .i64 (nn xss (at_ y i j) 3)]) ∧ Below W.heap.size W w') := Lib.hid (fun W hW => winsof x y i j v ws u xss W (h.below hW) hok i0 i1 j0 j1)
  obtain ⟨va, vn, vc, ua, un, uc, rfl, rfl⟩ := h.shape
  have B0 := Lib.hid (below_al (Below.refl w.heap.size w) (.cells #[.int .i64 x, .int .i64 y, .slice va vn vc, .slice ua un uc] 40))
  obtain ⟨c0, c1, c2, c3, c4⟩ := four_cells (Blk.new w 40 #[.int .i64 x, .int .i64 y, .slice va vn vc, .slice ua un uc])
  clear h hok
  rw [HE.out]
  generalize nn xss (at_ y i j) 0 = n0 at *
  generalize nn xss (at_ y i j) 1 = n1 at *
  generalize nn xss (at_ y i j) 2 = n2 at *
  generalize nn xss (at_ y i j) 3 = n3 at *
  generalize wt ws (at_ y i j) = z at *
  have mb : ∀ n : Int, 0 ≤ n → n ≤ 1 → IntKind.i64.wrap (z * n) = z * n := fun n h0 h1 => by
    have hx : n = 0 ∨ n = 1 := by omega
    rcases hx with e | e <;> subst e <;> exact IntWalk.i64_in _ (by omega)
  have m0 := mb n0 n00 n01
  have m1 := mb n1 n10 n11
  have m2 := mb n2 n20 n21
  have m3 := mb n3 n30 n31
  clear mb HE
  have p0 : IntKind.i64.wrap 0 = 0 := by kernel_rfl
  have p1 : IntKind.i64.wrap 1 = 1 := by kernel_rfl
  have p2 : IntKind.i64.wrap 2 = 2 := by kernel_rfl
  have p3 : IntKind.i64.wrap 3 = 3 := by kernel_rfl
  have x0 := ix0 n0 n1 n2 n3
  have x1 := ix1 n0 n1 n2 n3
  have x2 := ix2 n0 n1 n2 n3
  have x3 := ix3 n0 n1 n2 n3
  rcases ha with rfl | rfl <;> rcases hb with rfl | rfl
  all_goals
    go_enter Try.func197, Try.ntmps197
    go_wp2_with fail
    go_region_held3 (fun w' => w'.cell? ⟨w.heap.size, 0, none⟩ = some (.int .i64 x) ∧ w'.cell? ⟨w.heap.size, 1, none⟩ = some (.int .i64 y) ∧ w'.cell? ⟨w.heap.size, 2, none⟩ = some (.slice va vn vc) ∧ w'.cell? ⟨w.heap.size, 3, none⟩ = some (.slice ua un uc) ∧ Below (w.alloc (.cells #[.int .i64 x, .int .i64 y, .slice va vn vc, .slice ua un uc] 40)).heap.size (w.alloc (.cells #[.int .i64 x, .int .i64 y, .slice va vn vc, .slice ua un uc] 40)) w')
      (((with_reducible refine held4 c0 c1 c2 c3 ?_); repeat (first | (with_reducible exact Below.refl _ _) | (with_reducible refine below_dr ?_) | (with_reducible refine below_tr ?_ (by assumption)))))
      (first
        | (go_at_call 83; (with_reducible refine (HW.out _ (below_tr B0.out ?_)).mono ?_); (repeat (first | (with_reducible exact Below.refl _ _) | (with_reducible refine below_dr ?_) | (with_reducible refine below_tr ?_ (by assumption)))); rintro e wq1 ⟨rfl, hq1⟩)
        | (go_at_call 148; (with_reducible refine (HI.out _ (below_tr B0.out ?_)).mono ?_); (repeat (first | (with_reducible exact Below.refl _ _) | (with_reducible refine below_dr ?_) | (with_reducible refine below_tr ?_ (by assumption)))); rintro e wq2 ⟨rfl, hq2⟩))
    clear c0 c1 c2 c3 c4 x0 x1 x2 x3 m0 m1 m2 m3 p0 p1 p2 p3
    go_wp2_with fail
    go_ret
    refine ⟨ret_int (by simp), below_tr B0.out ?_⟩
    repeat (first | (with_reducible exact Below.refl _ _) | (with_reducible refine below_dr ?_) | (with_reducible refine below_tr ?_ (by assumption)))



set_option maxRecDepth 100000 in
set_option maxHeartbeats 4000000 in
theorem l4won (x y i j a b : Int) (v : Value) (ws : List Int) (u : Value) (xss : List (List Int)) (w : World) (h : game.GV w v ws u xss) (hok : okGame x y ws xss) (i0 : 0 ≤ i) (i1 : i < x) (j0 : 0 ≤ j) (j1 : j < y) (ha : a = 0 ∨ a = 1) (hb : b = 0 ∨ b = 1) :
    Calls Try.prog 129 #[.agg #[.int .i64 x, .int .i64 y, v, u], .int .i64 i, .int .i64 j, .int .i64 a, .int .i64 b] w fun e w' => e = .returned (.int .i64 (won ws xss (at_ y i j) a b)) ∧ Below w.heap.size w w' := by
  have HE := Lib.hid (pick4 (ws := ws) (xss := xss) (t := at_ y i j) ha hb)
  obtain ⟨wb0, wb1⟩ := wt_bd hok (at_ y i j)
  obtain ⟨n00, n01⟩ := nn_bd hok (at_ y i j) 0
  obtain ⟨n10, n11⟩ := nn_bd hok (at_ y i j) 1
  obtain ⟨n20, n21⟩ := nn_bd hok (at_ y i j) 2
  obtain ⟨n30, n31⟩ := nn_bd hok (at_ y i j) 3
  obtain ⟨A', b'', o'', cap'', R, rfl, hcap', hmax', hA', hc'⟩ := h.rows.form
  obtain ⟨A, bb, o, cap, rfl, hcap, hmax, hA, hc⟩ := h.ints.form
  obtain ⟨d1, d2, d3, d4⟩ := idx_lt hok.1 i0 i1 j0 j1
  obtain ⟨hr, hr'⟩ := at_ltw hok i0 i1 j0 j1
  have hlen : (ws.length : Int) = x * y := hok.2.1
  have hlen' : (xss.length : Int) = x * y := hok.2.2.1
  obtain rfl := hA (by omega)
  obtain rfl := hA' (by omega)
  have g0 := hc _ hr
  have gl : bb < w.heap.size := World.block_lt_of_cell? _ _ g0
  have e0 : i * y + j < (ws.length : Int) := by omega
  have e0' : i * y + j < (xss.length : Int) := by omega
  have g0' : w.cell? ⟨bb, o + (i * y + j).toNat, none⟩ = some (.int .i64 (wt ws (at_ y i j))) := by rw [← wt_get hr]; exact g0
  obtain ⟨f0, f1⟩ := hc' _ hr'
  obtain ⟨rb, ro, rcap, hR, hrcap, hrmax, c0, c1, c2, c3⟩ := cells4 hok hr' (by rw [getD_lt hr']; exact f1)
  have f0' : w.cell? ⟨b'', o'' + (i * y + j).toNat, none⟩ = some (R (at_ y i j)) := f0
  rw [hR] at f0'
  have gl' : b'' < w.heap.size := World.block_lt_of_cell? _ _ f0
  have gr : rb < w.heap.size := World.block_lt_of_cell? _ _ c0
  have m9 := mul9 hok.1
  obtain ⟨k1, k2⟩ := wrap2 d1 d2 d4 (by omega)
  have HL := Lib.hid hlen
  have HL' := Lib.hid hlen'
  clear h hc hc' hA hA' hmax hmax' hok hlen hlen' g0 f0 f1 hr hr' hR hrmax m9 hcap hcap'
  rw [HE.out]
  generalize nn xss (at_ y i j) 0 = n0 at *
  generalize nn xss (at_ y i j) 1 = n1 at *
  generalize nn xss (at_ y i j) 2 = n2 at *
  generalize nn xss (at_ y i j) 3 = n3 at *
  generalize wt ws (at_ y i j) = z at *
  have mb : ∀ n : Int, 0 ≤ n → n ≤ 1 → IntKind.i64.wrap (z * n) = z * n := fun n h0 h1 => by
    have hx : n = 0 ∨ n = 1 := by omega
    rcases hx with e | e <;> subst e <;> exact IntWalk.i64_in _ (by omega)
  have m0 := mb n0 n00 n01
  have m1 := mb n1 n10 n11
  have m2 := mb n2 n20 n21
  have m3 := mb n3 n30 n31
  clear mb HE
  have p0 : IntKind.i64.wrap 0 = 0 := by kernel_rfl
  have p1 : IntKind.i64.wrap 1 = 1 := by kernel_rfl
  have p2 : IntKind.i64.wrap 2 = 2 := by kernel_rfl
  have p3 : IntKind.i64.wrap 3 = 3 := by kernel_rfl
  rcases ha with rfl | rfl <;> rcases hb with rfl | rfl
  all_goals
    go_enter Try.func129, Try.ntmps129
    go_wp2_with fail
    go_quiet (fail)
    go_wp2_with fail
    go_ret
    exact ⟨ret_int (by simp), below_drewN (below_al (Below.refl _ _) _) _⟩


end Go.Proofs.Ytimfnhejiiagmaa.gwon
