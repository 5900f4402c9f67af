/- SignFunctional of the program. -/
import Derived.Test.YtfkdhdiacelcjaaSgr
import Derived.Test.YtfkdhdiacelcjaaMake
import Derived.Deep.RegionWith
namespace Go.Proofs.Ytfkdhdiacelcjaa.sgf
open Go.RowKit Go.Deep Go.Proofs.Ytfkdhdiacelcjaa.base
open Go.Proofs.Ytfkdhdiacelcjaa.ints (ret_int infoInt infoInts)
open Go.Proofs.Ytfkdhdiacelcjaa.rws (total)
open Go.Proofs.Ytfkdhdiacelcjaa.sgn (wide okSign signB signB_yes signB_no)
open Go.Proofs.Ytfkdhdiacelcjaa.row (nn)

def el (xss : List (List Int)) (t : Nat) : Int := nn xss (t / wide xss) (t % wide xss)
def N (xss : List (List Int)) (t k : Nat) : Int := if k = 0 ∨ k = 3 then el xss t else - el xss t
theorem el_at (xss : List (List Int)) (r c : Nat) (hc : c < wide xss) : el xss (r * wide xss + c) = nn xss r c := by
  unfold el
  rw [show (r * wide xss + c) / wide xss = r from by rw [Nat.add_comm, Nat.add_mul_div_right _ _ (by omega), Nat.div_eq_of_lt hc, Nat.zero_add], show (r * wide xss + c) % wide xss = c from by rw [Nat.add_comm, Nat.add_mul_mod_self_right, Nat.mod_eq_of_lt hc]]
/-- the functional of a sign game -/
def rows (xss : List (List Int)) (n : Nat) : List (List Int) := make.rowsOf (N xss) n
open Classical in
noncomputable def res (xss : List (List Int)) : List (List Int) × Bool := if okSign xss then (rows xss (xss.length * wide xss), true) else ([], false)
theorem res_yes {xss : List (List Int)} (h : okSign xss) : res xss = (rows xss (xss.length * wide xss), true) := if_pos h
theorem res_no {xss : List (List Int)} (h : ¬ okSign xss) : res xss = ([], false) := if_neg h
theorem mul9 {xss : List (List Int)} (h : okSign xss) : xss.length * wide xss ≤ 9 := Nat.mul_le_mul (sgn.len3 h) (sgn.wide3 h).2
theorem tot (xss : List (List Int)) : total (res xss).1 ≤ 1048576 := by
  by_cases h : okSign xss
  · rw [res_yes h]; exact make.total_rowsOf _ _ (mul9 h)
  · rw [res_no h]; exact Nat.zero_le _
theorem N_at (xss : List (List Int)) (a c : Nat) (hc : c < wide xss) : N xss (a * wide xss + c) 0 = nn xss a c ∧ N xss (a * wide xss + c) 1 = - nn xss a c ∧ N xss (a * wide xss + c) 2 = - nn xss a c ∧ N xss (a * wide xss + c) 3 = nn xss a c := by
  simp [N, el_at xss a c hc]


set_option maxHeartbeats 1000000 in
theorem clo (p0 a c : Nat) (v : Value) (xss : List (List Int)) (w : World) (h0 : w.cell? ⟨p0, 0, none⟩ = some v) (h : IRows w v xss) (hok : okSign xss) (ha : a < xss.length) (hc : c < wide xss) :
    Calls Try.prog 88 #[.int .i64 (a : Int), .int .i64 (c : Int), .pointer (some ⟨p0, 0, none⟩)] w fun e w' =>
      e = .returned (.agg #[.int .i64 (N xss (a * wide xss + c) 0), .int .i64 (N xss (a * wide xss + c) 1), .int .i64 (N xss (a * wide xss + c) 2), .int .i64 (N xss (a * wide xss + c) 3)]) ∧ Below w.heap.size w w' := by
  obtain ⟨e0, e1, e2, e3⟩ := N_at xss a c hc
  rw [e0, e1, e2, e3]
  clear e0 e1 e2 e3
  obtain ⟨b1, b2⟩ := sgn.nn_bd hok ha hc
  obtain ⟨d, q, cap, rfl, _, hr⟩ := sgn.cell0 hok h
  obtain ⟨b, o, cap', g0, g1⟩ := hr a ha
  have g2 := g1 c hc
  have i1 : (a : Int) < (xss.length : Int) := by omega
  have i2 : (c : Int) < ((wide xss : Nat) : Int) := by omega
  clear hr g1 h hok
  generalize wide xss = Y at *
  generalize nn xss a c = n at *
  generalize xss.length = X at *
  have k1 : IntKind.i64.wrap (-n) = -n := IntWalk.i64_in _ (by omega)
  have l0 : p0 < w.heap.size := World.block_lt_of_cell? _ _ h0
  have l1 : d < w.heap.size := World.block_lt_of_cell? _ _ g0
  have l2 : b < w.heap.size := World.block_lt_of_cell? _ _ g2
  go_enter Try.func88, Try.ntmps88
  go_wp2_with fail
  refine bodyPost_ret (v := .agg #[.int .i64 n, .int .i64 (-n), .int .i64 (-n), .int .i64 n]) (by simp [results, Try.results88, go_sem]) rfl ⟨rfl, ?_⟩
  repeat (first | exact Below.refl _ _ | refine below_drewN ?_ _ | refine below_dr ?_ | refine below_al ?_ _ | refine Below.setCell ?_ (by simp <;> omega) _)

set_option maxHeartbeats 4000000 in
theorem make_anyR (p0 : Nat) (X Y : Nat) (N : Nat → Nat → Int) (w : World) (hX : X ≤ 3) (hY : Y ≤ 3)
    (hrow : ∀ (i j : Nat) (W : World), i < X → j < Y → Below w.heap.size w W → Calls Try.prog 88 #[.int .i64 (i : Int), .int .i64 (j : Int), .pointer (some ⟨p0, 0, none⟩)] W fun e w' =>
      e = .returned (.agg #[.int .i64 (N (i * Y + j) 0), .int .i64 (N (i * Y + j) 1), .int .i64 (N (i * Y + j) 2), .int .i64 (N (i * Y + j) 3)]) ∧ Below W.heap.size W w') :
    Calls Try.prog 60 #[.int .i64 (X : Int), .int .i64 (Y : Int), .func (.func 88) #[] #[.pointer (some ⟨p0, 0, none⟩)]] w fun e w' => ∃ u, e = .returned u ∧
      OwnRows w' w.heap.size w'.heap.size u (make.rowsOf N (X * Y)) ∧ Below w.heap.size w w' := by
  obtain ⟨i0, hi, hz0, hz1, hz2⟩ := info_parts infoInts
  have h9 : X * Y ≤ 9 := Nat.mul_le_mul hX hY
  have hm : (X : Int) * (Y : Int) = ((X * Y : Nat) : Int) := by simp
  have hmk := app.mk0s (X * Y) (by omega)
  rw [← hm] at hmk
  have hw1 : IntKind.i64.wrap ((X : Int) * (Y : Int)) = (X : Int) * (Y : Int) := IntWalk.i64_in _ (by omega)
  have HM := Lib.hid hm
  have HR := Lib.hid hrow
  have P0 : Hid (pile.Pile w (w.alloc (.cells (madeCells #[.slice none 0 0] (X * Y)) 22)) w.heap.size (w.alloc (.cells (madeCells #[.slice none 0 0] (X * Y)) 22)).heap.size (.slice (some ⟨w.heap.size, 0, none⟩) 0 (X * Y)) [] (make.rowsOf N (0 * Y))) := Lib.hid (by
    rw [Nat.zero_mul]
    refine pile.start (below_al (Below.refl _ _) _) (Nat.le_refl _) ?_ (by simp)
    have := World.ownsRow_made (base := w.heap.size) (e := 22) (size := 1) w (madeCells #[.slice none 0 0] (X * Y)) (X * Y) (Nat.le_refl _) (by unfold maxLen; omega) (by simp [madeCells])
    simpa using this)
  clear hm hrow
  go_enter Try.func60, Try.ntmps60
  go_wp2_with fail
  clear hmk hw1
  go_loopw [7, 17] (fun v i wr => ∃ a : Nat, a ≤ X ∧ i = .int .i64 a ∧ ∃ vals, Hid (pile.Pile w wr w.heap.size wr.heap.size v vals (make.rowsOf N (a * Y)))) (fun _ i _ => X - (intOf i).toNat)
  case atStart => exact ⟨0, Nat.zero_le _, rfl, _, P0⟩
  case round =>
    obtain ⟨a, ha, rfl, vals, hP⟩ := hrel
    clear P0
    obtain ⟨wo, rfl⟩ : ∃ wo : World, wo = wr := ⟨_, rfl⟩
    by_cases hlt : a < X
    · have hkz : (a : Int) < (X : Int) := by omega
      go_wp2_with fail
      go_loopw [7, 21] (fun v j wi => ∃ c : Nat, c ≤ Y ∧ j = .int .i64 c ∧ ∃ vals, Hid (pile.Pile w wi w.heap.size wi.heap.size v vals (make.rowsOf N (a * Y + c)))) (fun _ j _ => Y - (intOf j).toNat)
      case atStart => exact ⟨0, Nat.zero_le _, rfl, _, hP⟩
      case round =>
        obtain ⟨c, hc, rfl, vals, hP⟩ := hrel
        obtain ⟨wi, rfl⟩ : ∃ wi : World, wi = wr := ⟨_, rfl⟩
        by_cases hlc : c < Y
        · have hkc : (c : Int) < (Y : Int) := by omega
          have HCA := Lib.hid (HR.out a c wi hlt hlc hP.out.below)
          have hk9 : a * Y + c < 9 := by
            have h1 : a * Y + c < (a + 1) * Y := by rw [Nat.add_mul]; omega
            have h2 : (a + 1) * Y ≤ X * Y := Nat.mul_le_mul_right _ (by omega)
            omega
          have HK9 := Lib.hid hk9
          have HLE := Lib.hid (make.len_rowsOf N (a * Y + c))
          clear hk9
          go_wp2_with fail
          refine HCA.out.mono ?_
          rintro e w2 ⟨rfl, hb⟩
          have W2 := Lib.hid (hP.out.keep hb)
          have hcp := row.copy4p (W := w2.alloc (.cells #[.int .i64 (N (a * Y + c) 0), .int .i64 (N (a * Y + c) 1), .int .i64 (N (a * Y + c) 2), .int .i64 (N (a * Y + c) 3)] 74)) (b := w2.heap.size) (o := 0) (cap := 4) (n := w2.heap.size + 1)
            (n0 := .int .i64 (N (a * Y + c) 0)) (n1 := .int .i64 (N (a * Y + c) 1)) (n2 := .int .i64 (N (a * Y + c) 2)) (n3 := .int .i64 (N (a * Y + c) 3)) #[.int .i64 0, .int .i64 0, .int .i64 0, .int .i64 0] 3 rfl (by simp)
            (by rw [Joins.cell_of_block (heap_alloc_new w2 _)]; rfl) (by rw [Joins.cell_of_block (heap_alloc_new w2 _)]; rfl) (by rw [Joins.cell_of_block (heap_alloc_new w2 _)]; rfl) (by rw [Joins.cell_of_block (heap_alloc_new w2 _)]; rfl) rfl rfl rfl rfl
          have hrowis : ((w2.alloc (.cells #[.int .i64 (N (a * Y + c) 0), .int .i64 (N (a * Y + c) 1), .int .i64 (N (a * Y + c) 2), .int .i64 (N (a * Y + c) 3)] 74)).alloc (.cells #[.int .i64 (N (a * Y + c) 0), .int .i64 (N (a * Y + c) 1), .int .i64 (N (a * Y + c) 2), .int .i64 (N (a * Y + c) 3)] 3)).rowIs (w2.heap.size + 1) 3 4 (fun j => .int .i64 ((make.quad N (a * Y + c)).getD j 0)) := by
            refine ⟨#[.int .i64 (N (a * Y + c) 0), .int .i64 (N (a * Y + c) 1), .int .i64 (N (a * Y + c) 2), .int .i64 (N (a * Y + c) 3)], by
              have := heap_alloc_new (w2.alloc (.cells #[.int .i64 (N (a * Y + c) 0), .int .i64 (N (a * Y + c) 1), .int .i64 (N (a * Y + c) 2), .int .i64 (N (a * Y + c) 3)] 74)) (.cells #[.int .i64 (N (a * Y + c) 0), .int .i64 (N (a * Y + c) 1), .int .i64 (N (a * Y + c) 2), .int .i64 (N (a * Y + c) 3)] 3)
              simpa using this, rfl, fun i hi => ?_⟩
            match i, hi with
            | 0, _ => rfl
            | 1, _ => rfl
            | 2, _ => rfl
            | 3, _ => rfl
          have HRI := Lib.hid (hrowis.alloc (.cells #[.slice (some ⟨w2.heap.size + 1, 0, none⟩) 4 4] 22))
          have P3 := Lib.hid (((W2.out.keep (below_al (Below.refl _ _) (.cells #[.int .i64 (N (a * Y + c) 0), .int .i64 (N (a * Y + c) 1), .int .i64 (N (a * Y + c) 2), .int .i64 (N (a * Y + c) 3)] 74))).keep (below_al (Below.refl _ _) (.cells #[.int .i64 (N (a * Y + c) 0), .int .i64 (N (a * Y + c) 1), .int .i64 (N (a * Y + c) 2), .int .i64 (N (a * Y + c) 3)] 3))).keep (below_al (Below.refl _ _) (.cells #[.slice (some ⟨w2.heap.size + 1, 0, none⟩) 4 4] 22)))
          have hm4 := make.mk4
          have hsz := hb.size
          have hsw := W2.out.below.size
          clear hb hP HCA hrowis W2
          go_wp2_with (at_builtin; go_must (refine wpList_append_own _ rfl (.tmp 32) (.tmp 34) 23 rfl w.heap.size 22 i0 (.slice none 0 0) 1 24 Try.underlying23 hi hz0 hz1 hz2 rfl (by decide) _ _ _ rfl P3.out.owns ⟨w2.heap.size + 1 + 1, 0, none⟩ 1 1 [.slice (some ⟨w2.heap.size + 1, 0, none⟩) 4 4] rfl rfl ?c1 ?c2 ?c3 ?c4 ?c5 ?_))
          case c1 =>
            have := app.one_at ((w2.alloc (.cells #[.int .i64 (N (a * Y + c) 0), .int .i64 (N (a * Y + c) 1), .int .i64 (N (a * Y + c) 2), .int .i64 (N (a * Y + c) 3)] 74)).alloc (.cells #[.int .i64 (N (a * Y + c) 0), .int .i64 (N (a * Y + c) 1), .int .i64 (N (a * Y + c) 2), .int .i64 (N (a * Y + c) 3)] 3)) (.slice (some ⟨w2.heap.size + 1, 0, none⟩) 4 4) 22
            simpa using this
          case c2 => intro u hu; simp at hu; subst hu; rfl
          case c3 => rw [HLE.out]; have := HK9.out; unfold maxLen; omega
          case c4 => rw [HLE.out]; have := HK9.out; omega
          case c5 => simp; omega
          intro v' w3 hown' hgrow _
          have P4 : Hid (pile.Pile w w3 w.heap.size w3.heap.size v' (vals ++ [.slice (some ⟨w2.heap.size + 1, 0, none⟩) 4 4]) (make.rowsOf N (a * Y + (c + 1)))) := Lib.hid (by
            have e : make.rowsOf N (a * Y + (c + 1)) = make.rowsOf N (a * Y + c) ++ [make.quad N (a * Y + c)] := by simp [make.rowsOf, ← Nat.add_assoc, List.range_succ]
            rw [e]
            refine P3.out.grow (m' := w2.heap.size + 1) (T := w2.heap.size + 1 + 1) (ints.own_of_row (xs := make.quad N (a * Y + c)) HRI.out (Nat.le_refl _) (by omega) (by simp [make.quad, maxLen])) (by omega) (by simp) (pile.typ_row HRI.out _ _) hown' hgrow)
          obtain ⟨va, vl, vc, rfl⟩ := make.shape hown'
          clear hown' hgrow P3 HRI hcp hm4
          go_wp2_with fail
          go_roundw
          case rel => exact ⟨c + 1, by omega, by go_num, _, P4⟩
          case measure => simp [intOf]; omega
        · have hkc : ¬ (c : Int) < (Y : Int) := by omega
          obtain rfl : c = Y := by omega
          go_wp2_with fail
          go_roundw
          case rel => exact ⟨a + 1, by omega, by go_num, vals, by rw [Nat.add_mul, Nat.one_mul]; exact hP⟩
          case measure => simp [intOf]; omega
    · have hkz : ¬ (a : Int) < (X : Int) := by omega
      obtain rfl : a = X := by omega
      obtain ⟨va, vl, vc, rfl⟩ := make.shape hP.out.owns
      go_wp2_with fail
      go_ret
      exact ⟨_, rfl, hP.out.rows, hP.out.below⟩

set_option maxHeartbeats 2000000 in
theorem impl_any (v : Value) (xss : List (List Int)) (w : World) (h : IRows w v xss) :
    Calls Try.prog 43 #[v] w fun e w' => ∃ u', e = .returned (.tuple #[u', .bool (res xss).2]) ∧ OwnRows w' w.heap.size w'.heap.size u' (res xss).1 ∧ Below w.heap.size w w' := by
  obtain ⟨va, vn, vc, rfl⟩ := h.shape
  have H := Lib.hid h
  have HC := Lib.hid (fun o => sgn.impl_sign _ xss (w.alloc o) (h.below (below_al (Below.refl _ _) o)))
  by_cases hok : okSign xss
  · have HE := Lib.hid (signB_yes hok)
    obtain ⟨d, q, cap, hv, ⟨a0, c0, g0⟩, _⟩ := sgn.cell0 hok h
    injection hv with e1 e2 e3
    subst e1
    subst e2
    subst e3
    have hX := sgn.len3 hok
    have hY := (sgn.wide3 hok).2
    have hkz : (0 : Int) < (xss.length : Int) := by have := sgn.pos hok; omega
    rw [res_yes hok]
    have hcell : (w.alloc (.cells #[.slice (some ⟨d, q, none⟩) xss.length vc] 23)).cell? ⟨w.heap.size, 0, none⟩ = some (.slice (some ⟨d, q, none⟩) xss.length vc) := app.one_at w _ _ 0 _ rfl
    have g0' := below_cell (below_al (Below.refl w.heap.size w) (.cells #[.slice (some ⟨d, q, none⟩) xss.length vc] 23)) _ _ g0
    have HMK := Lib.hid (fun (W : World) (hb : Below (w.alloc (.cells #[.slice (some ⟨d, q, none⟩) xss.length vc] 23)).heap.size (w.alloc (.cells #[.slice (some ⟨d, q, none⟩) xss.length vc] 23)) W) =>
      make_anyR w.heap.size xss.length (wide xss) (N xss) W hX hY (fun i j W' hi hj hW => clo w.heap.size i j _ xss W' (below_cell (below_tr hb hW) _ _ hcell) (h.below (below_tr (below_al (Below.refl _ _) _) (below_tr hb hW))) hok hi hj))
    have BA := Lib.hid (below_al (Below.refl w.heap.size w) (.cells #[.slice (some ⟨d, q, none⟩) xss.length vc] 23))
    clear hok h hX hY H
    go_enter Try.func43, Try.ntmps43
    go_wp2_with fail
    refine (HC.out _).mono ?_
    rintro e w1 ⟨rfl, rfl⟩
    rw [HE.out]
    go_wp2_with fail
    go_region_with ((go_at_call 60; (with_reducible refine (HMK.out _ ?_).mono ?_); (repeat (first | (with_reducible exact Below.refl _ _) | (with_reducible refine below_dr ?_) | (with_reducible refine below_tr ?_ (by assumption)))); rintro e wq ⟨u', rfl, hu, hb⟩; (obtain ⟨xa, xn, xc, rfl⟩ := hu.rows.shape); (have HU := Lib.hid hu); (have HB2 := Lib.hid (below_tr BA.out (below_tr (by repeat (first | (with_reducible exact Below.refl _ _) | (with_reducible refine below_dr ?_) | (with_reducible refine below_tr ?_ (by assumption)))) hb))); clear hu hb))
    all_goals
      go_wp2_with fail
      go_ret2
      exact ⟨_, rfl, HU.out.mono (by simp) (Nat.le_refl _), by repeat (first | exact HB2.out | refine below_dr ?_)⟩
  · have HE := Lib.hid (signB_no hok)
    rw [res_no hok]
    clear hok h
    go_enter Try.func43, Try.ntmps43
    go_wp2_with fail
    refine (HC.out _).mono ?_
    rintro e w1 ⟨rfl, rfl⟩
    rw [HE.out]
    go_wp2_with fail
    go_ret2
    exact ⟨_, rfl, OwnRows.nil _ _ _, below_al (Below.refl _ _) _⟩


end Go.Proofs.Ytfkdhdiacelcjaa.sgf
