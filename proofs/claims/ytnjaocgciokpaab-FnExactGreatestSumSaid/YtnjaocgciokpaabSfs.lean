/- SumFunctional of the model. -/
import Derived.Test.YtnjaocgciokpaabSfm
import Derived.Test.YtnjaocgciokpaabSto
import Derived.Test.YtnjaocgciokpaabStep
import Derived.Test.YtnjaocgciokpaabMake
import Derived.Test.YtnjaocgciokpaabQfo
import Derived.Deep.RegionHeld3
namespace Go.Proofs.Ytnjaocgciokpaab.sfs
open Go.RowKit Go.Deep Go.Proofs.Ytnjaocgciokpaab.base
open Go.Proofs.Ytnjaocgciokpaab.ints (ret_int infoInt infoInts)
open Go.Proofs.Ytnjaocgciokpaab.val (okSizes ret_b)
open Go.Proofs.Ytnjaocgciokpaab.prt (two_cells)
open Go.Proofs.Ytnjaocgciokpaab.qfo (okFour fourB fourB_yes fourB_no)
open Go.Proofs.Ytnjaocgciokpaab.sfm
open Go.Proofs.Ytnjaocgciokpaab.sto (Sto)

theorem lows22 {n : Nat} {w w' : World} {b b' : Nat} {u0 u1 u2 u3 : Value} (h0 : w.cell? ⟨b, 0, none⟩ = some u0) (h1 : w.cell? ⟨b, 1, none⟩ = some u1) (h2 : w.cell? ⟨b', 0, none⟩ = some u2) (h3 : w.cell? ⟨b', 1, none⟩ = some u3) (hb : b < n) (hb' : b' < n) (h : step.Low n w w') :
    w'.cell? ⟨b, 0, none⟩ = some u0 ∧ w'.cell? ⟨b, 1, none⟩ = some u1 ∧ w'.cell? ⟨b', 0, none⟩ = some u2 ∧ w'.cell? ⟨b', 1, none⟩ = some u3 :=
  ⟨(h _ hb).trans h0, (h _ hb).trans h1, (h _ hb').trans h2, (h _ hb').trans h3⟩
theorem wrap_nat {p q t n : Nat} (e : p + q = t) (h : t < n) (h9 : n ≤ 9) : IntKind.i64.wrap ((p : Int) + (q : Int)) = (t : Int) := by
  have e2 : (p : Int) + (q : Int) = (t : Int) := by omega
  rw [e2]
  exact IntWalk.i64_in _ (by omega)
theorem wrap_nat' {p q t n : Nat} (e : p + q = t) (h : t < n) (h9 : n ≤ 9) : wrap64 ((p : Int) + (q : Int)) = (t : Int) := by
  have e2 : (p : Int) + (q : Int) = (t : Int) := by omega
  rw [e2]
  exact IntWalk.wrap64_in _ (by omega)
/-! ### what the stores make -/
def four (s : Int) : List Int := [s, -s, -s, s]
def zeros (n : Nat) : List (List Int) := List.replicate n [0, 0, 0, 0]
theorem zeros_succ (n : Nat) : zeros (n + 1) = zeros n ++ [[0, 0, 0, 0]] := List.replicate_succ'
/-- the places in order -/
def place (A B C D Y : Nat) (k : Nat) : Nat := (if k < 2 then A else B) * Y + (if k % 2 = 0 then C else D)
/-- the rows behind k stores -/
def L (A B C D : Nat) (m : Int) (Y n : Nat) : Nat → List (List Int)
  | 0 => zeros n
  | k + 1 => (L A B C D m Y n k).set (place A B C D Y k) (four (sg m k))
theorem L_len (A B C D : Nat) (m : Int) (Y n : Nat) : ∀ k, (L A B C D m Y n k).length = n
  | 0 => by simp [L, zeros]
  | k + 1 => by rw [L, List.length_set]; exact L_len A B C D m Y n k
theorem place_is {p q Y t : Nat} (hq : q < Y) : p * Y + q = t ↔ t / Y = p ∧ t % Y = q := by
  constructor
  · rintro rfl
    exact ⟨by rw [Nat.add_comm, Nat.add_mul_div_right _ _ (by omega), Nat.div_eq_of_lt hq, Nat.zero_add], by rw [Nat.add_comm, Nat.add_mul_mod_self_right, Nat.mod_eq_of_lt hq]⟩
  · rintro ⟨h1, h2⟩
    have := Nat.div_add_mod t Y
    rw [h1, h2, Nat.mul_comm] at this
    exact this
theorem L_done (A B C D : Nat) (m : Int) (Y n : Nat) (hC : C < Y) (hD : D < Y) : L A B C D m Y n 4 = rows A B C D m Y n := by
  refine List.ext_getElem (by rw [L_len]; unfold rows; rw [make.len_rowsOf]) (fun t h1 h2 => ?_)
  have e2 : (rows (A : Int) B C D m Y n)[t] = four (fs A B C D m ((t / Y : Nat) : Int) ((t % Y : Nat) : Int)) := by
    simp [rows, make.rowsOf, make.quad, N, four]
  rw [e2]
  have st : ∀ k (p q : Nat) (hk : t < (L A B C D m Y n (k + 1)).length) (hk' : t < (L A B C D m Y n k).length), place A B C D Y k = p * Y + q → q < Y →
      (L A B C D m Y n (k + 1))[t] = if ((t / Y : Nat) : Int) = (p : Int) ∧ ((t % Y : Nat) : Int) = (q : Int) then four (sg m k) else (L A B C D m Y n k)[t] := by
    intro k p q hk hk' hp hq
    show ((L A B C D m Y n k).set (place A B C D Y k) (four (sg m k)))[t]'(by rw [List.length_set]; exact hk') = _
    rw [List.getElem_set, hp]
    by_cases h : p * Y + q = t
    · have := (place_is hq).1 h
      rw [if_pos h, if_pos ⟨by omega, by omega⟩]
    · rw [if_neg h, if_neg (fun g => h ((place_is hq).2 ⟨by omega, by omega⟩))]
  have l3 : t < (L A B C D m Y n 3).length := by rw [L_len] at h1 ⊢; exact h1
  have l2 : t < (L A B C D m Y n 2).length := by rw [L_len] at h1 ⊢; exact h1
  have l1 : t < (L A B C D m Y n 1).length := by rw [L_len] at h1 ⊢; exact h1
  have l0 : t < (L A B C D m Y n 0).length := by rw [L_len] at h1 ⊢; exact h1
  rw [st 3 B D h1 l3 rfl hD, st 2 B C l3 l2 rfl hC, st 1 A D l2 l1 rfl hD, st 0 A C l1 l0 rfl hC]
  unfold fs
  repeat' split
  all_goals first | rfl | simp [L, zeros, four]


set_option maxRecDepth 100000 in
set_option maxHeartbeats 8000000 in
theorem spec_any (x y a b c d m : Int) (w : World) :
    Calls Try.prog 20 #[.int .i64 x, .int .i64 y, .agg #[.int .i64 a, .int .i64 b], .agg #[.int .i64 c, .int .i64 d], .int .i64 m] w fun e w' =>
      ∃ u', e = .returned (.tuple #[u', .bool (res x y a b c d m).2]) ∧ IRows w' u' (res x y a b c d m).1 ∧ Below w.heap.size w w' := by
  have T0 := Lib.hid (Two2.start w a b c d)
  have H4 := Lib.hid (qfo.l3four x y a b c d m)
  by_cases hok : okFour x y a b c d m
  · rw [fourB_yes hok] at H4
    rw [res_yes hok]
    obtain ⟨X, rfl⟩ : ∃ X : Nat, x = X := ⟨x.toNat, by have := hok.1.1; omega⟩
    obtain ⟨Y, rfl⟩ : ∃ Y : Nat, y = Y := ⟨y.toNat, by have := hok.1.2; omega⟩
    obtain ⟨A, rfl⟩ : ∃ A : Nat, a = A := ⟨a.toNat, by have := hok.2.1; omega⟩
    obtain ⟨B, rfl⟩ : ∃ B : Nat, b = B := ⟨b.toNat, by have := hok.2.1; omega⟩
    obtain ⟨C, rfl⟩ : ∃ C : Nat, c = C := ⟨c.toNat, by have := hok.2.2.1; omega⟩
    obtain ⟨D, rfl⟩ : ∃ D : Nat, d = D := ⟨d.toNat, by have := hok.2.2.1; omega⟩
    obtain ⟨⟨hx1, hx2⟩, hy1, hy2⟩ := hok.1
    obtain ⟨ha1, ha2, ha3⟩ := hok.2.1
    obtain ⟨hc1, hc2, hc3⟩ := hok.2.2.1
    rw [show ((X : Int)).toNat * ((Y : Int)).toNat = X * Y from by simp, show ((Y : Int)).toNat = Y from by simp]
    rw [← L_done A B C D m Y (X * Y) (by omega) (by omega)]
    have hAX : A < X := by omega
    have hBX : B < X := by omega
    have h9 : X * Y ≤ 9 := Nat.mul_le_mul (by omega : X ≤ 3) (by omega : Y ≤ 3)
    have hin : ∀ p q : Nat, p < X → q < Y → p * Y + q < X * Y := fun p q hp hq => by
      have g1 : p * Y + q < (p + 1) * Y := by rw [Nat.add_mul]; omega
      have g2 : (p + 1) * Y ≤ X * Y := Nat.mul_le_mul_right _ (by omega)
      omega
    have IAC := Lib.hid (hin A C hAX (by omega))
    have IAD := Lib.hid (hin A D hAX (by omega))
    have IBC := Lib.hid (hin B C hBX (by omega))
    have IBD := Lib.hid (hin B D hBX (by omega))
    obtain ⟨n, hn⟩ : ∃ n, X * Y = n := ⟨_, rfl⟩
    have hnz : (X : Int) * (Y : Int) = (n : Int) := by rw [← hn]; simp
    obtain ⟨pA, hpA⟩ : ∃ pA : Nat, A * Y = pA := ⟨_, rfl⟩
    obtain ⟨pB, hpB⟩ : ∃ pB : Nat, B * Y = pB := ⟨_, rfl⟩
    have hAz : (A : Int) * (Y : Int) = (pA : Int) := by rw [← hpA]; simp
    have hBz : (B : Int) * (Y : Int) = (pB : Int) := by rw [← hpB]; simp
    rw [hn, hpA] at IAC IAD
    rw [hn, hpB] at IBC IBD
    rw [hn] at h9 ⊢
    have PL : Hid (place A B C D Y 0 = pA + C ∧ place A B C D Y 1 = pA + D ∧ place A B C D Y 2 = pB + C ∧ place A B C D Y 3 = pB + D) := Lib.hid (by simp [place, hpA, hpB])
    have n1 : 1 ≤ n := by have := IAC.out; omega
    have hw1 : IntKind.i64.wrap ((X : Int) * (Y : Int)) = (n : Int) := by rw [hnz]; exact IntWalk.i64_in _ (by omega)
    have hw2 : IntKind.i64.wrap ((A : Int) * (Y : Int)) = (pA : Int) := by rw [hAz]; exact IntWalk.i64_in _ (by have := IAC.out; omega)
    have hw3 : IntKind.i64.wrap ((B : Int) * (Y : Int)) = (pB : Int) := by rw [hBz]; exact IntWalk.i64_in _ (by have := IBC.out; omega)
    obtain ⟨i0, hi, hz0, hz1, hz2⟩ := info_parts infoInts
    have H9 := Lib.hid h9
    have N1 := Lib.hid n1
    have LLEN := Lib.hid (fun k => L_len A B C D m Y n k)
    have LS : Hid (∀ k, L A B C D m Y n (k + 1) = (L A B C D m Y n k).set (place A B C D Y k) (four (sg m k))) := Lib.hid (fun k => rfl)
    have L0 : Hid (L A B C D m Y n 0 = zeros n) := Lib.hid rfl
    have W1 := Lib.hid hw1
    have W2' := Lib.hid hw2
    have W3' := Lib.hid hw3
    have P0 : Hid (pile.Pile ((w.alloc (.cells #[.int .i64 (A : Int), .int .i64 (B : Int)] 32)).alloc (.cells #[.int .i64 (C : Int), .int .i64 (D : Int)] 32)) (((w.alloc (.cells #[.int .i64 (A : Int), .int .i64 (B : Int)] 32)).alloc (.cells #[.int .i64 (C : Int), .int .i64 (D : Int)] 32)).alloc (.cells #[] 44)) (w.heap.size + 1 + 1) (((w.alloc (.cells #[.int .i64 (A : Int), .int .i64 (B : Int)] 32)).alloc (.cells #[.int .i64 (C : Int), .int .i64 (D : Int)] 32)).alloc (.cells #[] 44)).heap.size (.slice (some ⟨w.heap.size + 1 + 1, 0, none⟩) 0 0) [] (zeros 0)) := Lib.hid (by
      refine pile.start (below_al (Below.refl _ _) _) (by simp) ?_ (by simp)
      have := World.ownsRow_made (base := w.heap.size + 1 + 1) (e := 44) (size := 1) ((w.alloc (.cells #[.int .i64 (A : Int), .int .i64 (B : Int)] 32)).alloc (.cells #[.int .i64 (C : Int), .int .i64 (D : Int)] 32)) #[] 0 (by simp) (Nat.zero_le _) rfl
      simpa using this)
    clear hok hx1 hx2 hy1 hy2 ha1 ha2 ha3 hc1 hc2 hc3 hAX hBX h9 hin hn hnz hpA hpB hAz hBz n1 hw2 hw3
    go_enter Try.func20, Try.ntmps20
    go_wp2_with fail
    refine (H4.out _).mono ?_
    rintro e w1 ⟨rfl, hb⟩
    have HX : ∃ W2, Hid (Two2 w W2 A B C D) ∧ ∃ vals, Hid (pile.Pile W2 w1 (w.heap.size + 1 + 1) w1.heap.size (.slice (some ⟨w.heap.size + 1 + 1, 0, none⟩) 0 0) vals (zeros 0)) := ⟨_, T0, [], Lib.hid (P0.out.keep hb).fresh⟩
    clear T0 P0 hb H4
    obtain ⟨W2, T2, vals, P1⟩ := HX
    go_wp2_with fail
    go_loopw [12, 13] (fun v i wr => ∃ k : Nat, k ≤ n ∧ i = .int .i64 k ∧ ∃ vals, Hid (pile.Pile W2 wr (w.heap.size + 1 + 1) wr.heap.size v vals (zeros k))) (fun _ i _ => n - (intOf i).toNat)
    case atStart => exact ⟨0, Nat.zero_le _, rfl, _, P1⟩
    case round =>
      clear P1
      obtain ⟨k, hk, rfl, vals, hP⟩ := hrel
      obtain ⟨wo, rfl⟩ : ∃ wo : World, wo = wr := ⟨_, rfl⟩
      by_cases hlt : k < n
      · have hkz : (k : Int) < (n : Int) := by omega
        have kb : (k : Int) ≤ 8 := by have := H9.out; omega
        have hm4 := make.mk4
        have P2 := Lib.hid ((hP.out.keep (below_al (Below.refl _ _) (.cells #[.int .i64 0, .int .i64 0, .int .i64 0, .int .i64 0] 3))).keep (below_al (Below.refl _ _) (.cells #[.slice (some ⟨wo.heap.size, 0, none⟩) 4 4] 44)))
        have hrowis : (wo.alloc (.cells #[.int .i64 0, .int .i64 0, .int .i64 0, .int .i64 0] 3)).rowIs wo.heap.size 3 4 (fun j => .int .i64 (([0, 0, 0, 0] : List Int).getD j 0)) := by
          refine ⟨#[.int .i64 0, .int .i64 0, .int .i64 0, .int .i64 0], heap_alloc_new wo _, rfl, fun i hi => ?_⟩
          match i, hi with
          | 0, _ => rfl
          | 1, _ => rfl
          | 2, _ => rfl
          | 3, _ => rfl
        have HRI := Lib.hid (hrowis.alloc (.cells #[.slice (some ⟨wo.heap.size, 0, none⟩) 4 4] 44))
        have hsw := hP.out.le
        have hge := hP.out.ge
        have hlen : (zeros k).length = k := by simp [zeros]
        have HLEN := Lib.hid hlen
        clear hrowis hP hlen
        go_wp2_with (at_builtin; go_must (refine wpList_append_own _ rfl (.tmp 32) (.tmp 34) 22 rfl (w.heap.size + 1 + 1) 44 i0 (.slice none 0 0) 1 24 Try.underlying22 hi hz0 hz1 hz2 rfl (by decide) _ _ _ rfl P2.out.owns ⟨wo.heap.size + 1, 0, none⟩ 1 1 [.slice (some ⟨wo.heap.size, 0, none⟩) 4 4] rfl rfl ?c1 ?c2 ?c3 ?c4 ?c5 ?_))
        try (case c1 =>
          have := app.one_at (wo.alloc (.cells #[.int .i64 0, .int .i64 0, .int .i64 0, .int .i64 0] 3)) (.slice (some ⟨wo.heap.size, 0, none⟩) 4 4) 44
          simpa using this)
        case c2 => intro u hu; simp at hu; subst hu; rfl
        case c3 => rw [HLEN.out]; have := H9.out; unfold maxLen; omega
        case c4 => rw [HLEN.out]; have := H9.out; omega
        try (case c5 => simp; omega)
        intro v' w6 hown' hgrow _
        have P4 : Hid (pile.Pile W2 w6 (w.heap.size + 1 + 1) w6.heap.size v' (vals ++ [.slice (some ⟨wo.heap.size, 0, none⟩) 4 4]) (zeros (k + 1))) := Lib.hid (by
          rw [zeros_succ]
          refine P2.out.grow (m' := wo.heap.size) (T := wo.heap.size + 1) (ints.own_of_row (xs := [0, 0, 0, 0]) HRI.out (Nat.le_refl _) (by omega) (by simp [maxLen])) (Nat.le_refl _) (by simp) (pile.typ_row HRI.out _ _) hown' hgrow)
        obtain ⟨xa, xl, xc, rfl⟩ := make.shape hown'
        clear hown' hgrow P2 HRI hm4
        go_wp2_with fail
        go_roundw
        case rel => exact ⟨k + 1, by omega, by go_num, _, P4⟩
        case measure => simp [intOf]; omega
      · have hkz : ¬ (k : Int) < (n : Int) := by omega
        obtain rfl : k = n := by omega
        obtain ⟨xa, xl, xc, rfl⟩ := make.shape hP.out.owns
        have S0 := Sto.of_pile hP.out
        rw [← L0.out] at S0
        obtain ⟨bb, cap, u0, hv, hbb, -, -⟩ := S0.cell (r := 0) (by rw [LLEN.out]; exact N1.out)
        rw [LLEN.out] at hv
        injection hv with e1 e2 e3
        subst e1
        subst e2
        subst e3
        have S1 := Lib.hid S0
        clear S0 hP
        go_wp2_with fail
        clear hw1
        go_loopw [14, 15] (fun s z15 wr => ∃ k : Nat, k ≤ 4 ∧ s = .int .i64 k ∧ (∃ z, z15 = z) ∧ ∃ vals, Hid (Sto W2 wr (w.heap.size + 1 + 1) (.slice (some ⟨bb, 0, none⟩) xl xc) vals (L A B C D m Y xl k))) (fun s _ _ => 4 - (intOf s).toNat)
        case atStart => exact ⟨0, Nat.zero_le _, rfl, ⟨_, rfl⟩, _, S1⟩
        case round =>
          clear S1
          obtain ⟨k, hk, rfl, ⟨z15, rfl⟩, vals, hS⟩ := hrel
          obtain ⟨wr, rfl⟩ : ∃ w9 : World, w9 = wr := ⟨_, rfl⟩
          rcases (by omega : k = 0 ∨ k = 1 ∨ k = 2 ∨ k = 3 ∨ k = 4) with rfl | rfl | rfl | rfl | rfl
          · by_cases hm : m = 0
            · subst hm
              obtain ⟨c0, c1, l0⟩ := two_cells (T2.out.keep hS.out.below).one
              obtain ⟨d0, d1, l1⟩ := two_cells (T2.out.keep hS.out.below).two
              have l2 : w.heap.size < w.heap.size + 1 + 1 := by omega
              have l3 : w.heap.size + 1 < w.heap.size + 1 + 1 := by omega
              obtain ⟨t, ht⟩ : ∃ t, pA + C = t := ⟨_, rfl⟩
              have hti := IAC.out
              rw [ht] at hti
              have x1 := wrap_nat ht hti H9.out
              have x2 := wrap_nat' ht hti H9.out
              have hwp := W2'.out
              have tlt : (t : Int) < (xl : Int) := Int.ofNat_lt.2 hti
              obtain ⟨bb', cap', u9, hv', hbb', hlb, hcell, rf, hset⟩ := hS.out.cell (r := t) (by rw [LLEN.out]; exact hti)
              rw [LLEN.out] at hv'
              injection hv' with e1 e2 e3
              clear e2 e3
              injection e1 with e1
              injection e1 with e1 _ _
              subst e1
              have HSET := Lib.hid hset
              have HPL : Hid (place A B C D Y 0 = t) := Lib.hid (by rw [← ht]; exact PL.out.1)
              have HS : Hid (four (sg 0 ((0 : Nat) : Int)) = [-1, 1, 1, -1]) := Lib.hid (by rw [show sg 0 ((0 : Nat) : Int) = -1 from sg_yes _]; rfl)
              have hrowis : (wr.drew.alloc (.cells #[.int .i64 (-1), .int .i64 1, .int .i64 1, .int .i64 (-1)] 3)).rowIs wr.heap.size 3 4 (fun j => .int .i64 (([(-1), 1, 1, (-1)] : List Int).getD j 0)) := by
                refine ⟨#[.int .i64 (-1), .int .i64 1, .int .i64 1, .int .i64 (-1)], heap_alloc_new wr.drew _, rfl, fun i hi => ?_⟩
                match i, hi with
                | 0, _ => rfl
                | 1, _ => rfl
                | 2, _ => rfl
                | 3, _ => rfl
              have HRI := Lib.hid hrowis
              have lsz : w.heap.size + 1 + 1 ≤ wr.heap.size := by omega
              have t0 : Int.tdiv 0 2 = 0 := by decide
              have r0 : Int.tmod 0 2 = 0 := by decide
              have v0 : IntKind.i64.wrap 0 = 0 := by decide
              have v1 : IntKind.i64.wrap 1 = 1 := by decide
              clear hrowis hset hti ht hbb' hkz hk
              go_wp2_with fail
              go_region_held3 (fun w' => w'.cell? ⟨w.heap.size, 0, none⟩ = some (.int .i64 (A : Int)) ∧ w'.cell? ⟨w.heap.size, 1, none⟩ = some (.int .i64 (B : Int)) ∧ w'.cell? ⟨w.heap.size + 1, 0, none⟩ = some (.int .i64 (C : Int)) ∧ w'.cell? ⟨w.heap.size + 1, 1, none⟩ = some (.int .i64 (D : Int)))
                ((refine lows22 c0 c1 d0 d1 l2 l3 ?_; repeat (first | (with_reducible exact step.Low.refl _ _) | (with_reducible refine step.Low.drew ?_) | (with_reducible refine step.Low.alloc ?_ (by first | exact lsz | (simp; first | exact lsz | omega)) _) | (with_reducible refine step.Low.setCell ?_ _ _ (by first | exact hbb | (simp; first | exact hbb | omega))))))
                (first | fail)
              have e9 : (wr.drew.alloc (.cells #[.int .i64 (-1), .int .i64 1, .int .i64 1, .int .i64 (-1)] 3)).setCell ⟨bb, t, none⟩ (.slice (some ⟨wr.heap.size, 0, none⟩) 4 4) = ((wr.setCell ⟨bb, t, none⟩ (.slice (some ⟨wr.heap.size, 0, none⟩) 4 4)).alloc (.cells #[.int .i64 (-1), .int .i64 1, .int .i64 1, .int .i64 (-1)] 3)).drew := by go_simp
              have S3 : Hid (Sto W2 ((wr.setCell ⟨bb, t, none⟩ (.slice (some ⟨wr.heap.size, 0, none⟩) 4 4)).alloc (.cells #[.int .i64 (-1), .int .i64 1, .int .i64 1, .int .i64 (-1)] 3)).drew (w.heap.size + 1 + 1) (.slice (some ⟨bb, 0, none⟩) xl xc) (vals.set t (.slice (some ⟨wr.heap.size, 0, none⟩) 4 4)) (L A B C D 0 Y xl 1)) := Lib.hid (by
                rw [← e9, LS.out, HPL.out, HS.out]
                exact HSET.out _ _ _ (below_al (below_dr (Below.refl _ _)) _) (ints.own_of_row (xs := [(-1), 1, 1, (-1)]) HRI.out (Nat.le_refl _) (Nat.lt_succ_self _) (by simp [maxLen])).ints (pile.typ_row HRI.out _ _))
              clear e9 c0 c1 d0 d1 l0 l1 l2 l3 x1 x2 hwp tlt hlb hcell rf lsz t0 r0 v0 v1
              go_wp2_with fail
              go_roundw
              case rel => exact ⟨1, by decide, by go_num, ⟨_, rfl⟩, _, S3⟩
              case measure => simp [intOf]
            · have hm : ¬ (0 : Int) = m := fun e => hm e.symm
              obtain ⟨c0, c1, l0⟩ := two_cells (T2.out.keep hS.out.below).one
              obtain ⟨d0, d1, l1⟩ := two_cells (T2.out.keep hS.out.below).two
              have l2 : w.heap.size < w.heap.size + 1 + 1 := by omega
              have l3 : w.heap.size + 1 < w.heap.size + 1 + 1 := by omega
              obtain ⟨t, ht⟩ : ∃ t, pA + C = t := ⟨_, rfl⟩
              have hti := IAC.out
              rw [ht] at hti
              have x1 := wrap_nat ht hti H9.out
              have x2 := wrap_nat' ht hti H9.out
              have hwp := W2'.out
              have tlt : (t : Int) < (xl : Int) := Int.ofNat_lt.2 hti
              obtain ⟨bb', cap', u9, hv', hbb', hlb, hcell, rf, hset⟩ := hS.out.cell (r := t) (by rw [LLEN.out]; exact hti)
              rw [LLEN.out] at hv'
              injection hv' with e1 e2 e3
              clear e2 e3
              injection e1 with e1
              injection e1 with e1 _ _
              subst e1
              have HSET := Lib.hid hset
              have HPL : Hid (place A B C D Y 0 = t) := Lib.hid (by rw [← ht]; exact PL.out.1)
              have HS : Hid (four (sg m ((0 : Nat) : Int)) = [1, -1, -1, 1]) := Lib.hid (by rw [show sg m ((0 : Nat) : Int) = 1 from sg_no (by simpa using hm)]; rfl)
              have hm1 : ((0 : Int) == m) = false := by simpa using hm
              clear hm
              have hrowis : (wr.drew.alloc (.cells #[.int .i64 1, .int .i64 (-1), .int .i64 (-1), .int .i64 1] 3)).rowIs wr.heap.size 3 4 (fun j => .int .i64 (([1, (-1), (-1), 1] : List Int).getD j 0)) := by
                refine ⟨#[.int .i64 1, .int .i64 (-1), .int .i64 (-1), .int .i64 1], heap_alloc_new wr.drew _, rfl, fun i hi => ?_⟩
                match i, hi with
                | 0, _ => rfl
                | 1, _ => rfl
                | 2, _ => rfl
                | 3, _ => rfl
              have HRI := Lib.hid hrowis
              have lsz : w.heap.size + 1 + 1 ≤ wr.heap.size := by omega
              have t0 : Int.tdiv 0 2 = 0 := by decide
              have r0 : Int.tmod 0 2 = 0 := by decide
              have v0 : IntKind.i64.wrap 0 = 0 := by decide
              have v1 : IntKind.i64.wrap 1 = 1 := by decide
              clear hrowis hset hti ht hbb' hkz hk
              go_wp2_with fail
              go_region_held3 (fun w' => w'.cell? ⟨w.heap.size, 0, none⟩ = some (.int .i64 (A : Int)) ∧ w'.cell? ⟨w.heap.size, 1, none⟩ = some (.int .i64 (B : Int)) ∧ w'.cell? ⟨w.heap.size + 1, 0, none⟩ = some (.int .i64 (C : Int)) ∧ w'.cell? ⟨w.heap.size + 1, 1, none⟩ = some (.int .i64 (D : Int)))
                ((refine lows22 c0 c1 d0 d1 l2 l3 ?_; repeat (first | (with_reducible exact step.Low.refl _ _) | (with_reducible refine step.Low.drew ?_) | (with_reducible refine step.Low.alloc ?_ (by first | exact lsz | (simp; first | exact lsz | omega)) _) | (with_reducible refine step.Low.setCell ?_ _ _ (by first | exact hbb | (simp; first | exact hbb | omega))))))
                (first | fail)
              have e9 : (wr.drew.alloc (.cells #[.int .i64 1, .int .i64 (-1), .int .i64 (-1), .int .i64 1] 3)).setCell ⟨bb, t, none⟩ (.slice (some ⟨wr.heap.size, 0, none⟩) 4 4) = ((wr.setCell ⟨bb, t, none⟩ (.slice (some ⟨wr.heap.size, 0, none⟩) 4 4)).alloc (.cells #[.int .i64 1, .int .i64 (-1), .int .i64 (-1), .int .i64 1] 3)).drew := by go_simp
              have S3 : Hid (Sto W2 ((wr.setCell ⟨bb, t, none⟩ (.slice (some ⟨wr.heap.size, 0, none⟩) 4 4)).alloc (.cells #[.int .i64 1, .int .i64 (-1), .int .i64 (-1), .int .i64 1] 3)).drew (w.heap.size + 1 + 1) (.slice (some ⟨bb, 0, none⟩) xl xc) (vals.set t (.slice (some ⟨wr.heap.size, 0, none⟩) 4 4)) (L A B C D m Y xl 1)) := Lib.hid (by
                rw [← e9, LS.out, HPL.out, HS.out]
                exact HSET.out _ _ _ (below_al (below_dr (Below.refl _ _)) _) (ints.own_of_row (xs := [1, (-1), (-1), 1]) HRI.out (Nat.le_refl _) (Nat.lt_succ_self _) (by simp [maxLen])).ints (pile.typ_row HRI.out _ _))
              clear e9 c0 c1 d0 d1 l0 l1 l2 l3 x1 x2 hwp tlt hlb hcell rf lsz t0 r0 v0 v1
              go_wp2_with fail
              go_roundw
              case rel => exact ⟨1, by decide, by go_num, ⟨_, rfl⟩, _, S3⟩
              case measure => simp [intOf]
          · by_cases hm : m = 1
            · subst hm
              obtain ⟨c0, c1, l0⟩ := two_cells (T2.out.keep hS.out.below).one
              obtain ⟨d0, d1, l1⟩ := two_cells (T2.out.keep hS.out.below).two
              have l2 : w.heap.size < w.heap.size + 1 + 1 := by omega
              have l3 : w.heap.size + 1 < w.heap.size + 1 + 1 := by omega
              obtain ⟨t, ht⟩ : ∃ t, pA + D = t := ⟨_, rfl⟩
              have hti := IAD.out
              rw [ht] at hti
              have x1 := wrap_nat ht hti H9.out
              have x2 := wrap_nat' ht hti H9.out
              have hwp := W2'.out
              have tlt : (t : Int) < (xl : Int) := Int.ofNat_lt.2 hti
              obtain ⟨bb', cap', u9, hv', hbb', hlb, hcell, rf, hset⟩ := hS.out.cell (r := t) (by rw [LLEN.out]; exact hti)
              rw [LLEN.out] at hv'
              injection hv' with e1 e2 e3
              clear e2 e3
              injection e1 with e1
              injection e1 with e1 _ _
              subst e1
              have HSET := Lib.hid hset
              have HPL : Hid (place A B C D Y 1 = t) := Lib.hid (by rw [← ht]; exact PL.out.2.1)
              have HS : Hid (four (sg 1 ((1 : Nat) : Int)) = [-1, 1, 1, -1]) := Lib.hid (by rw [show sg 1 ((1 : Nat) : Int) = -1 from sg_yes _]; rfl)
              have hrowis : (wr.drew.alloc (.cells #[.int .i64 (-1), .int .i64 1, .int .i64 1, .int .i64 (-1)] 3)).rowIs wr.heap.size 3 4 (fun j => .int .i64 (([(-1), 1, 1, (-1)] : List Int).getD j 0)) := by
                refine ⟨#[.int .i64 (-1), .int .i64 1, .int .i64 1, .int .i64 (-1)], heap_alloc_new wr.drew _, rfl, fun i hi => ?_⟩
                match i, hi with
                | 0, _ => rfl
                | 1, _ => rfl
                | 2, _ => rfl
                | 3, _ => rfl
              have HRI := Lib.hid hrowis
              have lsz : w.heap.size + 1 + 1 ≤ wr.heap.size := by omega
              have t0 : Int.tdiv 1 2 = 0 := by decide
              have r0 : Int.tmod 1 2 = 1 := by decide
              have v0 : IntKind.i64.wrap 0 = 0 := by decide
              have v1 : IntKind.i64.wrap 1 = 1 := by decide
              clear hrowis hset hti ht hbb' hkz hk
              go_wp2_with fail
              go_region_held3 (fun w' => w'.cell? ⟨w.heap.size, 0, none⟩ = some (.int .i64 (A : Int)) ∧ w'.cell? ⟨w.heap.size, 1, none⟩ = some (.int .i64 (B : Int)) ∧ w'.cell? ⟨w.heap.size + 1, 0, none⟩ = some (.int .i64 (C : Int)) ∧ w'.cell? ⟨w.heap.size + 1, 1, none⟩ = some (.int .i64 (D : Int)))
                ((refine lows22 c0 c1 d0 d1 l2 l3 ?_; repeat (first | (with_reducible exact step.Low.refl _ _) | (with_reducible refine step.Low.drew ?_) | (with_reducible refine step.Low.alloc ?_ (by first | exact lsz | (simp; first | exact lsz | omega)) _) | (with_reducible refine step.Low.setCell ?_ _ _ (by first | exact hbb | (simp; first | exact hbb | omega))))))
                (first | fail)
              have e9 : (wr.drew.alloc (.cells #[.int .i64 (-1), .int .i64 1, .int .i64 1, .int .i64 (-1)] 3)).setCell ⟨bb, t, none⟩ (.slice (some ⟨wr.heap.size, 0, none⟩) 4 4) = ((wr.setCell ⟨bb, t, none⟩ (.slice (some ⟨wr.heap.size, 0, none⟩) 4 4)).alloc (.cells #[.int .i64 (-1), .int .i64 1, .int .i64 1, .int .i64 (-1)] 3)).drew := by go_simp
              have S3 : Hid (Sto W2 ((wr.setCell ⟨bb, t, none⟩ (.slice (some ⟨wr.heap.size, 0, none⟩) 4 4)).alloc (.cells #[.int .i64 (-1), .int .i64 1, .int .i64 1, .int .i64 (-1)] 3)).drew (w.heap.size + 1 + 1) (.slice (some ⟨bb, 0, none⟩) xl xc) (vals.set t (.slice (some ⟨wr.heap.size, 0, none⟩) 4 4)) (L A B C D 1 Y xl 2)) := Lib.hid (by
                rw [← e9, LS.out, HPL.out, HS.out]
                exact HSET.out _ _ _ (below_al (below_dr (Below.refl _ _)) _) (ints.own_of_row (xs := [(-1), 1, 1, (-1)]) HRI.out (Nat.le_refl _) (Nat.lt_succ_self _) (by simp [maxLen])).ints (pile.typ_row HRI.out _ _))
              clear e9 c0 c1 d0 d1 l0 l1 l2 l3 x1 x2 hwp tlt hlb hcell rf lsz t0 r0 v0 v1
              go_wp2_with fail
              go_roundw
              case rel => exact ⟨2, by decide, by go_num, ⟨_, rfl⟩, _, S3⟩
              case measure => simp [intOf]
            · have hm : ¬ (1 : Int) = m := fun e => hm e.symm
              obtain ⟨c0, c1, l0⟩ := two_cells (T2.out.keep hS.out.below).one
              obtain ⟨d0, d1, l1⟩ := two_cells (T2.out.keep hS.out.below).two
              have l2 : w.heap.size < w.heap.size + 1 + 1 := by omega
              have l3 : w.heap.size + 1 < w.heap.size + 1 + 1 := by omega
              obtain ⟨t, ht⟩ : ∃ t, pA + D = t := ⟨_, rfl⟩
              have hti := IAD.out
              rw [ht] at hti
              have x1 := wrap_nat ht hti H9.out
              have x2 := wrap_nat' ht hti H9.out
              have hwp := W2'.out
              have tlt : (t : Int) < (xl : Int) := Int.ofNat_lt.2 hti
              obtain ⟨bb', cap', u9, hv', hbb', hlb, hcell, rf, hset⟩ := hS.out.cell (r := t) (by rw [LLEN.out]; exact hti)
              rw [LLEN.out] at hv'
              injection hv' with e1 e2 e3
              clear e2 e3
              injection e1 with e1
              injection e1 with e1 _ _
              subst e1
              have HSET := Lib.hid hset
              have HPL : Hid (place A B C D Y 1 = t) := Lib.hid (by rw [← ht]; exact PL.out.2.1)
              have HS : Hid (four (sg m ((1 : Nat) : Int)) = [1, -1, -1, 1]) := Lib.hid (by rw [show sg m ((1 : Nat) : Int) = 1 from sg_no (by simpa using hm)]; rfl)
              have hm1 : ((1 : Int) == m) = false := by simpa using hm
              clear hm
              have hrowis : (wr.drew.alloc (.cells #[.int .i64 1, .int .i64 (-1), .int .i64 (-1), .int .i64 1] 3)).rowIs wr.heap.size 3 4 (fun j => .int .i64 (([1, (-1), (-1), 1] : List Int).getD j 0)) := by
                refine ⟨#[.int .i64 1, .int .i64 (-1), .int .i64 (-1), .int .i64 1], heap_alloc_new wr.drew _, rfl, fun i hi => ?_⟩
                match i, hi with
                | 0, _ => rfl
                | 1, _ => rfl
                | 2, _ => rfl
                | 3, _ => rfl
              have HRI := Lib.hid hrowis
              have lsz : w.heap.size + 1 + 1 ≤ wr.heap.size := by omega
              have t0 : Int.tdiv 1 2 = 0 := by decide
              have r0 : Int.tmod 1 2 = 1 := by decide
              have v0 : IntKind.i64.wrap 0 = 0 := by decide
              have v1 : IntKind.i64.wrap 1 = 1 := by decide
              clear hrowis hset hti ht hbb' hkz hk
              go_wp2_with fail
              go_region_held3 (fun w' => w'.cell? ⟨w.heap.size, 0, none⟩ = some (.int .i64 (A : Int)) ∧ w'.cell? ⟨w.heap.size, 1, none⟩ = some (.int .i64 (B : Int)) ∧ w'.cell? ⟨w.heap.size + 1, 0, none⟩ = some (.int .i64 (C : Int)) ∧ w'.cell? ⟨w.heap.size + 1, 1, none⟩ = some (.int .i64 (D : Int)))
                ((refine lows22 c0 c1 d0 d1 l2 l3 ?_; repeat (first | (with_reducible exact step.Low.refl _ _) | (with_reducible refine step.Low.drew ?_) | (with_reducible refine step.Low.alloc ?_ (by first | exact lsz | (simp; first | exact lsz | omega)) _) | (with_reducible refine step.Low.setCell ?_ _ _ (by first | exact hbb | (simp; first | exact hbb | omega))))))
                (first | fail)
              have e9 : (wr.drew.alloc (.cells #[.int .i64 1, .int .i64 (-1), .int .i64 (-1), .int .i64 1] 3)).setCell ⟨bb, t, none⟩ (.slice (some ⟨wr.heap.size, 0, none⟩) 4 4) = ((wr.setCell ⟨bb, t, none⟩ (.slice (some ⟨wr.heap.size, 0, none⟩) 4 4)).alloc (.cells #[.int .i64 1, .int .i64 (-1), .int .i64 (-1), .int .i64 1] 3)).drew := by go_simp
              have S3 : Hid (Sto W2 ((wr.setCell ⟨bb, t, none⟩ (.slice (some ⟨wr.heap.size, 0, none⟩) 4 4)).alloc (.cells #[.int .i64 1, .int .i64 (-1), .int .i64 (-1), .int .i64 1] 3)).drew (w.heap.size + 1 + 1) (.slice (some ⟨bb, 0, none⟩) xl xc) (vals.set t (.slice (some ⟨wr.heap.size, 0, none⟩) 4 4)) (L A B C D m Y xl 2)) := Lib.hid (by
                rw [← e9, LS.out, HPL.out, HS.out]
                exact HSET.out _ _ _ (below_al (below_dr (Below.refl _ _)) _) (ints.own_of_row (xs := [1, (-1), (-1), 1]) HRI.out (Nat.le_refl _) (Nat.lt_succ_self _) (by simp [maxLen])).ints (pile.typ_row HRI.out _ _))
              clear e9 c0 c1 d0 d1 l0 l1 l2 l3 x1 x2 hwp tlt hlb hcell rf lsz t0 r0 v0 v1
              go_wp2_with fail
              go_roundw
              case rel => exact ⟨2, by decide, by go_num, ⟨_, rfl⟩, _, S3⟩
              case measure => simp [intOf]
          · by_cases hm : m = 2
            · subst hm
              obtain ⟨c0, c1, l0⟩ := two_cells (T2.out.keep hS.out.below).one
              obtain ⟨d0, d1, l1⟩ := two_cells (T2.out.keep hS.out.below).two
              have l2 : w.heap.size < w.heap.size + 1 + 1 := by omega
              have l3 : w.heap.size + 1 < w.heap.size + 1 + 1 := by omega
              obtain ⟨t, ht⟩ : ∃ t, pB + C = t := ⟨_, rfl⟩
              have hti := IBC.out
              rw [ht] at hti
              have x1 := wrap_nat ht hti H9.out
              have x2 := wrap_nat' ht hti H9.out
              have hwp := W3'.out
              have tlt : (t : Int) < (xl : Int) := Int.ofNat_lt.2 hti
              obtain ⟨bb', cap', u9, hv', hbb', hlb, hcell, rf, hset⟩ := hS.out.cell (r := t) (by rw [LLEN.out]; exact hti)
              rw [LLEN.out] at hv'
              injection hv' with e1 e2 e3
              clear e2 e3
              injection e1 with e1
              injection e1 with e1 _ _
              subst e1
              have HSET := Lib.hid hset
              have HPL : Hid (place A B C D Y 2 = t) := Lib.hid (by rw [← ht]; exact PL.out.2.2.1)
              have HS : Hid (four (sg 2 ((2 : Nat) : Int)) = [-1, 1, 1, -1]) := Lib.hid (by rw [show sg 2 ((2 : Nat) : Int) = -1 from sg_yes _]; rfl)
              have hrowis : (wr.drew.alloc (.cells #[.int .i64 (-1), .int .i64 1, .int .i64 1, .int .i64 (-1)] 3)).rowIs wr.heap.size 3 4 (fun j => .int .i64 (([(-1), 1, 1, (-1)] : List Int).getD j 0)) := by
                refine ⟨#[.int .i64 (-1), .int .i64 1, .int .i64 1, .int .i64 (-1)], heap_alloc_new wr.drew _, rfl, fun i hi => ?_⟩
                match i, hi with
                | 0, _ => rfl
                | 1, _ => rfl
                | 2, _ => rfl
                | 3, _ => rfl
              have HRI := Lib.hid hrowis
              have lsz : w.heap.size + 1 + 1 ≤ wr.heap.size := by omega
              have t0 : Int.tdiv 2 2 = 1 := by decide
              have r0 : Int.tmod 2 2 = 0 := by decide
              have v0 : IntKind.i64.wrap 0 = 0 := by decide
              have v1 : IntKind.i64.wrap 1 = 1 := by decide
              clear hrowis hset hti ht hbb' hkz hk
              go_wp2_with fail
              go_region_held3 (fun w' => w'.cell? ⟨w.heap.size, 0, none⟩ = some (.int .i64 (A : Int)) ∧ w'.cell? ⟨w.heap.size, 1, none⟩ = some (.int .i64 (B : Int)) ∧ w'.cell? ⟨w.heap.size + 1, 0, none⟩ = some (.int .i64 (C : Int)) ∧ w'.cell? ⟨w.heap.size + 1, 1, none⟩ = some (.int .i64 (D : Int)))
                ((refine lows22 c0 c1 d0 d1 l2 l3 ?_; repeat (first | (with_reducible exact step.Low.refl _ _) | (with_reducible refine step.Low.drew ?_) | (with_reducible refine step.Low.alloc ?_ (by first | exact lsz | (simp; first | exact lsz | omega)) _) | (with_reducible refine step.Low.setCell ?_ _ _ (by first | exact hbb | (simp; first | exact hbb | omega))))))
                (first | fail)
              have e9 : (wr.drew.alloc (.cells #[.int .i64 (-1), .int .i64 1, .int .i64 1, .int .i64 (-1)] 3)).setCell ⟨bb, t, none⟩ (.slice (some ⟨wr.heap.size, 0, none⟩) 4 4) = ((wr.setCell ⟨bb, t, none⟩ (.slice (some ⟨wr.heap.size, 0, none⟩) 4 4)).alloc (.cells #[.int .i64 (-1), .int .i64 1, .int .i64 1, .int .i64 (-1)] 3)).drew := by go_simp
              have S3 : Hid (Sto W2 ((wr.setCell ⟨bb, t, none⟩ (.slice (some ⟨wr.heap.size, 0, none⟩) 4 4)).alloc (.cells #[.int .i64 (-1), .int .i64 1, .int .i64 1, .int .i64 (-1)] 3)).drew (w.heap.size + 1 + 1) (.slice (some ⟨bb, 0, none⟩) xl xc) (vals.set t (.slice (some ⟨wr.heap.size, 0, none⟩) 4 4)) (L A B C D 2 Y xl 3)) := Lib.hid (by
                rw [← e9, LS.out, HPL.out, HS.out]
                exact HSET.out _ _ _ (below_al (below_dr (Below.refl _ _)) _) (ints.own_of_row (xs := [(-1), 1, 1, (-1)]) HRI.out (Nat.le_refl _) (Nat.lt_succ_self _) (by simp [maxLen])).ints (pile.typ_row HRI.out _ _))
              clear e9 c0 c1 d0 d1 l0 l1 l2 l3 x1 x2 hwp tlt hlb hcell rf lsz t0 r0 v0 v1
              go_wp2_with fail
              go_roundw
              case rel => exact ⟨3, by decide, by go_num, ⟨_, rfl⟩, _, S3⟩
              case measure => simp [intOf]
            · have hm : ¬ (2 : Int) = m := fun e => hm e.symm
              obtain ⟨c0, c1, l0⟩ := two_cells (T2.out.keep hS.out.below).one
              obtain ⟨d0, d1, l1⟩ := two_cells (T2.out.keep hS.out.below).two
              have l2 : w.heap.size < w.heap.size + 1 + 1 := by omega
              have l3 : w.heap.size + 1 < w.heap.size + 1 + 1 := by omega
              obtain ⟨t, ht⟩ : ∃ t, pB + C = t := ⟨_, rfl⟩
              have hti := IBC.out
              rw [ht] at hti
              have x1 := wrap_nat ht hti H9.out
              have x2 := wrap_nat' ht hti H9.out
              have hwp := W3'.out
              have tlt : (t : Int) < (xl : Int) := Int.ofNat_lt.2 hti
              obtain ⟨bb', cap', u9, hv', hbb', hlb, hcell, rf, hset⟩ := hS.out.cell (r := t) (by rw [LLEN.out]; exact hti)
              rw [LLEN.out] at hv'
              injection hv' with e1 e2 e3
              clear e2 e3
              injection e1 with e1
              injection e1 with e1 _ _
              subst e1
              have HSET := Lib.hid hset
              have HPL : Hid (place A B C D Y 2 = t) := Lib.hid (by rw [← ht]; exact PL.out.2.2.1)
              have HS : Hid (four (sg m ((2 : Nat) : Int)) = [1, -1, -1, 1]) := Lib.hid (by rw [show sg m ((2 : Nat) : Int) = 1 from sg_no (by simpa using hm)]; rfl)
              have hm1 : ((2 : Int) == m) = false := by simpa using hm
              clear hm
              have hrowis : (wr.drew.alloc (.cells #[.int .i64 1, .int .i64 (-1), .int .i64 (-1), .int .i64 1] 3)).rowIs wr.heap.size 3 4 (fun j => .int .i64 (([1, (-1), (-1), 1] : List Int).getD j 0)) := by
                refine ⟨#[.int .i64 1, .int .i64 (-1), .int .i64 (-1), .int .i64 1], heap_alloc_new wr.drew _, rfl, fun i hi => ?_⟩
                match i, hi with
                | 0, _ => rfl
                | 1, _ => rfl
                | 2, _ => rfl
                | 3, _ => rfl
              have HRI := Lib.hid hrowis
              have lsz : w.heap.size + 1 + 1 ≤ wr.heap.size := by omega
              have t0 : Int.tdiv 2 2 = 1 := by decide
              have r0 : Int.tmod 2 2 = 0 := by decide
              have v0 : IntKind.i64.wrap 0 = 0 := by decide
              have v1 : IntKind.i64.wrap 1 = 1 := by decide
              clear hrowis hset hti ht hbb' hkz hk
              go_wp2_with fail
              go_region_held3 (fun w' => w'.cell? ⟨w.heap.size, 0, none⟩ = some (.int .i64 (A : Int)) ∧ w'.cell? ⟨w.heap.size, 1, none⟩ = some (.int .i64 (B : Int)) ∧ w'.cell? ⟨w.heap.size + 1, 0, none⟩ = some (.int .i64 (C : Int)) ∧ w'.cell? ⟨w.heap.size + 1, 1, none⟩ = some (.int .i64 (D : Int)))
                ((refine lows22 c0 c1 d0 d1 l2 l3 ?_; repeat (first | (with_reducible exact step.Low.refl _ _) | (with_reducible refine step.Low.drew ?_) | (with_reducible refine step.Low.alloc ?_ (by first | exact lsz | (simp; first | exact lsz | omega)) _) | (with_reducible refine step.Low.setCell ?_ _ _ (by first | exact hbb | (simp; first | exact hbb | omega))))))
                (first | fail)
              have e9 : (wr.drew.alloc (.cells #[.int .i64 1, .int .i64 (-1), .int .i64 (-1), .int .i64 1] 3)).setCell ⟨bb, t, none⟩ (.slice (some ⟨wr.heap.size, 0, none⟩) 4 4) = ((wr.setCell ⟨bb, t, none⟩ (.slice (some ⟨wr.heap.size, 0, none⟩) 4 4)).alloc (.cells #[.int .i64 1, .int .i64 (-1), .int .i64 (-1), .int .i64 1] 3)).drew := by go_simp
              have S3 : Hid (Sto W2 ((wr.setCell ⟨bb, t, none⟩ (.slice (some ⟨wr.heap.size, 0, none⟩) 4 4)).alloc (.cells #[.int .i64 1, .int .i64 (-1), .int .i64 (-1), .int .i64 1] 3)).drew (w.heap.size + 1 + 1) (.slice (some ⟨bb, 0, none⟩) xl xc) (vals.set t (.slice (some ⟨wr.heap.size, 0, none⟩) 4 4)) (L A B C D m Y xl 3)) := Lib.hid (by
                rw [← e9, LS.out, HPL.out, HS.out]
                exact HSET.out _ _ _ (below_al (below_dr (Below.refl _ _)) _) (ints.own_of_row (xs := [1, (-1), (-1), 1]) HRI.out (Nat.le_refl _) (Nat.lt_succ_self _) (by simp [maxLen])).ints (pile.typ_row HRI.out _ _))
              clear e9 c0 c1 d0 d1 l0 l1 l2 l3 x1 x2 hwp tlt hlb hcell rf lsz t0 r0 v0 v1
              go_wp2_with fail
              go_roundw
              case rel => exact ⟨3, by decide, by go_num, ⟨_, rfl⟩, _, S3⟩
              case measure => simp [intOf]
          · by_cases hm : m = 3
            · subst hm
              obtain ⟨c0, c1, l0⟩ := two_cells (T2.out.keep hS.out.below).one
              obtain ⟨d0, d1, l1⟩ := two_cells (T2.out.keep hS.out.below).two
              have l2 : w.heap.size < w.heap.size + 1 + 1 := by omega
              have l3 : w.heap.size + 1 < w.heap.size + 1 + 1 := by omega
              obtain ⟨t, ht⟩ : ∃ t, pB + D = t := ⟨_, rfl⟩
              have hti := IBD.out
              rw [ht] at hti
              have x1 := wrap_nat ht hti H9.out
              have x2 := wrap_nat' ht hti H9.out
              have hwp := W3'.out
              have tlt : (t : Int) < (xl : Int) := Int.ofNat_lt.2 hti
              obtain ⟨bb', cap', u9, hv', hbb', hlb, hcell, rf, hset⟩ := hS.out.cell (r := t) (by rw [LLEN.out]; exact hti)
              rw [LLEN.out] at hv'
              injection hv' with e1 e2 e3
              clear e2 e3
              injection e1 with e1
              injection e1 with e1 _ _
              subst e1
              have HSET := Lib.hid hset
              have HPL : Hid (place A B C D Y 3 = t) := Lib.hid (by rw [← ht]; exact PL.out.2.2.2)
              have HS : Hid (four (sg 3 ((3 : Nat) : Int)) = [-1, 1, 1, -1]) := Lib.hid (by rw [show sg 3 ((3 : Nat) : Int) = -1 from sg_yes _]; rfl)
              have hrowis : (wr.drew.alloc (.cells #[.int .i64 (-1), .int .i64 1, .int .i64 1, .int .i64 (-1)] 3)).rowIs wr.heap.size 3 4 (fun j => .int .i64 (([(-1), 1, 1, (-1)] : List Int).getD j 0)) := by
                refine ⟨#[.int .i64 (-1), .int .i64 1, .int .i64 1, .int .i64 (-1)], heap_alloc_new wr.drew _, rfl, fun i hi => ?_⟩
                match i, hi with
                | 0, _ => rfl
                | 1, _ => rfl
                | 2, _ => rfl
                | 3, _ => rfl
              have HRI := Lib.hid hrowis
              have lsz : w.heap.size + 1 + 1 ≤ wr.heap.size := by omega
              have t0 : Int.tdiv 3 2 = 1 := by decide
              have r0 : Int.tmod 3 2 = 1 := by decide
              have v0 : IntKind.i64.wrap 0 = 0 := by decide
              have v1 : IntKind.i64.wrap 1 = 1 := by decide
              clear hrowis hset hti ht hbb' hkz hk
              go_wp2_with fail
              go_region_held3 (fun w' => w'.cell? ⟨w.heap.size, 0, none⟩ = some (.int .i64 (A : Int)) ∧ w'.cell? ⟨w.heap.size, 1, none⟩ = some (.int .i64 (B : Int)) ∧ w'.cell? ⟨w.heap.size + 1, 0, none⟩ = some (.int .i64 (C : Int)) ∧ w'.cell? ⟨w.heap.size + 1, 1, none⟩ = some (.int .i64 (D : Int)))
                ((refine lows22 c0 c1 d0 d1 l2 l3 ?_; repeat (first | (with_reducible exact step.Low.refl _ _) | (with_reducible refine step.Low.drew ?_) | (with_reducible refine step.Low.alloc ?_ (by first | exact lsz | (simp; first | exact lsz | omega)) _) | (with_reducible refine step.Low.setCell ?_ _ _ (by first | exact hbb | (simp; first | exact hbb | omega))))))
                (first | fail)
              have e9 : (wr.drew.alloc (.cells #[.int .i64 (-1), .int .i64 1, .int .i64 1, .int .i64 (-1)] 3)).setCell ⟨bb, t, none⟩ (.slice (some ⟨wr.heap.size, 0, none⟩) 4 4) = ((wr.setCell ⟨bb, t, none⟩ (.slice (some ⟨wr.heap.size, 0, none⟩) 4 4)).alloc (.cells #[.int .i64 (-1), .int .i64 1, .int .i64 1, .int .i64 (-1)] 3)).drew := by go_simp
              have S3 : Hid (Sto W2 ((wr.setCell ⟨bb, t, none⟩ (.slice (some ⟨wr.heap.size, 0, none⟩) 4 4)).alloc (.cells #[.int .i64 (-1), .int .i64 1, .int .i64 1, .int .i64 (-1)] 3)).drew (w.heap.size + 1 + 1) (.slice (some ⟨bb, 0, none⟩) xl xc) (vals.set t (.slice (some ⟨wr.heap.size, 0, none⟩) 4 4)) (L A B C D 3 Y xl 4)) := Lib.hid (by
                rw [← e9, LS.out, HPL.out, HS.out]
                exact HSET.out _ _ _ (below_al (below_dr (Below.refl _ _)) _) (ints.own_of_row (xs := [(-1), 1, 1, (-1)]) HRI.out (Nat.le_refl _) (Nat.lt_succ_self _) (by simp [maxLen])).ints (pile.typ_row HRI.out _ _))
              clear e9 c0 c1 d0 d1 l0 l1 l2 l3 x1 x2 hwp tlt hlb hcell rf lsz t0 r0 v0 v1
              go_wp2_with fail
              go_roundw
              case rel => exact ⟨4, by decide, by go_num, ⟨_, rfl⟩, _, S3⟩
              case measure => simp [intOf]
            · have hm : ¬ (3 : Int) = m := fun e => hm e.symm
              obtain ⟨c0, c1, l0⟩ := two_cells (T2.out.keep hS.out.below).one
              obtain ⟨d0, d1, l1⟩ := two_cells (T2.out.keep hS.out.below).two
              have l2 : w.heap.size < w.heap.size + 1 + 1 := by omega
              have l3 : w.heap.size + 1 < w.heap.size + 1 + 1 := by omega
              obtain ⟨t, ht⟩ : ∃ t, pB + D = t := ⟨_, rfl⟩
              have hti := IBD.out
              rw [ht] at hti
              have x1 := wrap_nat ht hti H9.out
              have x2 := wrap_nat' ht hti H9.out
              have hwp := W3'.out
              have tlt : (t : Int) < (xl : Int) := Int.ofNat_lt.2 hti
              obtain ⟨bb', cap', u9, hv', hbb', hlb, hcell, rf, hset⟩ := hS.out.cell (r := t) (by rw [LLEN.out]; exact hti)
              rw [LLEN.out] at hv'
              injection hv' with e1 e2 e3
              clear e2 e3
              injection e1 with e1
              injection e1 with e1 _ _
              subst e1
              have HSET := Lib.hid hset
              have HPL : Hid (place A B C D Y 3 = t) := Lib.hid (by rw [← ht]; exact PL.out.2.2.2)
              have HS : Hid (four (sg m ((3 : Nat) : Int)) = [1, -1, -1, 1]) := Lib.hid (by rw [show sg m ((3 : Nat) : Int) = 1 from sg_no (by simpa using hm)]; rfl)
              have hm1 : ((3 : Int) == m) = false := by simpa using hm
              clear hm
              have hrowis : (wr.drew.alloc (.cells #[.int .i64 1, .int .i64 (-1), .int .i64 (-1), .int .i64 1] 3)).rowIs wr.heap.size 3 4 (fun j => .int .i64 (([1, (-1), (-1), 1] : List Int).getD j 0)) := by
                refine ⟨#[.int .i64 1, .int .i64 (-1), .int .i64 (-1), .int .i64 1], heap_alloc_new wr.drew _, rfl, fun i hi => ?_⟩
                match i, hi with
                | 0, _ => rfl
                | 1, _ => rfl
                | 2, _ => rfl
                | 3, _ => rfl
              have HRI := Lib.hid hrowis
              have lsz : w.heap.size + 1 + 1 ≤ wr.heap.size := by omega
              have t0 : Int.tdiv 3 2 = 1 := by decide
              have r0 : Int.tmod 3 2 = 1 := by decide
              have v0 : IntKind.i64.wrap 0 = 0 := by decide
              have v1 : IntKind.i64.wrap 1 = 1 := by decide
              clear hrowis hset hti ht hbb' hkz hk
              go_wp2_with fail
              go_region_held3 (fun w' => w'.cell? ⟨w.heap.size, 0, none⟩ = some (.int .i64 (A : Int)) ∧ w'.cell? ⟨w.heap.size, 1, none⟩ = some (.int .i64 (B : Int)) ∧ w'.cell? ⟨w.heap.size + 1, 0, none⟩ = some (.int .i64 (C : Int)) ∧ w'.cell? ⟨w.heap.size + 1, 1, none⟩ = some (.int .i64 (D : Int)))
                ((refine lows22 c0 c1 d0 d1 l2 l3 ?_; repeat (first | (with_reducible exact step.Low.refl _ _) | (with_reducible refine step.Low.drew ?_) | (with_reducible refine step.Low.alloc ?_ (by first | exact lsz | (simp; first | exact lsz | omega)) _) | (with_reducible refine step.Low.setCell ?_ _ _ (by first | exact hbb | (simp; first | exact hbb | omega))))))
                (first | fail)
              have e9 : (wr.drew.alloc (.cells #[.int .i64 1, .int .i64 (-1), .int .i64 (-1), .int .i64 1] 3)).setCell ⟨bb, t, none⟩ (.slice (some ⟨wr.heap.size, 0, none⟩) 4 4) = ((wr.setCell ⟨bb, t, none⟩ (.slice (some ⟨wr.heap.size, 0, none⟩) 4 4)).alloc (.cells #[.int .i64 1, .int .i64 (-1), .int .i64 (-1), .int .i64 1] 3)).drew := by go_simp
              have S3 : Hid (Sto W2 ((wr.setCell ⟨bb, t, none⟩ (.slice (some ⟨wr.heap.size, 0, none⟩) 4 4)).alloc (.cells #[.int .i64 1, .int .i64 (-1), .int .i64 (-1), .int .i64 1] 3)).drew (w.heap.size + 1 + 1) (.slice (some ⟨bb, 0, none⟩) xl xc) (vals.set t (.slice (some ⟨wr.heap.size, 0, none⟩) 4 4)) (L A B C D m Y xl 4)) := Lib.hid (by
                rw [← e9, LS.out, HPL.out, HS.out]
                exact HSET.out _ _ _ (below_al (below_dr (Below.refl _ _)) _) (ints.own_of_row (xs := [1, (-1), (-1), 1]) HRI.out (Nat.le_refl _) (Nat.lt_succ_self _) (by simp [maxLen])).ints (pile.typ_row HRI.out _ _))
              clear e9 c0 c1 d0 d1 l0 l1 l2 l3 x1 x2 hwp tlt hlb hcell rf lsz t0 r0 v0 v1
              go_wp2_with fail
              go_roundw
              case rel => exact ⟨4, by decide, by go_num, ⟨_, rfl⟩, _, S3⟩
              case measure => simp [intOf]
          · go_wp2_with fail
            go_ret2
            exact ⟨_, rfl, hS.out.rows, below_tr T2.out.below hS.out.below⟩
  · rw [fourB_no hok] at H4
    rw [res_no hok]
    clear hok
    go_enter Try.func20, Try.ntmps20
    go_wp2_with fail
    refine (H4.out _).mono ?_
    rintro e w1 ⟨rfl, hb⟩
    have B1 := Lib.hid (below_tr (below_al T0.out.below _) hb)
    clear hb H4
    go_wp2_with fail
    go_ret2
    exact ⟨_, rfl, app.empties _ _ _ (Nat.zero_le _), B1.out⟩

end Go.Proofs.Ytnjaocgciokpaab.sfs
