/- SumOf of the model. -/
import Derived.Test.YtimfnhejiiagmaaSop
import Derived.Deep.RegionHeld3
namespace Go.Proofs.Ytimfnhejiiagmaa.sos
open Go.RowKit Go.Deep Go.Proofs.Ytimfnhejiiagmaa.base
open Go.Proofs.Ytimfnhejiiagmaa.val (okSizes okBox boxB boxB_yes boxB_no ret_b)
open Go.Proofs.Ytimfnhejiiagmaa.ints (ret_int)
open Go.Proofs.Ytimfnhejiiagmaa.prt (two_cells)
open Go.Proofs.Ytimfnhejiiagmaa.qfo (okFour fourB fourB_yes fourB_no)
open Go.Proofs.Ytimfnhejiiagmaa.sfm (sg sg_yes sg_no)
open Go.Proofs.Ytimfnhejiiagmaa.row (agr at_)
open Go.Proofs.Ytimfnhejiiagmaa.worth (cum)
open Go.Proofs.Ytimfnhejiiagmaa.som
open Go.Proofs.Ytimfnhejiiagmaa.sop (Box2 held44)

theorem next {xss : List (List Int)} {a b c d m y s g p q : Int} {k : Nat} (h : s = cum (som.part xss a b c d m y) k) (hp : pk a b k = p) (hq : qk c d k = q) (hs : sg m k = g) : s + g * agr xss (at_ y p q) = cum (som.part xss a b c d m y) (k + 1) := by
  subst hp
  subst hq
  subst hs
  subst h
  rfl

set_option maxRecDepth 100000 in
set_option maxHeartbeats 8000000 in
theorem l3sum (x y wh : Int) (v : Value) (xss : List (List Int)) (a b c d m : Int) (w : World) (h : IRows w v xss) (ha : all x y wh xss a b c d m) :
    Calls Try.prog 134 #[.agg #[.int .i64 x, .int .i64 y, .int .i64 wh, v], .agg #[.int .i64 a, .int .i64 b], .agg #[.int .i64 c, .int .i64 d], .int .i64 m] w fun e w' => e = .returned (.int .i64 (som.sum xss a b c d m y)) ∧ Below w.heap.size w w' := by
  obtain ⟨va, vn, vc, rfl⟩ := h.shape
  have T0 := Lib.hid (Box2.start w x y wh (.slice va vn vc) a b c d)
  have HV := Lib.hid h
  have HROW : Hid (∀ p q W, (p = a ∨ p = b) → (q = c ∨ q = d) → IRows W (.slice va vn vc) xss → Calls Try.prog 179 #[.agg #[.int .i64 x, .int .i64 y, .int .i64 wh, .slice va vn vc], .int .i64 p, .int .i64 q] W fun e w' => ∃ u, e = .returned u ∧ Ints w' u (xss.getD (at_ y p q) []) ∧ Below W.heap.size W w') := Lib.hid (fun p q W hp hq hx => by
    have h1 := ha.2.2.1
    have h2 := ha.2.2.2.1
    exact row.l2row x y wh p q _ xss W hx ha.1 (by rcases hp with rfl | rfl <;> omega) (by rcases hp with rfl | rfl <;> omega) (by rcases hq with rfl | rfl <;> omega) (by rcases hq with rfl | rfl <;> omega))
  have HLT : Hid (∀ p q, (p = a ∨ p = b) → (q = c ∨ q = d) → at_ y p q < xss.length) := Lib.hid (fun p q hp hq => by
    have h1 := ha.2.2.1
    have h2 := ha.2.2.2.1
    exact row.at_lt ha.1 (by rcases hp with rfl | rfl <;> omega) (by rcases hp with rfl | rfl <;> omega) (by rcases hq with rfl | rfl <;> omega) (by rcases hq with rfl | rfl <;> omega))
  have HAGR := Lib.hid (fun u r W (hr : r < xss.length) (hu : Ints W u (xss.getD r [])) => row.l2agree u x y wh xss r W ha.1 hr hu)
  have HABD := Lib.hid (fun r (hr : r < xss.length) => agr_bd ha.1 hr)
  have HSBD := Lib.hid (sum_bd ha)
  clear ha h
  go_enter Try.func134, Try.ntmps134
  go_wp2_with fail
  go_loopw [9, 10, 11] (fun z9 i z11 wr => ∃ k : Nat, k ≤ 4 ∧ i = .int .i64 k ∧ (∃ s : Int, z9 = .int .i64 s ∧ Hid (s = cum (som.part xss a b c d m y) k)) ∧ (∃ z, z11 = z) ∧ Hid (Box2 w wr x y wh (.slice va vn vc) a b c d)) (fun _ i _ _ => 4 - (intOf i).toNat)
  case atStart => exact ⟨0, by omega, rfl, ⟨0, rfl, rfl⟩, ⟨_, rfl⟩, T0⟩
  case round =>
    clear T0
    obtain ⟨k, hk, rfl, ⟨s, rfl, hS⟩, ⟨z11, rfl⟩, hT⟩ := hrel
    obtain ⟨wr, rfl⟩ : ∃ w9 : World, w9 = wr := ⟨_, rfl⟩
    obtain ⟨s1, s2⟩ := HSBD.out k hk
    rw [← hS.out] at s1 s2
    rcases (by omega : k = 0 ∨ k = 1 ∨ k = 2 ∨ k = 3 ∨ k = 4) with rfl | rfl | rfl | rfl | rfl
    · by_cases hm : m = 0
      · subst hm
        obtain ⟨b0, b1, b2, b3, _⟩ := four_cells hT.out.box
        obtain ⟨c0, c1, _⟩ := two_cells hT.out.one
        obtain ⟨d0, d1, _⟩ := two_cells hT.out.two
        have HVR := Lib.hid (HV.out.below hT.out.below)
        obtain ⟨g1, g2⟩ := HABD.out _ (HLT.out a c (by simp) (by simp))
        have HN := Lib.hid (next hS.out (show pk a b 0 = a from rfl) (show qk c d 0 = c from rfl) (show sg 0 ((0 : Nat) : Int) = -1 from sg_yes _))
        have HRQ := Lib.hid (HROW.out a c)
        have HLQ := Lib.hid (HLT.out a c (by simp) (by simp))
        have HAQ := Lib.hid (fun u W (hu : Ints W u (xss.getD (at_ y a c) [])) => HAGR.out u (at_ y a c) W HLQ.out hu)
        generalize agr xss (at_ y a c) = g at *
        generalize at_ y a c = r at *
        have n1 : IntKind.i64.wrap (-g) = -g := IntWalk.i64_in _ (by omega)
        have n2 : IntKind.i64.wrap (s + -g) = s + -g := IntWalk.i64_in _ (by omega)
        have n3 : wrap64 (-g) = -g := IntWalk.wrap64_in _ (by omega)
        have n4 : wrap64 (s + -g) = s + -g := IntWalk.wrap64_in _ (by omega)
        have HN2 : Hid (s + -g = cum (som.part xss a b c d 0 y) 1) := Lib.hid (by have h5 := HN.out; rw [← h5]; omega)
        clear s1 s2 g1 g2 HABD HLT HAGR HN
        have t0 : Int.tdiv 0 2 = 0 := by decide
        have r0 : Int.tmod 0 2 = 0 := by decide
        have v0 : IntKind.i64.wrap 0 = 0 := by decide
        have v1 : IntKind.i64.wrap 1 = 1 := by decide
        go_wp2_with fail
        go_region_held3 (fun w' => w'.cell? ⟨w.heap.size, 0, none⟩ = some (.int .i64 x) ∧ w'.cell? ⟨w.heap.size, 1, none⟩ = some (.int .i64 y) ∧ w'.cell? ⟨w.heap.size, 2, none⟩ = some (.int .i64 wh) ∧ w'.cell? ⟨w.heap.size, 3, none⟩ = some (.slice va vn vc) ∧ w'.cell? ⟨w.heap.size + 1, 0, none⟩ = some (.int .i64 a) ∧ w'.cell? ⟨w.heap.size + 1, 1, none⟩ = some (.int .i64 b) ∧ w'.cell? ⟨w.heap.size + 1 + 1, 0, none⟩ = some (.int .i64 c) ∧ w'.cell? ⟨w.heap.size + 1 + 1, 1, none⟩ = some (.int .i64 d) ∧ Below wr.heap.size wr w')
          ((refine held44 b0 b1 b2 b3 c0 c1 d0 d1 ?_; repeat (first | exact Below.refl _ _ | assumption | refine below_dr ?_ | refine below_tr ?_ (by assumption))))
          (first
            | (go_at_call 179; (with_reducible refine (HRQ.out _ (by simp) (by simp) (HVR.out.below (below_dr (Below.refl _ _)))).mono ?_); rintro e w5 ⟨u5, rfl, hu5, hb5⟩; (have U5 := Lib.hid hu5); obtain ⟨xa, xn, xc, rfl⟩ := hu5.shape; clear hu5)
            | (go_at_call 178; (with_reducible refine (HAQ.out _ _ U5.out).mono ?_); rintro e w6 ⟨rfl, hb6⟩))
        have T6 := Lib.hid (hT.out.keep (below_tr (below_tr (below_dr (Below.refl _ _)) hb5) hb6))
        clear b0 b1 b2 b3 c0 c1 d0 d1 hb5 hb6 hT HRQ HLQ HAQ
        go_wp2_with fail
        go_roundw
        case rel => exact ⟨1, by decide, by go_num, ⟨_, rfl, HN2⟩, ⟨_, rfl⟩, T6⟩
        case measure => simp [intOf]
      · have hm : ¬ (0 : Int) = m := fun e => hm e.symm
        obtain ⟨b0, b1, b2, b3, _⟩ := four_cells hT.out.box
        obtain ⟨c0, c1, _⟩ := two_cells hT.out.one
        obtain ⟨d0, d1, _⟩ := two_cells hT.out.two
        have HVR := Lib.hid (HV.out.below hT.out.below)
        obtain ⟨g1, g2⟩ := HABD.out _ (HLT.out a c (by simp) (by simp))
        have HN := Lib.hid (next hS.out (show pk a b 0 = a from rfl) (show qk c d 0 = c from rfl) (show sg m ((0 : Nat) : Int) = 1 from sg_no (by simpa using hm)))
        have hm1 : ((0 : Int) == m) = false := by simpa using hm
        clear hm
        have HRQ := Lib.hid (HROW.out a c)
        have HLQ := Lib.hid (HLT.out a c (by simp) (by simp))
        have HAQ := Lib.hid (fun u W (hu : Ints W u (xss.getD (at_ y a c) [])) => HAGR.out u (at_ y a c) W HLQ.out hu)
        generalize agr xss (at_ y a c) = g at *
        generalize at_ y a c = r at *
        have n2 : IntKind.i64.wrap (s + g) = s + g := IntWalk.i64_in _ (by omega)
        have n4 : wrap64 (s + g) = s + g := IntWalk.wrap64_in _ (by omega)
        have HN2 : Hid (s + g = cum (som.part xss a b c d m y) 1) := Lib.hid (by have h5 := HN.out; rw [← h5]; omega)
        clear s1 s2 g1 g2 HABD HLT HAGR HN
        have t0 : Int.tdiv 0 2 = 0 := by decide
        have r0 : Int.tmod 0 2 = 0 := by decide
        have v0 : IntKind.i64.wrap 0 = 0 := by decide
        have v1 : IntKind.i64.wrap 1 = 1 := by decide
        go_wp2_with fail
        go_region_held3 (fun w' => w'.cell? ⟨w.heap.size, 0, none⟩ = some (.int .i64 x) ∧ w'.cell? ⟨w.heap.size, 1, none⟩ = some (.int .i64 y) ∧ w'.cell? ⟨w.heap.size, 2, none⟩ = some (.int .i64 wh) ∧ w'.cell? ⟨w.heap.size, 3, none⟩ = some (.slice va vn vc) ∧ w'.cell? ⟨w.heap.size + 1, 0, none⟩ = some (.int .i64 a) ∧ w'.cell? ⟨w.heap.size + 1, 1, none⟩ = some (.int .i64 b) ∧ w'.cell? ⟨w.heap.size + 1 + 1, 0, none⟩ = some (.int .i64 c) ∧ w'.cell? ⟨w.heap.size + 1 + 1, 1, none⟩ = some (.int .i64 d) ∧ Below wr.heap.size wr w')
          ((refine held44 b0 b1 b2 b3 c0 c1 d0 d1 ?_; repeat (first | exact Below.refl _ _ | assumption | refine below_dr ?_ | refine below_tr ?_ (by assumption))))
          (first
            | (go_at_call 179; (with_reducible refine (HRQ.out _ (by simp) (by simp) (HVR.out.below (below_dr (Below.refl _ _)))).mono ?_); rintro e w5 ⟨u5, rfl, hu5, hb5⟩; (have U5 := Lib.hid hu5); obtain ⟨xa, xn, xc, rfl⟩ := hu5.shape; clear hu5)
            | (go_at_call 178; (with_reducible refine (HAQ.out _ _ U5.out).mono ?_); rintro e w6 ⟨rfl, hb6⟩))
        have T6 := Lib.hid (hT.out.keep (below_tr (below_tr (below_dr (Below.refl _ _)) hb5) hb6))
        clear b0 b1 b2 b3 c0 c1 d0 d1 hb5 hb6 hT HRQ HLQ HAQ
        go_wp2_with fail
        go_roundw
        case rel => exact ⟨1, by decide, by go_num, ⟨_, rfl, HN2⟩, ⟨_, rfl⟩, T6⟩
        case measure => simp [intOf]
    · by_cases hm : m = 1
      · subst hm
        obtain ⟨b0, b1, b2, b3, _⟩ := four_cells hT.out.box
        obtain ⟨c0, c1, _⟩ := two_cells hT.out.one
        obtain ⟨d0, d1, _⟩ := two_cells hT.out.two
        have HVR := Lib.hid (HV.out.below hT.out.below)
        obtain ⟨g1, g2⟩ := HABD.out _ (HLT.out a d (by simp) (by simp))
        have HN := Lib.hid (next hS.out (show pk a b 1 = a from rfl) (show qk c d 1 = d from rfl) (show sg 1 ((1 : Nat) : Int) = -1 from sg_yes _))
        have HRQ := Lib.hid (HROW.out a d)
        have HLQ := Lib.hid (HLT.out a d (by simp) (by simp))
        have HAQ := Lib.hid (fun u W (hu : Ints W u (xss.getD (at_ y a d) [])) => HAGR.out u (at_ y a d) W HLQ.out hu)
        generalize agr xss (at_ y a d) = g at *
        generalize at_ y a d = r at *
        have n1 : IntKind.i64.wrap (-g) = -g := IntWalk.i64_in _ (by omega)
        have n2 : IntKind.i64.wrap (s + -g) = s + -g := IntWalk.i64_in _ (by omega)
        have n3 : wrap64 (-g) = -g := IntWalk.wrap64_in _ (by omega)
        have n4 : wrap64 (s + -g) = s + -g := IntWalk.wrap64_in _ (by omega)
        have HN2 : Hid (s + -g = cum (som.part xss a b c d 1 y) 2) := Lib.hid (by have h5 := HN.out; rw [← h5]; omega)
        clear s1 s2 g1 g2 HABD HLT HAGR HN
        have t0 : Int.tdiv 1 2 = 0 := by decide
        have r0 : Int.tmod 1 2 = 1 := by decide
        have v0 : IntKind.i64.wrap 0 = 0 := by decide
        have v1 : IntKind.i64.wrap 1 = 1 := by decide
        go_wp2_with fail
        go_region_held3 (fun w' => w'.cell? ⟨w.heap.size, 0, none⟩ = some (.int .i64 x) ∧ w'.cell? ⟨w.heap.size, 1, none⟩ = some (.int .i64 y) ∧ w'.cell? ⟨w.heap.size, 2, none⟩ = some (.int .i64 wh) ∧ w'.cell? ⟨w.heap.size, 3, none⟩ = some (.slice va vn vc) ∧ w'.cell? ⟨w.heap.size + 1, 0, none⟩ = some (.int .i64 a) ∧ w'.cell? ⟨w.heap.size + 1, 1, none⟩ = some (.int .i64 b) ∧ w'.cell? ⟨w.heap.size + 1 + 1, 0, none⟩ = some (.int .i64 c) ∧ w'.cell? ⟨w.heap.size + 1 + 1, 1, none⟩ = some (.int .i64 d) ∧ Below wr.heap.size wr w')
          ((refine held44 b0 b1 b2 b3 c0 c1 d0 d1 ?_; repeat (first | exact Below.refl _ _ | assumption | refine below_dr ?_ | refine below_tr ?_ (by assumption))))
          (first
            | (go_at_call 179; (with_reducible refine (HRQ.out _ (by simp) (by simp) (HVR.out.below (below_dr (Below.refl _ _)))).mono ?_); rintro e w5 ⟨u5, rfl, hu5, hb5⟩; (have U5 := Lib.hid hu5); obtain ⟨xa, xn, xc, rfl⟩ := hu5.shape; clear hu5)
            | (go_at_call 178; (with_reducible refine (HAQ.out _ _ U5.out).mono ?_); rintro e w6 ⟨rfl, hb6⟩))
        have T6 := Lib.hid (hT.out.keep (below_tr (below_tr (below_dr (Below.refl _ _)) hb5) hb6))
        clear b0 b1 b2 b3 c0 c1 d0 d1 hb5 hb6 hT HRQ HLQ HAQ
        go_wp2_with fail
        go_roundw
        case rel => exact ⟨2, by decide, by go_num, ⟨_, rfl, HN2⟩, ⟨_, rfl⟩, T6⟩
        case measure => simp [intOf]
      · have hm : ¬ (1 : Int) = m := fun e => hm e.symm
        obtain ⟨b0, b1, b2, b3, _⟩ := four_cells hT.out.box
        obtain ⟨c0, c1, _⟩ := two_cells hT.out.one
        obtain ⟨d0, d1, _⟩ := two_cells hT.out.two
        have HVR := Lib.hid (HV.out.below hT.out.below)
        obtain ⟨g1, g2⟩ := HABD.out _ (HLT.out a d (by simp) (by simp))
        have HN := Lib.hid (next hS.out (show pk a b 1 = a from rfl) (show qk c d 1 = d from rfl) (show sg m ((1 : Nat) : Int) = 1 from sg_no (by simpa using hm)))
        have hm1 : ((1 : Int) == m) = false := by simpa using hm
        clear hm
        have HRQ := Lib.hid (HROW.out a d)
        have HLQ := Lib.hid (HLT.out a d (by simp) (by simp))
        have HAQ := Lib.hid (fun u W (hu : Ints W u (xss.getD (at_ y a d) [])) => HAGR.out u (at_ y a d) W HLQ.out hu)
        generalize agr xss (at_ y a d) = g at *
        generalize at_ y a d = r at *
        have n2 : IntKind.i64.wrap (s + g) = s + g := IntWalk.i64_in _ (by omega)
        have n4 : wrap64 (s + g) = s + g := IntWalk.wrap64_in _ (by omega)
        have HN2 : Hid (s + g = cum (som.part xss a b c d m y) 2) := Lib.hid (by have h5 := HN.out; rw [← h5]; omega)
        clear s1 s2 g1 g2 HABD HLT HAGR HN
        have t0 : Int.tdiv 1 2 = 0 := by decide
        have r0 : Int.tmod 1 2 = 1 := by decide
        have v0 : IntKind.i64.wrap 0 = 0 := by decide
        have v1 : IntKind.i64.wrap 1 = 1 := by decide
        go_wp2_with fail
        go_region_held3 (fun w' => w'.cell? ⟨w.heap.size, 0, none⟩ = some (.int .i64 x) ∧ w'.cell? ⟨w.heap.size, 1, none⟩ = some (.int .i64 y) ∧ w'.cell? ⟨w.heap.size, 2, none⟩ = some (.int .i64 wh) ∧ w'.cell? ⟨w.heap.size, 3, none⟩ = some (.slice va vn vc) ∧ w'.cell? ⟨w.heap.size + 1, 0, none⟩ = some (.int .i64 a) ∧ w'.cell? ⟨w.heap.size + 1, 1, none⟩ = some (.int .i64 b) ∧ w'.cell? ⟨w.heap.size + 1 + 1, 0, none⟩ = some (.int .i64 c) ∧ w'.cell? ⟨w.heap.size + 1 + 1, 1, none⟩ = some (.int .i64 d) ∧ Below wr.heap.size wr w')
          ((refine held44 b0 b1 b2 b3 c0 c1 d0 d1 ?_; repeat (first | exact Below.refl _ _ | assumption | refine below_dr ?_ | refine below_tr ?_ (by assumption))))
          (first
            | (go_at_call 179; (with_reducible refine (HRQ.out _ (by simp) (by simp) (HVR.out.below (below_dr (Below.refl _ _)))).mono ?_); rintro e w5 ⟨u5, rfl, hu5, hb5⟩; (have U5 := Lib.hid hu5); obtain ⟨xa, xn, xc, rfl⟩ := hu5.shape; clear hu5)
            | (go_at_call 178; (with_reducible refine (HAQ.out _ _ U5.out).mono ?_); rintro e w6 ⟨rfl, hb6⟩))
        have T6 := Lib.hid (hT.out.keep (below_tr (below_tr (below_dr (Below.refl _ _)) hb5) hb6))
        clear b0 b1 b2 b3 c0 c1 d0 d1 hb5 hb6 hT HRQ HLQ HAQ
        go_wp2_with fail
        go_roundw
        case rel => exact ⟨2, by decide, by go_num, ⟨_, rfl, HN2⟩, ⟨_, rfl⟩, T6⟩
        case measure => simp [intOf]
    · by_cases hm : m = 2
      · subst hm
        obtain ⟨b0, b1, b2, b3, _⟩ := four_cells hT.out.box
        obtain ⟨c0, c1, _⟩ := two_cells hT.out.one
        obtain ⟨d0, d1, _⟩ := two_cells hT.out.two
        have HVR := Lib.hid (HV.out.below hT.out.below)
        obtain ⟨g1, g2⟩ := HABD.out _ (HLT.out b c (by simp) (by simp))
        have HN := Lib.hid (next hS.out (show pk a b 2 = b from rfl) (show qk c d 2 = c from rfl) (show sg 2 ((2 : Nat) : Int) = -1 from sg_yes _))
        have HRQ := Lib.hid (HROW.out b c)
        have HLQ := Lib.hid (HLT.out b c (by simp) (by simp))
        have HAQ := Lib.hid (fun u W (hu : Ints W u (xss.getD (at_ y b c) [])) => HAGR.out u (at_ y b c) W HLQ.out hu)
        generalize agr xss (at_ y b c) = g at *
        generalize at_ y b c = r at *
        have n1 : IntKind.i64.wrap (-g) = -g := IntWalk.i64_in _ (by omega)
        have n2 : IntKind.i64.wrap (s + -g) = s + -g := IntWalk.i64_in _ (by omega)
        have n3 : wrap64 (-g) = -g := IntWalk.wrap64_in _ (by omega)
        have n4 : wrap64 (s + -g) = s + -g := IntWalk.wrap64_in _ (by omega)
        have HN2 : Hid (s + -g = cum (som.part xss a b c d 2 y) 3) := Lib.hid (by have h5 := HN.out; rw [← h5]; omega)
        clear s1 s2 g1 g2 HABD HLT HAGR HN
        have t0 : Int.tdiv 2 2 = 1 := by decide
        have r0 : Int.tmod 2 2 = 0 := by decide
        have v0 : IntKind.i64.wrap 0 = 0 := by decide
        have v1 : IntKind.i64.wrap 1 = 1 := by decide
        go_wp2_with fail
        go_region_held3 (fun w' => w'.cell? ⟨w.heap.size, 0, none⟩ = some (.int .i64 x) ∧ w'.cell? ⟨w.heap.size, 1, none⟩ = some (.int .i64 y) ∧ w'.cell? ⟨w.heap.size, 2, none⟩ = some (.int .i64 wh) ∧ w'.cell? ⟨w.heap.size, 3, none⟩ = some (.slice va vn vc) ∧ w'.cell? ⟨w.heap.size + 1, 0, none⟩ = some (.int .i64 a) ∧ w'.cell? ⟨w.heap.size + 1, 1, none⟩ = some (.int .i64 b) ∧ w'.cell? ⟨w.heap.size + 1 + 1, 0, none⟩ = some (.int .i64 c) ∧ w'.cell? ⟨w.heap.size + 1 + 1, 1, none⟩ = some (.int .i64 d) ∧ Below wr.heap.size wr w')
          ((refine held44 b0 b1 b2 b3 c0 c1 d0 d1 ?_; repeat (first | exact Below.refl _ _ | assumption | refine below_dr ?_ | refine below_tr ?_ (by assumption))))
          (first
            | (go_at_call 179; (with_reducible refine (HRQ.out _ (by simp) (by simp) (HVR.out.below (below_dr (Below.refl _ _)))).mono ?_); rintro e w5 ⟨u5, rfl, hu5, hb5⟩; (have U5 := Lib.hid hu5); obtain ⟨xa, xn, xc, rfl⟩ := hu5.shape; clear hu5)
            | (go_at_call 178; (with_reducible refine (HAQ.out _ _ U5.out).mono ?_); rintro e w6 ⟨rfl, hb6⟩))
        have T6 := Lib.hid (hT.out.keep (below_tr (below_tr (below_dr (Below.refl _ _)) hb5) hb6))
        clear b0 b1 b2 b3 c0 c1 d0 d1 hb5 hb6 hT HRQ HLQ HAQ
        go_wp2_with fail
        go_roundw
        case rel => exact ⟨3, by decide, by go_num, ⟨_, rfl, HN2⟩, ⟨_, rfl⟩, T6⟩
        case measure => simp [intOf]
      · have hm : ¬ (2 : Int) = m := fun e => hm e.symm
        obtain ⟨b0, b1, b2, b3, _⟩ := four_cells hT.out.box
        obtain ⟨c0, c1, _⟩ := two_cells hT.out.one
        obtain ⟨d0, d1, _⟩ := two_cells hT.out.two
        have HVR := Lib.hid (HV.out.below hT.out.below)
        obtain ⟨g1, g2⟩ := HABD.out _ (HLT.out b c (by simp) (by simp))
        have HN := Lib.hid (next hS.out (show pk a b 2 = b from rfl) (show qk c d 2 = c from rfl) (show sg m ((2 : Nat) : Int) = 1 from sg_no (by simpa using hm)))
        have hm1 : ((2 : Int) == m) = false := by simpa using hm
        clear hm
        have HRQ := Lib.hid (HROW.out b c)
        have HLQ := Lib.hid (HLT.out b c (by simp) (by simp))
        have HAQ := Lib.hid (fun u W (hu : Ints W u (xss.getD (at_ y b c) [])) => HAGR.out u (at_ y b c) W HLQ.out hu)
        generalize agr xss (at_ y b c) = g at *
        generalize at_ y b c = r at *
        have n2 : IntKind.i64.wrap (s + g) = s + g := IntWalk.i64_in _ (by omega)
        have n4 : wrap64 (s + g) = s + g := IntWalk.wrap64_in _ (by omega)
        have HN2 : Hid (s + g = cum (som.part xss a b c d m y) 3) := Lib.hid (by have h5 := HN.out; rw [← h5]; omega)
        clear s1 s2 g1 g2 HABD HLT HAGR HN
        have t0 : Int.tdiv 2 2 = 1 := by decide
        have r0 : Int.tmod 2 2 = 0 := by decide
        have v0 : IntKind.i64.wrap 0 = 0 := by decide
        have v1 : IntKind.i64.wrap 1 = 1 := by decide
        go_wp2_with fail
        go_region_held3 (fun w' => w'.cell? ⟨w.heap.size, 0, none⟩ = some (.int .i64 x) ∧ w'.cell? ⟨w.heap.size, 1, none⟩ = some (.int .i64 y) ∧ w'.cell? ⟨w.heap.size, 2, none⟩ = some (.int .i64 wh) ∧ w'.cell? ⟨w.heap.size, 3, none⟩ = some (.slice va vn vc) ∧ w'.cell? ⟨w.heap.size + 1, 0, none⟩ = some (.int .i64 a) ∧ w'.cell? ⟨w.heap.size + 1, 1, none⟩ = some (.int .i64 b) ∧ w'.cell? ⟨w.heap.size + 1 + 1, 0, none⟩ = some (.int .i64 c) ∧ w'.cell? ⟨w.heap.size + 1 + 1, 1, none⟩ = some (.int .i64 d) ∧ Below wr.heap.size wr w')
          ((refine held44 b0 b1 b2 b3 c0 c1 d0 d1 ?_; repeat (first | exact Below.refl _ _ | assumption | refine below_dr ?_ | refine below_tr ?_ (by assumption))))
          (first
            | (go_at_call 179; (with_reducible refine (HRQ.out _ (by simp) (by simp) (HVR.out.below (below_dr (Below.refl _ _)))).mono ?_); rintro e w5 ⟨u5, rfl, hu5, hb5⟩; (have U5 := Lib.hid hu5); obtain ⟨xa, xn, xc, rfl⟩ := hu5.shape; clear hu5)
            | (go_at_call 178; (with_reducible refine (HAQ.out _ _ U5.out).mono ?_); rintro e w6 ⟨rfl, hb6⟩))
        have T6 := Lib.hid (hT.out.keep (below_tr (below_tr (below_dr (Below.refl _ _)) hb5) hb6))
        clear b0 b1 b2 b3 c0 c1 d0 d1 hb5 hb6 hT HRQ HLQ HAQ
        go_wp2_with fail
        go_roundw
        case rel => exact ⟨3, by decide, by go_num, ⟨_, rfl, HN2⟩, ⟨_, rfl⟩, T6⟩
        case measure => simp [intOf]
    · by_cases hm : m = 3
      · subst hm
        obtain ⟨b0, b1, b2, b3, _⟩ := four_cells hT.out.box
        obtain ⟨c0, c1, _⟩ := two_cells hT.out.one
        obtain ⟨d0, d1, _⟩ := two_cells hT.out.two
        have HVR := Lib.hid (HV.out.below hT.out.below)
        obtain ⟨g1, g2⟩ := HABD.out _ (HLT.out b d (by simp) (by simp))
        have HN := Lib.hid (next hS.out (show pk a b 3 = b from rfl) (show qk c d 3 = d from rfl) (show sg 3 ((3 : Nat) : Int) = -1 from sg_yes _))
        have HRQ := Lib.hid (HROW.out b d)
        have HLQ := Lib.hid (HLT.out b d (by simp) (by simp))
        have HAQ := Lib.hid (fun u W (hu : Ints W u (xss.getD (at_ y b d) [])) => HAGR.out u (at_ y b d) W HLQ.out hu)
        generalize agr xss (at_ y b d) = g at *
        generalize at_ y b d = r at *
        have n1 : IntKind.i64.wrap (-g) = -g := IntWalk.i64_in _ (by omega)
        have n2 : IntKind.i64.wrap (s + -g) = s + -g := IntWalk.i64_in _ (by omega)
        have n3 : wrap64 (-g) = -g := IntWalk.wrap64_in _ (by omega)
        have n4 : wrap64 (s + -g) = s + -g := IntWalk.wrap64_in _ (by omega)
        have HN2 : Hid (s + -g = cum (som.part xss a b c d 3 y) 4) := Lib.hid (by have h5 := HN.out; rw [← h5]; omega)
        clear s1 s2 g1 g2 HABD HLT HAGR HN
        have t0 : Int.tdiv 3 2 = 1 := by decide
        have r0 : Int.tmod 3 2 = 1 := by decide
        have v0 : IntKind.i64.wrap 0 = 0 := by decide
        have v1 : IntKind.i64.wrap 1 = 1 := by decide
        go_wp2_with fail
        go_region_held3 (fun w' => w'.cell? ⟨w.heap.size, 0, none⟩ = some (.int .i64 x) ∧ w'.cell? ⟨w.heap.size, 1, none⟩ = some (.int .i64 y) ∧ w'.cell? ⟨w.heap.size, 2, none⟩ = some (.int .i64 wh) ∧ w'.cell? ⟨w.heap.size, 3, none⟩ = some (.slice va vn vc) ∧ w'.cell? ⟨w.heap.size + 1, 0, none⟩ = some (.int .i64 a) ∧ w'.cell? ⟨w.heap.size + 1, 1, none⟩ = some (.int .i64 b) ∧ w'.cell? ⟨w.heap.size + 1 + 1, 0, none⟩ = some (.int .i64 c) ∧ w'.cell? ⟨w.heap.size + 1 + 1, 1, none⟩ = some (.int .i64 d) ∧ Below wr.heap.size wr w')
          ((refine held44 b0 b1 b2 b3 c0 c1 d0 d1 ?_; repeat (first | exact Below.refl _ _ | assumption | refine below_dr ?_ | refine below_tr ?_ (by assumption))))
          (first
            | (go_at_call 179; (with_reducible refine (HRQ.out _ (by simp) (by simp) (HVR.out.below (below_dr (Below.refl _ _)))).mono ?_); rintro e w5 ⟨u5, rfl, hu5, hb5⟩; (have U5 := Lib.hid hu5); obtain ⟨xa, xn, xc, rfl⟩ := hu5.shape; clear hu5)
            | (go_at_call 178; (with_reducible refine (HAQ.out _ _ U5.out).mono ?_); rintro e w6 ⟨rfl, hb6⟩))
        have T6 := Lib.hid (hT.out.keep (below_tr (below_tr (below_dr (Below.refl _ _)) hb5) hb6))
        clear b0 b1 b2 b3 c0 c1 d0 d1 hb5 hb6 hT HRQ HLQ HAQ
        go_wp2_with fail
        go_roundw
        case rel => exact ⟨4, by decide, by go_num, ⟨_, rfl, HN2⟩, ⟨_, rfl⟩, T6⟩
        case measure => simp [intOf]
      · have hm : ¬ (3 : Int) = m := fun e => hm e.symm
        obtain ⟨b0, b1, b2, b3, _⟩ := four_cells hT.out.box
        obtain ⟨c0, c1, _⟩ := two_cells hT.out.one
        obtain ⟨d0, d1, _⟩ := two_cells hT.out.two
        have HVR := Lib.hid (HV.out.below hT.out.below)
        obtain ⟨g1, g2⟩ := HABD.out _ (HLT.out b d (by simp) (by simp))
        have HN := Lib.hid (next hS.out (show pk a b 3 = b from rfl) (show qk c d 3 = d from rfl) (show sg m ((3 : Nat) : Int) = 1 from sg_no (by simpa using hm)))
        have hm1 : ((3 : Int) == m) = false := by simpa using hm
        clear hm
        have HRQ := Lib.hid (HROW.out b d)
        have HLQ := Lib.hid (HLT.out b d (by simp) (by simp))
        have HAQ := Lib.hid (fun u W (hu : Ints W u (xss.getD (at_ y b d) [])) => HAGR.out u (at_ y b d) W HLQ.out hu)
        generalize agr xss (at_ y b d) = g at *
        generalize at_ y b d = r at *
        have n2 : IntKind.i64.wrap (s + g) = s + g := IntWalk.i64_in _ (by omega)
        have n4 : wrap64 (s + g) = s + g := IntWalk.wrap64_in _ (by omega)
        have HN2 : Hid (s + g = cum (som.part xss a b c d m y) 4) := Lib.hid (by have h5 := HN.out; rw [← h5]; omega)
        clear s1 s2 g1 g2 HABD HLT HAGR HN
        have t0 : Int.tdiv 3 2 = 1 := by decide
        have r0 : Int.tmod 3 2 = 1 := by decide
        have v0 : IntKind.i64.wrap 0 = 0 := by decide
        have v1 : IntKind.i64.wrap 1 = 1 := by decide
        go_wp2_with fail
        go_region_held3 (fun w' => w'.cell? ⟨w.heap.size, 0, none⟩ = some (.int .i64 x) ∧ w'.cell? ⟨w.heap.size, 1, none⟩ = some (.int .i64 y) ∧ w'.cell? ⟨w.heap.size, 2, none⟩ = some (.int .i64 wh) ∧ w'.cell? ⟨w.heap.size, 3, none⟩ = some (.slice va vn vc) ∧ w'.cell? ⟨w.heap.size + 1, 0, none⟩ = some (.int .i64 a) ∧ w'.cell? ⟨w.heap.size + 1, 1, none⟩ = some (.int .i64 b) ∧ w'.cell? ⟨w.heap.size + 1 + 1, 0, none⟩ = some (.int .i64 c) ∧ w'.cell? ⟨w.heap.size + 1 + 1, 1, none⟩ = some (.int .i64 d) ∧ Below wr.heap.size wr w')
          ((refine held44 b0 b1 b2 b3 c0 c1 d0 d1 ?_; repeat (first | exact Below.refl _ _ | assumption | refine below_dr ?_ | refine below_tr ?_ (by assumption))))
          (first
            | (go_at_call 179; (with_reducible refine (HRQ.out _ (by simp) (by simp) (HVR.out.below (below_dr (Below.refl _ _)))).mono ?_); rintro e w5 ⟨u5, rfl, hu5, hb5⟩; (have U5 := Lib.hid hu5); obtain ⟨xa, xn, xc, rfl⟩ := hu5.shape; clear hu5)
            | (go_at_call 178; (with_reducible refine (HAQ.out _ _ U5.out).mono ?_); rintro e w6 ⟨rfl, hb6⟩))
        have T6 := Lib.hid (hT.out.keep (below_tr (below_tr (below_dr (Below.refl _ _)) hb5) hb6))
        clear b0 b1 b2 b3 c0 c1 d0 d1 hb5 hb6 hT HRQ HLQ HAQ
        go_wp2_with fail
        go_roundw
        case rel => exact ⟨4, by decide, by go_num, ⟨_, rfl, HN2⟩, ⟨_, rfl⟩, T6⟩
        case measure => simp [intOf]
    · have HE : Hid (s = som.sum xss a b c d m y) := Lib.hid hS.out
      have BE := Lib.hid hT.out.below
      clear s1 s2 hS hT
      go_wp2_with fail
      go_ret
      exact ⟨ret_int HE.out, BE.out⟩



end Go.Proofs.Ytimfnhejiiagmaa.sos
