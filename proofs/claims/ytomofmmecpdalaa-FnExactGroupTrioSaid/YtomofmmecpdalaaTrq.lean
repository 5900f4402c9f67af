/- IsQuietTrio of the program. -/
import Derived.Test.YtomofmmecpdalaaTro
namespace Go.Proofs.Ytomofmmecpdalaa.trq
open Go.RowKit Go.Deep Go.Proofs.Ytomofmmecpdalaa.base
open Go.Proofs.Ytomofmmecpdalaa.rws (total)
open Go.Proofs.Ytomofmmecpdalaa.tri (two_cells)
open Go.Proofs.Ytomofmmecpdalaa.trb (at2 tw b2)
open Go.Proofs.Ytomofmmecpdalaa.tro (ins oth)
open Go.Proofs.Ytomofmmecpdalaa.trv (okTrio trioB trioB_yes trioB_no)
open Go.Proofs.Ytomofmmecpdalaa.val (ret_b)

@[go_sem] theorem eqA4 (a b c d a' b' c' d' : Int) (w : World) : (Op.equalIn 10000 92 (.agg #[.int .i64 a, .int .i64 b, .int .i64 c, .int .i64 d]) (.agg #[.int .i64 a', .int .i64 b', .int .i64 c', .int .i64 d'])).run Try.prog w = .ok (a == a' && b == b' && c == c' && d == d') w := by
  have u3 := Try.underlying3
  have a3 := Try.isAgg3
  have z3 := Try.sizeOf3
  rw [show (10000 : Nat) = 9999 + 1 from rfl, Op.equalIn]
  simp only [Sem.run_bind, run_underlying Try.underlying92, Result.andThen_ok]
  simp only [Std.Legacy.Range.forIn_eq_forIn_range', Std.Legacy.Range.size, Nat.sub_zero, Nat.add_sub_cancel, Nat.div_one, List.range'_succ, List.range'_zero, List.forIn_cons, List.forIn_nil]
  go_simp
  by_cases h1 : a = a' <;> by_cases h2 : b = b' <;> by_cases h3 : c = c' <;> by_cases h4 : d = d' <;> simp [h1, h2, h3, h4]

def same (xss : List (List Int)) (p i : Nat) : Prop := ∀ j, j < 4 → oth xss p (ins p 0 i) j = oth xss p (ins p 1 i) j
def quietFor (xss : List (List Int)) (p : Nat) : Prop := ∀ i, i < 4 → same xss p i
def quiet (xss : List (List Int)) : Prop := ∀ p, p < 3 → quietFor xss p
open Classical in
noncomputable def qfB (xss : List (List Int)) (p : Nat) : Bool := if quietFor xss p then true else false
theorem qfB_yes {xss : List (List Int)} {p : Nat} (h : quietFor xss p) : qfB xss p = true := if_pos h
theorem qfB_no {xss : List (List Int)} {p : Nat} (h : ¬ quietFor xss p) : qfB xss p = false := if_neg h
open Classical in
noncomputable def quB (xss : List (List Int)) : Bool := if quiet xss then true else false
theorem quB_yes {xss : List (List Int)} (h : quiet xss) : quB xss = true := if_pos h
theorem quB_no {xss : List (List Int)} (h : ¬ quiet xss) : quB xss = false := if_neg h
theorem same_and {xss : List (List Int)} {p i : Nat} : (oth xss p (ins p 0 i) 0 == oth xss p (ins p 1 i) 0 && oth xss p (ins p 0 i) 1 == oth xss p (ins p 1 i) 1 && oth xss p (ins p 0 i) 2 == oth xss p (ins p 1 i) 2 && oth xss p (ins p 0 i) 3 == oth xss p (ins p 1 i) 3) = true ↔ same xss p i := by
  simp only [Bool.and_eq_true, beq_iff_eq]
  constructor
  · rintro ⟨⟨⟨h0, h1⟩, h2⟩, h3⟩ j hj
    obtain rfl | rfl | rfl | rfl : j = 0 ∨ j = 1 ∨ j = 2 ∨ j = 3 := by omega
    · exact h0
    · exact h1
    · exact h2
    · exact h3
  · exact fun h => ⟨⟨⟨h 0 (by omega), h 1 (by omega)⟩, h 2 (by omega)⟩, h 3 (by omega)⟩


set_option maxHeartbeats 4000000 in
theorem for0 (wh : Int) (v : Value) (xss : List (List Int)) (w : World) (h : IRows w v xss) (hok : okTrio wh xss) :
    Calls Try.prog 57 #[.agg #[.int .i64 wh, v], .int .i64 0] w fun e w' => e = .returned (.bool (qfB xss 0)) ∧ Below w.heap.size w w' := by
  obtain ⟨va, vn, vc, rfl⟩ := h.shape
  have HR0 := Lib.hid (fun (i : Nat) (hi : i < 4) (W : World) (hW : Below w.heap.size w W) => (show Calls Try.prog 96 #[.agg #[.int .i64 wh, .slice va vn vc], .int .i64 0, .int .i64 0, .agg #[.int .i64 ((i : Int) / 2 % 2), .int .i64 ((i : Int) % 2)]] W fun e w' => e = .returned (.agg #[.int .i64 (oth xss 0 (ins 0 0 i) 0), .int .i64 (oth xss 0 (ins 0 0 i) 1), .int .i64 (oth xss 0 (ins 0 0 i) 2), .int .i64 (oth xss 0 (ins 0 0 i) 3)]) ∧ Below W.heap.size W w' from
    tro.row0 wh _ xss 0 ((i : Int) / 2 % 2) ((i : Int) % 2) (ins 0 0 i) W (h.below hW) hok (by omega) (by omega) (by omega) (by simp [ins]; omega)))
  have HR1 := Lib.hid (fun (i : Nat) (hi : i < 4) (W : World) (hW : Below w.heap.size w W) => (show Calls Try.prog 96 #[.agg #[.int .i64 wh, .slice va vn vc], .int .i64 0, .int .i64 1, .agg #[.int .i64 ((i : Int) / 2 % 2), .int .i64 ((i : Int) % 2)]] W fun e w' => e = .returned (.agg #[.int .i64 (oth xss 0 (ins 0 1 i) 0), .int .i64 (oth xss 0 (ins 0 1 i) 1), .int .i64 (oth xss 0 (ins 0 1 i) 2), .int .i64 (oth xss 0 (ins 0 1 i) 3)]) ∧ Below W.heap.size W w' from
    tro.row0 wh _ xss 1 ((i : Int) / 2 % 2) ((i : Int) % 2) (ins 0 1 i) W (h.below hW) hok (by omega) (by omega) (by omega) (by simp [ins]; omega)))
  clear h hok
  obtain ⟨W0, hW0⟩ : ∃ W, W = w.alloc (.cells #[.int .i64 wh, .slice va vn vc] 27) := ⟨_, rfl⟩
  have H0 : Hid (Blk W0 w.heap.size 27 #[.int .i64 wh, .slice va vn vc] ∧ Below w.heap.size w W0) := Lib.hid (by rw [hW0]; exact ⟨Blk.new _ _ _, below_al (Below.refl _ _) _⟩)
  go_enter Try.func57, Try.ntmps57
  go_wp2_with fail
  rw [← hW0]
  clear hW0
  go_loopw [4, 5, 6, 7] (fun q a b s wr => (∃ z, a = z) ∧ (∃ z, b = z) ∧ q = .bool false ∧ ∃ i : Nat, i ≤ 4 ∧ s = .int .i64 i ∧ Hid (∀ k, k < i → same xss 0 k) ∧ Hid (Blk wr w.heap.size 27 #[.int .i64 wh, .slice va vn vc] ∧ Below w.heap.size w wr)) (fun _ _ _ s _ => 4 - (intOf s).toNat)
  case atStart => exact ⟨⟨_, rfl⟩, ⟨_, rfl⟩, rfl, 0, by omega, rfl, Lib.hid (fun k hk => absurd hk (Nat.not_lt_zero _)), H0⟩
  case round =>
    obtain ⟨⟨za, rfl⟩, ⟨zb, rfl⟩, rfl, i, hi, rfl, hH, hS⟩ := hrel
    clear H0
    obtain ⟨wo, rfl⟩ : ∃ wo : World, wo = wr := ⟨_, rfl⟩
    by_cases hlt : i < 4
    · have hkz : (i : Int) < 4 := by omega
      have HA := Lib.hid (at2 i hlt wo)
      go_wp2_with fail
      refine HA.out.mono ?_
      rintro e w2 ⟨rfl, hb⟩
      have S2 := Lib.hid (And.intro (hS.out.1.below hb) (below_tr hS.out.2 hb))
      unfold tw b2
      clear hS HA hb
      by_cases hs : same xss 0 i
      · have dk := same_and.2 hs
        have HS := Lib.hid hs
        clear hs
        go_wp2_with fail
        have al := below_al (Below.refl w2.heap.size w2) (.cells #[.int .i64 ((i : Int) / 2 % 2), .int .i64 ((i : Int) % 2)] 95)
        have S3 := Lib.hid (And.intro (S2.out.1.below al) (below_tr S2.out.2 al))
        have KB := Lib.hid (Blk.new w2 95 #[.int .i64 ((i : Int) / 2 % 2), .int .i64 ((i : Int) % 2)])
        generalize (w2.alloc (.cells #[.int .i64 ((i : Int) / 2 % 2), .int .i64 ((i : Int) % 2)] 95)) = w3 at *
        generalize w2.heap.size = gb at *
        clear al
        obtain ⟨t0, t1, _⟩ := two_cells S3.out.1
        obtain ⟨b0, b1, _⟩ := two_cells KB.out
        go_region_held3 (fun w' => w'.cell? ⟨w.heap.size, 0, none⟩ = some (.int .i64 wh) ∧ w'.cell? ⟨w.heap.size, 1, none⟩ = some (.slice va vn vc) ∧ w'.cell? ⟨gb, 0, none⟩ = some (.int .i64 ((i : Int) / 2 % 2)) ∧ w'.cell? ⟨gb, 1, none⟩ = some (.int .i64 ((i : Int) % 2)) ∧ Below w3.heap.size w3 w')
          ((refine held4 t0 t1 b0 b1 ?_; repeat (first | (with_reducible exact Below.refl _ _) | (with_reducible refine below_dr ?_) | (with_reducible refine below_tr ?_ (by assumption)))))
          (first | (go_at_call 96; (with_reducible refine (HR0.out i hlt _ (below_tr S3.out.2 (by repeat (first | (with_reducible exact Below.refl _ _) | (with_reducible refine below_dr ?_) | (with_reducible refine below_tr ?_ (by assumption)))))).mono ?_); rintro e x0 ⟨rfl, hx0⟩) | (go_at_call 96; (with_reducible refine (HR1.out i hlt _ (below_tr S3.out.2 (by repeat (first | (with_reducible exact Below.refl _ _) | (with_reducible refine below_dr ?_) | (with_reducible refine below_tr ?_ (by assumption)))))).mono ?_); rintro e x1 ⟨rfl, hx1⟩))
        have E9 := below_tr (below_tr (below_dr (Below.refl w3.heap.size w3)) hx0) hx1
        have S9 := Lib.hid (And.intro (S3.out.1.below E9) (below_tr S3.out.2 E9))
        clear t0 t1 b0 b1 hx0 hx1 E9 S3 KB
        go_wp2_with fail
        go_roundw
        case rel => exact ⟨⟨_, rfl⟩, ⟨_, rfl⟩, rfl, i + 1, by omega, by go_num, Lib.hid (fun k hk => by
          by_cases e : k = i
          · subst e; exact HS.out
          · exact hH.out k (by omega)), S9⟩
        case measure => simp [intOf]; omega
      · have dk := Bool.eq_false_iff.2 (fun h => hs (same_and.1 h))
        have HS : Hid (¬ quietFor xss 0) := Lib.hid (fun h => hs (h i hlt))
        clear hs
        go_wp2_with fail
        have al := below_al (Below.refl w2.heap.size w2) (.cells #[.int .i64 ((i : Int) / 2 % 2), .int .i64 ((i : Int) % 2)] 95)
        have S3 := Lib.hid (And.intro (S2.out.1.below al) (below_tr S2.out.2 al))
        have KB := Lib.hid (Blk.new w2 95 #[.int .i64 ((i : Int) / 2 % 2), .int .i64 ((i : Int) % 2)])
        generalize (w2.alloc (.cells #[.int .i64 ((i : Int) / 2 % 2), .int .i64 ((i : Int) % 2)] 95)) = w3 at *
        generalize w2.heap.size = gb at *
        clear al
        obtain ⟨t0, t1, _⟩ := two_cells S3.out.1
        obtain ⟨b0, b1, _⟩ := two_cells KB.out
        go_region_held3 (fun w' => w'.cell? ⟨w.heap.size, 0, none⟩ = some (.int .i64 wh) ∧ w'.cell? ⟨w.heap.size, 1, none⟩ = some (.slice va vn vc) ∧ w'.cell? ⟨gb, 0, none⟩ = some (.int .i64 ((i : Int) / 2 % 2)) ∧ w'.cell? ⟨gb, 1, none⟩ = some (.int .i64 ((i : Int) % 2)) ∧ Below w3.heap.size w3 w')
          ((refine held4 t0 t1 b0 b1 ?_; repeat (first | (with_reducible exact Below.refl _ _) | (with_reducible refine below_dr ?_) | (with_reducible refine below_tr ?_ (by assumption)))))
          (first | (go_at_call 96; (with_reducible refine (HR0.out i hlt _ (below_tr S3.out.2 (by repeat (first | (with_reducible exact Below.refl _ _) | (with_reducible refine below_dr ?_) | (with_reducible refine below_tr ?_ (by assumption)))))).mono ?_); rintro e x0 ⟨rfl, hx0⟩) | (go_at_call 96; (with_reducible refine (HR1.out i hlt _ (below_tr S3.out.2 (by repeat (first | (with_reducible exact Below.refl _ _) | (with_reducible refine below_dr ?_) | (with_reducible refine below_tr ?_ (by assumption)))))).mono ?_); rintro e x1 ⟨rfl, hx1⟩))
        have E9 := below_tr (below_tr (below_dr (Below.refl w3.heap.size w3)) hx0) hx1
        have S9 := Lib.hid (And.intro (S3.out.1.below E9) (below_tr S3.out.2 E9))
        clear t0 t1 b0 b1 hx0 hx1 E9 S3 KB
        go_wp2_with fail
        go_ret
        exact ⟨ret_b (qfB_no HS.out).symm, S9.out.2⟩
    · have hkz : ¬ (i : Int) < 4 := by omega
      obtain rfl : i = 4 := by omega
      go_wp2_with fail
      go_ret
      exact ⟨ret_b (qfB_yes hH.out).symm, hS.out.2⟩



set_option maxHeartbeats 4000000 in
theorem for1 (wh : Int) (v : Value) (xss : List (List Int)) (w : World) (h : IRows w v xss) (hok : okTrio wh xss) :
    Calls Try.prog 57 #[.agg #[.int .i64 wh, v], .int .i64 1] w fun e w' => e = .returned (.bool (qfB xss 1)) ∧ Below w.heap.size w w' := by
  obtain ⟨va, vn, vc, rfl⟩ := h.shape
  have HR0 := Lib.hid (fun (i : Nat) (hi : i < 4) (W : World) (hW : Below w.heap.size w W) => (show Calls Try.prog 96 #[.agg #[.int .i64 wh, .slice va vn vc], .int .i64 1, .int .i64 0, .agg #[.int .i64 ((i : Int) / 2 % 2), .int .i64 ((i : Int) % 2)]] W fun e w' => e = .returned (.agg #[.int .i64 (oth xss 1 (ins 1 0 i) 0), .int .i64 (oth xss 1 (ins 1 0 i) 1), .int .i64 (oth xss 1 (ins 1 0 i) 2), .int .i64 (oth xss 1 (ins 1 0 i) 3)]) ∧ Below W.heap.size W w' from
    tro.row1 wh _ xss 0 ((i : Int) / 2 % 2) ((i : Int) % 2) (ins 1 0 i) W (h.below hW) hok (by omega) (by omega) (by omega) (by simp [ins]; omega)))
  have HR1 := Lib.hid (fun (i : Nat) (hi : i < 4) (W : World) (hW : Below w.heap.size w W) => (show Calls Try.prog 96 #[.agg #[.int .i64 wh, .slice va vn vc], .int .i64 1, .int .i64 1, .agg #[.int .i64 ((i : Int) / 2 % 2), .int .i64 ((i : Int) % 2)]] W fun e w' => e = .returned (.agg #[.int .i64 (oth xss 1 (ins 1 1 i) 0), .int .i64 (oth xss 1 (ins 1 1 i) 1), .int .i64 (oth xss 1 (ins 1 1 i) 2), .int .i64 (oth xss 1 (ins 1 1 i) 3)]) ∧ Below W.heap.size W w' from
    tro.row1 wh _ xss 1 ((i : Int) / 2 % 2) ((i : Int) % 2) (ins 1 1 i) W (h.below hW) hok (by omega) (by omega) (by omega) (by simp [ins]; omega)))
  clear h hok
  obtain ⟨W0, hW0⟩ : ∃ W, W = w.alloc (.cells #[.int .i64 wh, .slice va vn vc] 27) := ⟨_, rfl⟩
  have H0 : Hid (Blk W0 w.heap.size 27 #[.int .i64 wh, .slice va vn vc] ∧ Below w.heap.size w W0) := Lib.hid (by rw [hW0]; exact ⟨Blk.new _ _ _, below_al (Below.refl _ _) _⟩)
  go_enter Try.func57, Try.ntmps57
  go_wp2_with fail
  rw [← hW0]
  clear hW0
  go_loopw [4, 5, 6, 7] (fun q a b s wr => (∃ z, a = z) ∧ (∃ z, b = z) ∧ q = .bool false ∧ ∃ i : Nat, i ≤ 4 ∧ s = .int .i64 i ∧ Hid (∀ k, k < i → same xss 1 k) ∧ Hid (Blk wr w.heap.size 27 #[.int .i64 wh, .slice va vn vc] ∧ Below w.heap.size w wr)) (fun _ _ _ s _ => 4 - (intOf s).toNat)
  case atStart => exact ⟨⟨_, rfl⟩, ⟨_, rfl⟩, rfl, 0, by omega, rfl, Lib.hid (fun k hk => absurd hk (Nat.not_lt_zero _)), H0⟩
  case round =>
    obtain ⟨⟨za, rfl⟩, ⟨zb, rfl⟩, rfl, i, hi, rfl, hH, hS⟩ := hrel
    clear H0
    obtain ⟨wo, rfl⟩ : ∃ wo : World, wo = wr := ⟨_, rfl⟩
    by_cases hlt : i < 4
    · have hkz : (i : Int) < 4 := by omega
      have HA := Lib.hid (at2 i hlt wo)
      go_wp2_with fail
      refine HA.out.mono ?_
      rintro e w2 ⟨rfl, hb⟩
      have S2 := Lib.hid (And.intro (hS.out.1.below hb) (below_tr hS.out.2 hb))
      unfold tw b2
      clear hS HA hb
      by_cases hs : same xss 1 i
      · have dk := same_and.2 hs
        have HS := Lib.hid hs
        clear hs
        go_wp2_with fail
        have al := below_al (Below.refl w2.heap.size w2) (.cells #[.int .i64 ((i : Int) / 2 % 2), .int .i64 ((i : Int) % 2)] 95)
        have S3 := Lib.hid (And.intro (S2.out.1.below al) (below_tr S2.out.2 al))
        have KB := Lib.hid (Blk.new w2 95 #[.int .i64 ((i : Int) / 2 % 2), .int .i64 ((i : Int) % 2)])
        generalize (w2.alloc (.cells #[.int .i64 ((i : Int) / 2 % 2), .int .i64 ((i : Int) % 2)] 95)) = w3 at *
        generalize w2.heap.size = gb at *
        clear al
        obtain ⟨t0, t1, _⟩ := two_cells S3.out.1
        obtain ⟨b0, b1, _⟩ := two_cells KB.out
        go_region_held3 (fun w' => w'.cell? ⟨w.heap.size, 0, none⟩ = some (.int .i64 wh) ∧ w'.cell? ⟨w.heap.size, 1, none⟩ = some (.slice va vn vc) ∧ w'.cell? ⟨gb, 0, none⟩ = some (.int .i64 ((i : Int) / 2 % 2)) ∧ w'.cell? ⟨gb, 1, none⟩ = some (.int .i64 ((i : Int) % 2)) ∧ Below w3.heap.size w3 w')
          ((refine held4 t0 t1 b0 b1 ?_; repeat (first | (with_reducible exact Below.refl _ _) | (with_reducible refine below_dr ?_) | (with_reducible refine below_tr ?_ (by assumption)))))
          (first | (go_at_call 96; (with_reducible refine (HR0.out i hlt _ (below_tr S3.out.2 (by repeat (first | (with_reducible exact Below.refl _ _) | (with_reducible refine below_dr ?_) | (with_reducible refine below_tr ?_ (by assumption)))))).mono ?_); rintro e x0 ⟨rfl, hx0⟩) | (go_at_call 96; (with_reducible refine (HR1.out i hlt _ (below_tr S3.out.2 (by repeat (first | (with_reducible exact Below.refl _ _) | (with_reducible refine below_dr ?_) | (with_reducible refine below_tr ?_ (by assumption)))))).mono ?_); rintro e x1 ⟨rfl, hx1⟩))
        have E9 := below_tr (below_tr (below_dr (Below.refl w3.heap.size w3)) hx0) hx1
        have S9 := Lib.hid (And.intro (S3.out.1.below E9) (below_tr S3.out.2 E9))
        clear t0 t1 b0 b1 hx0 hx1 E9 S3 KB
        go_wp2_with fail
        go_roundw
        case rel => exact ⟨⟨_, rfl⟩, ⟨_, rfl⟩, rfl, i + 1, by omega, by go_num, Lib.hid (fun k hk => by
          by_cases e : k = i
          · subst e; exact HS.out
          · exact hH.out k (by omega)), S9⟩
        case measure => simp [intOf]; omega
      · have dk := Bool.eq_false_iff.2 (fun h => hs (same_and.1 h))
        have HS : Hid (¬ quietFor xss 1) := Lib.hid (fun h => hs (h i hlt))
        clear hs
        go_wp2_with fail
        have al := below_al (Below.refl w2.heap.size w2) (.cells #[.int .i64 ((i : Int) / 2 % 2), .int .i64 ((i : Int) % 2)] 95)
        have S3 := Lib.hid (And.intro (S2.out.1.below al) (below_tr S2.out.2 al))
        have KB := Lib.hid (Blk.new w2 95 #[.int .i64 ((i : Int) / 2 % 2), .int .i64 ((i : Int) % 2)])
        generalize (w2.alloc (.cells #[.int .i64 ((i : Int) / 2 % 2), .int .i64 ((i : Int) % 2)] 95)) = w3 at *
        generalize w2.heap.size = gb at *
        clear al
        obtain ⟨t0, t1, _⟩ := two_cells S3.out.1
        obtain ⟨b0, b1, _⟩ := two_cells KB.out
        go_region_held3 (fun w' => w'.cell? ⟨w.heap.size, 0, none⟩ = some (.int .i64 wh) ∧ w'.cell? ⟨w.heap.size, 1, none⟩ = some (.slice va vn vc) ∧ w'.cell? ⟨gb, 0, none⟩ = some (.int .i64 ((i : Int) / 2 % 2)) ∧ w'.cell? ⟨gb, 1, none⟩ = some (.int .i64 ((i : Int) % 2)) ∧ Below w3.heap.size w3 w')
          ((refine held4 t0 t1 b0 b1 ?_; repeat (first | (with_reducible exact Below.refl _ _) | (with_reducible refine below_dr ?_) | (with_reducible refine below_tr ?_ (by assumption)))))
          (first | (go_at_call 96; (with_reducible refine (HR0.out i hlt _ (below_tr S3.out.2 (by repeat (first | (with_reducible exact Below.refl _ _) | (with_reducible refine below_dr ?_) | (with_reducible refine below_tr ?_ (by assumption)))))).mono ?_); rintro e x0 ⟨rfl, hx0⟩) | (go_at_call 96; (with_reducible refine (HR1.out i hlt _ (below_tr S3.out.2 (by repeat (first | (with_reducible exact Below.refl _ _) | (with_reducible refine below_dr ?_) | (with_reducible refine below_tr ?_ (by assumption)))))).mono ?_); rintro e x1 ⟨rfl, hx1⟩))
        have E9 := below_tr (below_tr (below_dr (Below.refl w3.heap.size w3)) hx0) hx1
        have S9 := Lib.hid (And.intro (S3.out.1.below E9) (below_tr S3.out.2 E9))
        clear t0 t1 b0 b1 hx0 hx1 E9 S3 KB
        go_wp2_with fail
        go_ret
        exact ⟨ret_b (qfB_no HS.out).symm, S9.out.2⟩
    · have hkz : ¬ (i : Int) < 4 := by omega
      obtain rfl : i = 4 := by omega
      go_wp2_with fail
      go_ret
      exact ⟨ret_b (qfB_yes hH.out).symm, hS.out.2⟩



set_option maxHeartbeats 4000000 in
theorem for2 (wh : Int) (v : Value) (xss : List (List Int)) (w : World) (h : IRows w v xss) (hok : okTrio wh xss) :
    Calls Try.prog 57 #[.agg #[.int .i64 wh, v], .int .i64 2] w fun e w' => e = .returned (.bool (qfB xss 2)) ∧ Below w.heap.size w w' := by
  obtain ⟨va, vn, vc, rfl⟩ := h.shape
  have HR0 := Lib.hid (fun (i : Nat) (hi : i < 4) (W : World) (hW : Below w.heap.size w W) => (show Calls Try.prog 96 #[.agg #[.int .i64 wh, .slice va vn vc], .int .i64 2, .int .i64 0, .agg #[.int .i64 ((i : Int) / 2 % 2), .int .i64 ((i : Int) % 2)]] W fun e w' => e = .returned (.agg #[.int .i64 (oth xss 2 (ins 2 0 i) 0), .int .i64 (oth xss 2 (ins 2 0 i) 1), .int .i64 (oth xss 2 (ins 2 0 i) 2), .int .i64 (oth xss 2 (ins 2 0 i) 3)]) ∧ Below W.heap.size W w' from
    tro.row2 wh _ xss 0 ((i : Int) / 2 % 2) ((i : Int) % 2) (ins 2 0 i) W (h.below hW) hok (by omega) (by omega) (by omega) (by simp [ins]; omega)))
  have HR1 := Lib.hid (fun (i : Nat) (hi : i < 4) (W : World) (hW : Below w.heap.size w W) => (show Calls Try.prog 96 #[.agg #[.int .i64 wh, .slice va vn vc], .int .i64 2, .int .i64 1, .agg #[.int .i64 ((i : Int) / 2 % 2), .int .i64 ((i : Int) % 2)]] W fun e w' => e = .returned (.agg #[.int .i64 (oth xss 2 (ins 2 1 i) 0), .int .i64 (oth xss 2 (ins 2 1 i) 1), .int .i64 (oth xss 2 (ins 2 1 i) 2), .int .i64 (oth xss 2 (ins 2 1 i) 3)]) ∧ Below W.heap.size W w' from
    tro.row2 wh _ xss 1 ((i : Int) / 2 % 2) ((i : Int) % 2) (ins 2 1 i) W (h.below hW) hok (by omega) (by omega) (by omega) (by simp [ins]; omega)))
  clear h hok
  obtain ⟨W0, hW0⟩ : ∃ W, W = w.alloc (.cells #[.int .i64 wh, .slice va vn vc] 27) := ⟨_, rfl⟩
  have H0 : Hid (Blk W0 w.heap.size 27 #[.int .i64 wh, .slice va vn vc] ∧ Below w.heap.size w W0) := Lib.hid (by rw [hW0]; exact ⟨Blk.new _ _ _, below_al (Below.refl _ _) _⟩)
  go_enter Try.func57, Try.ntmps57
  go_wp2_with fail
  rw [← hW0]
  clear hW0
  go_loopw [4, 5, 6, 7] (fun q a b s wr => (∃ z, a = z) ∧ (∃ z, b = z) ∧ q = .bool false ∧ ∃ i : Nat, i ≤ 4 ∧ s = .int .i64 i ∧ Hid (∀ k, k < i → same xss 2 k) ∧ Hid (Blk wr w.heap.size 27 #[.int .i64 wh, .slice va vn vc] ∧ Below w.heap.size w wr)) (fun _ _ _ s _ => 4 - (intOf s).toNat)
  case atStart => exact ⟨⟨_, rfl⟩, ⟨_, rfl⟩, rfl, 0, by omega, rfl, Lib.hid (fun k hk => absurd hk (Nat.not_lt_zero _)), H0⟩
  case round =>
    obtain ⟨⟨za, rfl⟩, ⟨zb, rfl⟩, rfl, i, hi, rfl, hH, hS⟩ := hrel
    clear H0
    obtain ⟨wo, rfl⟩ : ∃ wo : World, wo = wr := ⟨_, rfl⟩
    by_cases hlt : i < 4
    · have hkz : (i : Int) < 4 := by omega
      have HA := Lib.hid (at2 i hlt wo)
      go_wp2_with fail
      refine HA.out.mono ?_
      rintro e w2 ⟨rfl, hb⟩
      have S2 := Lib.hid (And.intro (hS.out.1.below hb) (below_tr hS.out.2 hb))
      unfold tw b2
      clear hS HA hb
      by_cases hs : same xss 2 i
      · have dk := same_and.2 hs
        have HS := Lib.hid hs
        clear hs
        go_wp2_with fail
        have al := below_al (Below.refl w2.heap.size w2) (.cells #[.int .i64 ((i : Int) / 2 % 2), .int .i64 ((i : Int) % 2)] 95)
        have S3 := Lib.hid (And.intro (S2.out.1.below al) (below_tr S2.out.2 al))
        have KB := Lib.hid (Blk.new w2 95 #[.int .i64 ((i : Int) / 2 % 2), .int .i64 ((i : Int) % 2)])
        generalize (w2.alloc (.cells #[.int .i64 ((i : Int) / 2 % 2), .int .i64 ((i : Int) % 2)] 95)) = w3 at *
        generalize w2.heap.size = gb at *
        clear al
        obtain ⟨t0, t1, _⟩ := two_cells S3.out.1
        obtain ⟨b0, b1, _⟩ := two_cells KB.out
        go_region_held3 (fun w' => w'.cell? ⟨w.heap.size, 0, none⟩ = some (.int .i64 wh) ∧ w'.cell? ⟨w.heap.size, 1, none⟩ = some (.slice va vn vc) ∧ w'.cell? ⟨gb, 0, none⟩ = some (.int .i64 ((i : Int) / 2 % 2)) ∧ w'.cell? ⟨gb, 1, none⟩ = some (.int .i64 ((i : Int) % 2)) ∧ Below w3.heap.size w3 w')
          ((refine held4 t0 t1 b0 b1 ?_; repeat (first | (with_reducible exact Below.refl _ _) | (with_reducible refine below_dr ?_) | (with_reducible refine below_tr ?_ (by assumption)))))
          (first | (go_at_call 96; (with_reducible refine (HR0.out i hlt _ (below_tr S3.out.2 (by repeat (first | (with_reducible exact Below.refl _ _) | (with_reducible refine below_dr ?_) | (with_reducible refine below_tr ?_ (by assumption)))))).mono ?_); rintro e x0 ⟨rfl, hx0⟩) | (go_at_call 96; (with_reducible refine (HR1.out i hlt _ (below_tr S3.out.2 (by repeat (first | (with_reducible exact Below.refl _ _) | (with_reducible refine below_dr ?_) | (with_reducible refine below_tr ?_ (by assumption)))))).mono ?_); rintro e x1 ⟨rfl, hx1⟩))
        have E9 := below_tr (below_tr (below_dr (Below.refl w3.heap.size w3)) hx0) hx1
        have S9 := Lib.hid (And.intro (S3.out.1.below E9) (below_tr S3.out.2 E9))
        clear t0 t1 b0 b1 hx0 hx1 E9 S3 KB
        go_wp2_with fail
        go_roundw
        case rel => exact ⟨⟨_, rfl⟩, ⟨_, rfl⟩, rfl, i + 1, by omega, by go_num, Lib.hid (fun k hk => by
          by_cases e : k = i
          · subst e; exact HS.out
          · exact hH.out k (by omega)), S9⟩
        case measure => simp [intOf]; omega
      · have dk := Bool.eq_false_iff.2 (fun h => hs (same_and.1 h))
        have HS : Hid (¬ quietFor xss 2) := Lib.hid (fun h => hs (h i hlt))
        clear hs
        go_wp2_with fail
        have al := below_al (Below.refl w2.heap.size w2) (.cells #[.int .i64 ((i : Int) / 2 % 2), .int .i64 ((i : Int) % 2)] 95)
        have S3 := Lib.hid (And.intro (S2.out.1.below al) (below_tr S2.out.2 al))
        have KB := Lib.hid (Blk.new w2 95 #[.int .i64 ((i : Int) / 2 % 2), .int .i64 ((i : Int) % 2)])
        generalize (w2.alloc (.cells #[.int .i64 ((i : Int) / 2 % 2), .int .i64 ((i : Int) % 2)] 95)) = w3 at *
        generalize w2.heap.size = gb at *
        clear al
        obtain ⟨t0, t1, _⟩ := two_cells S3.out.1
        obtain ⟨b0, b1, _⟩ := two_cells KB.out
        go_region_held3 (fun w' => w'.cell? ⟨w.heap.size, 0, none⟩ = some (.int .i64 wh) ∧ w'.cell? ⟨w.heap.size, 1, none⟩ = some (.slice va vn vc) ∧ w'.cell? ⟨gb, 0, none⟩ = some (.int .i64 ((i : Int) / 2 % 2)) ∧ w'.cell? ⟨gb, 1, none⟩ = some (.int .i64 ((i : Int) % 2)) ∧ Below w3.heap.size w3 w')
          ((refine held4 t0 t1 b0 b1 ?_; repeat (first | (with_reducible exact Below.refl _ _) | (with_reducible refine below_dr ?_) | (with_reducible refine below_tr ?_ (by assumption)))))
          (first | (go_at_call 96; (with_reducible refine (HR0.out i hlt _ (below_tr S3.out.2 (by repeat (first | (with_reducible exact Below.refl _ _) | (with_reducible refine below_dr ?_) | (with_reducible refine below_tr ?_ (by assumption)))))).mono ?_); rintro e x0 ⟨rfl, hx0⟩) | (go_at_call 96; (with_reducible refine (HR1.out i hlt _ (below_tr S3.out.2 (by repeat (first | (with_reducible exact Below.refl _ _) | (with_reducible refine below_dr ?_) | (with_reducible refine below_tr ?_ (by assumption)))))).mono ?_); rintro e x1 ⟨rfl, hx1⟩))
        have E9 := below_tr (below_tr (below_dr (Below.refl w3.heap.size w3)) hx0) hx1
        have S9 := Lib.hid (And.intro (S3.out.1.below E9) (below_tr S3.out.2 E9))
        clear t0 t1 b0 b1 hx0 hx1 E9 S3 KB
        go_wp2_with fail
        go_ret
        exact ⟨ret_b (qfB_no HS.out).symm, S9.out.2⟩
    · have hkz : ¬ (i : Int) < 4 := by omega
      obtain rfl : i = 4 := by omega
      go_wp2_with fail
      go_ret
      exact ⟨ret_b (qfB_yes hH.out).symm, hS.out.2⟩



theorem for_any (wh : Int) (v : Value) (xss : List (List Int)) (p : Nat) (hp : p < 3) (w : World) (h : IRows w v xss) (hok : okTrio wh xss) :
    Calls Try.prog 57 #[.agg #[.int .i64 wh, v], .int .i64 (p : Int)] w fun e w' => e = .returned (.bool (qfB xss p)) ∧ Below w.heap.size w w' := by
  obtain rfl | rfl | rfl : p = 0 ∨ p = 1 ∨ p = 2 := by omega
  · exact for0 wh v xss w h hok
  · exact for1 wh v xss w h hok
  · exact for2 wh v xss w h hok
open Classical in
/-- what IsQuietTrio answers -/
noncomputable def resQ (wh : Int) (xss : List (List Int)) : Bool × Bool := if okTrio wh xss then (quB xss, true) else (false, false)
theorem resQ_yes {wh : Int} {xss : List (List Int)} (h : okTrio wh xss) : resQ wh xss = (quB xss, true) := if_pos h
theorem resQ_no {wh : Int} {xss : List (List Int)} (h : ¬ okTrio wh xss) : resQ wh xss = (false, false) := if_neg h
set_option maxHeartbeats 4000000 in
theorem impl_any (wh : Int) (v : Value) (xss : List (List Int)) (w : World) (h : IRows w v xss) (hn : total xss ≤ 1048576) :
    Calls Try.prog 21 #[.agg #[.int .i64 wh, v]] w fun e w' => e = .returned (.tuple #[.bool (resQ wh xss).1, .bool (resQ wh xss).2]) ∧ Below w.heap.size w w' := by
  obtain ⟨va, vn, vc, rfl⟩ := h.shape
  have al := below_al (Below.refl w.heap.size w) (.cells #[.int .i64 wh, .slice va vn vc] 27)
  have HB0 := Lib.hid (Blk.new w 27 #[.int .i64 wh, .slice va vn vc])
  obtain ⟨W0, hW0⟩ : ∃ W, W = w.alloc (.cells #[.int .i64 wh, .slice va vn vc] 27) := ⟨_, rfl⟩
  rw [← hW0] at al HB0
  have AL := Lib.hid al
  have HT := trv.impl_any wh _ xss W0 (h.below al) hn
  clear al
  obtain ⟨c0, c1, _⟩ := two_cells HB0.out
  rw [hW0] at c0 c1
  by_cases hok : okTrio wh xss
  · rw [trioB_yes hok] at HT
    have HT' := Lib.hid HT
    rw [resQ_yes hok]
    have HF := Lib.hid (fun (p : Nat) (hp : p < 3) (W : World) (hb : Below w.heap.size w W) => for_any wh _ xss p hp W (h.below hb) hok)
    clear HT h hok
    go_enter Try.func21, Try.ntmps21
    go_wp2_with fail
    rw [← hW0]
    clear c0 c1 hW0
    refine HT'.out.mono ?_
    rintro e w1 ⟨rfl, hb⟩
    have H1 : Hid (Blk w1 w.heap.size 27 #[.int .i64 wh, .slice va vn vc] ∧ Below w.heap.size w w1) := Lib.hid ⟨HB0.out.below hb, below_tr AL.out hb⟩
    clear HT' hb AL HB0
    go_wp2_with fail
    go_loopw [2, 3, 4, 8] (fun q r a s wr => (∃ z, a = z) ∧ q = .bool false ∧ r = .bool false ∧ ∃ p : Nat, p ≤ 3 ∧ s = .int .i64 p ∧ Hid (∀ k, k < p → quietFor xss k) ∧ Hid (Blk wr w.heap.size 27 #[.int .i64 wh, .slice va vn vc] ∧ Below w.heap.size w wr)) (fun _ _ _ s _ => 3 - (intOf s).toNat)
    case atStart => exact ⟨⟨_, rfl⟩, rfl, rfl, 0, by omega, rfl, Lib.hid (fun k hk => absurd hk (Nat.not_lt_zero _)), H1⟩
    case round =>
      obtain ⟨⟨za, rfl⟩, rfl, rfl, p, hp, rfl, hH, hS⟩ := hrel
      clear H1
      obtain ⟨wo, rfl⟩ : ∃ wo : World, wo = wr := ⟨_, rfl⟩
      by_cases hlt : p < 3
      · have hkz : (p : Int) < 3 := by omega
        have HA := HF.out p hlt wo hS.out.2
        obtain ⟨c0, c1, _⟩ := two_cells hS.out.1
        by_cases hq : quietFor xss p
        · rw [qfB_yes hq] at HA
          have HA' := Lib.hid HA
          have HQ := Lib.hid hq
          clear HA hq
          go_wp2_with fail
          refine HA'.out.mono ?_
          rintro e w2 ⟨rfl, hb⟩
          have S2 := Lib.hid (And.intro (hS.out.1.below hb) (below_tr hS.out.2 hb))
          clear hb hS c0 c1 HA'
          go_wp2_with fail
          go_roundw
          case rel => exact ⟨⟨_, rfl⟩, rfl, rfl, p + 1, by omega, by go_num, Lib.hid (fun k hk => by
            by_cases e : k = p
            · subst e; exact HQ.out
            · exact hH.out k (by omega)), S2⟩
          case measure => simp [intOf]; omega
        · rw [qfB_no hq] at HA
          have HA' := Lib.hid HA
          have HQ : Hid (¬ quiet xss) := Lib.hid (fun h => hq (h p hlt))
          clear HA hq
          go_wp2_with fail
          refine HA'.out.mono ?_
          rintro e w2 ⟨rfl, hb⟩
          have S2 := Lib.hid (And.intro (hS.out.1.below hb) (below_tr hS.out.2 hb))
          clear hb hS c0 c1 HA'
          go_wp2_with fail
          refine bodyPost_ret (v := .tuple #[.bool false, .bool true]) (by simp [results, Try.results21, go_sem]) rfl ⟨by rw [quB_no HQ.out], S2.out.2⟩
      · have hkz : ¬ (p : Int) < 3 := by omega
        obtain rfl : p = 3 := by omega
        go_wp2_with fail
        refine bodyPost_ret (v := .tuple #[.bool true, .bool true]) (by simp [results, Try.results21, go_sem]) rfl ⟨by rw [quB_yes hH.out], hS.out.2⟩
  · rw [trioB_no hok] at HT
    have HT' := Lib.hid HT
    rw [resQ_no hok]
    clear HT h hok
    go_enter Try.func21, Try.ntmps21
    go_wp2_with fail
    rw [← hW0]
    clear c0 c1 hW0
    refine HT'.out.mono ?_
    rintro e w1 ⟨rfl, hb⟩
    go_wp2_with fail
    refine bodyPost_ret (v := .tuple #[.bool false, .bool false]) (by simp [results, Try.results21, go_sem]) rfl ⟨rfl, below_tr AL.out hb⟩


end Go.Proofs.Ytomofmmecpdalaa.trq
