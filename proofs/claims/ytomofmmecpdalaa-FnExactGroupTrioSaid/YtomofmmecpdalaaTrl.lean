/- IsQuietTrio of the model. -/
import Derived.Test.YtomofmmecpdalaaTrq
namespace Go.Proofs.Ytomofmmecpdalaa.trl
open Go.RowKit Go.Deep Go.Proofs.Ytomofmmecpdalaa.base
open Go.Proofs.Ytomofmmecpdalaa.rws (total)
open Go.Proofs.Ytomofmmecpdalaa.tri (two_cells)
open Go.Proofs.Ytomofmmecpdalaa.trn (tc tc_in forms shape_of)
open Go.Proofs.Ytomofmmecpdalaa.tro (ins oth)
open Go.Proofs.Ytomofmmecpdalaa.trq (same quietFor quiet quB quB_yes quB_no resQ resQ_yes resQ_no)
open Go.Proofs.Ytomofmmecpdalaa.trv (okTrio trioB trioB_yes trioB_no)
open Go.Proofs.Ytomofmmecpdalaa.val (ret_b)

/-- a cell of the rows is as quiet as the model asks -/
def cellD (xss : List (List Int)) (d q k : Nat) : Prop := q / d % 2 = 0 → k / d % 2 = 0 → tc xss q k + tc xss q (k + d) = tc xss (q + d) k + tc xss (q + d) (k + d)
def quietD (xss : List (List Int)) (d : Nat) : Prop := ∀ q, q < 8 → ∀ k, k < 8 → cellD xss d q k
theorem quiet_iff {xss : List (List Int)} : quiet xss ↔ quietD xss 1 ∧ quietD xss 2 ∧ quietD xss 4 := by
  have h4 : quietFor xss 0 ↔ quietD xss 4 := by
    constructor
    · intro h q hq k hk h1 h2
      have := h q (by omega) k (by omega)
      simp only [oth, ins, if_true] at this
      have e1 : 4 * 0 + q = q := by omega
      have e2 : 4 * 1 + q = q + 4 := by omega
      have e3 : 4 * 0 + k = k := by omega
      have e4 : 4 * 1 + k = k + 4 := by omega
      rw [e1, e2, e3, e4] at this
      exact this
    · intro h i hi j hj
      have := h i (by omega) j (by omega) (by omega) (by omega)
      simp only [oth, ins, if_true]
      have e1 : 4 * 0 + i = i := by omega
      have e2 : 4 * 1 + i = i + 4 := by omega
      have e3 : 4 * 0 + j = j := by omega
      have e4 : 4 * 1 + j = j + 4 := by omega
      rw [e1, e2, e3, e4]
      exact this
  have h2 : quietFor xss 1 ↔ quietD xss 2 := by
    constructor
    · intro h q hq k hk h1 h2
      have := h (2 * (q / 4) + q % 2) (by omega) (2 * (k / 4) + k % 2) (by omega)
      simp only [oth, ins, if_true, Nat.succ_ne_zero, if_false] at this
      have e1 : 4 * ((2 * (q / 4) + q % 2) / 2) + 2 * 0 + (2 * (q / 4) + q % 2) % 2 = q := by omega
      have e2 : 4 * ((2 * (q / 4) + q % 2) / 2) + 2 * 1 + (2 * (q / 4) + q % 2) % 2 = q + 2 := by omega
      have e3 : 4 * ((2 * (k / 4) + k % 2) / 2) + 2 * 0 + (2 * (k / 4) + k % 2) % 2 = k := by omega
      have e4 : 4 * ((2 * (k / 4) + k % 2) / 2) + 2 * 1 + (2 * (k / 4) + k % 2) % 2 = k + 2 := by omega
      rw [e1, e2, e3, e4] at this
      exact this
    · intro h i hi j hj
      have := h (4 * (i / 2) + i % 2) (by omega) (4 * (j / 2) + j % 2) (by omega) (by omega) (by omega)
      simp only [oth, ins, if_true, Nat.succ_ne_zero, if_false]
      have e1 : 4 * (i / 2) + 2 * 0 + i % 2 = 4 * (i / 2) + i % 2 := by omega
      have e2 : 4 * (i / 2) + 2 * 1 + i % 2 = 4 * (i / 2) + i % 2 + 2 := by omega
      have e3 : 4 * (j / 2) + 2 * 0 + j % 2 = 4 * (j / 2) + j % 2 := by omega
      have e4 : 4 * (j / 2) + 2 * 1 + j % 2 = 4 * (j / 2) + j % 2 + 2 := by omega
      rw [e1, e2, e3, e4]
      exact this
  have h1 : quietFor xss 2 ↔ quietD xss 1 := by
    constructor
    · intro h q hq k hk h1 h2
      have := h (q / 2) (by omega) (k / 2) (by omega)
      simp only [oth, ins, Nat.succ_ne_zero, if_false, show ¬ ((2 : Nat) = 1) from by decide] at this
      have e1 : 2 * (q / 2) + 0 = q := by omega
      have e2 : 2 * (q / 2) + 1 = q + 1 := by omega
      have e3 : 2 * (k / 2) + 0 = k := by omega
      have e4 : 2 * (k / 2) + 1 = k + 1 := by omega
      rw [e1, e2, e3, e4] at this
      exact this
    · intro h i hi j hj
      have := h (2 * i) (by omega) (2 * j) (by omega) (by omega) (by omega)
      simp only [oth, ins, Nat.succ_ne_zero, if_false, show ¬ ((2 : Nat) = 1) from by decide]
      have e1 : 2 * i + 0 = 2 * i := by omega
      have e3 : 2 * j + 0 = 2 * j := by omega
      rw [e1, e3]
      exact this
  constructor
  · intro h
    exact ⟨h1.1 (h 2 (by omega)), h2.1 (h 1 (by omega)), h4.1 (h 0 (by omega))⟩
  · rintro ⟨g1, g2, g4⟩ p hp
    obtain rfl | rfl | rfl : p = 0 ∨ p = 1 ∨ p = 2 := by omega
    · exact h4.2 g4
    · exact h2.2 g2
    · exact h1.2 g1
theorem and_bit {q d : Nat} (hq : q < 8) (hd : d = 1 ∨ d = 2 ∨ d = 4) : bits BinOp.and IntKind.i64 (q : Int) (d : Int) = ((q / d % 2 * d : Nat) : Int) := by
  have h : q = 0 ∨ q = 1 ∨ q = 2 ∨ q = 3 ∨ q = 4 ∨ q = 5 ∨ q = 6 ∨ q = 7 := by omega
  rcases hd with rfl | rfl | rfl <;> rcases h with rfl | rfl | rfl | rfl | rfl | rfl | rfl | rfl <;> rfl


set_option maxHeartbeats 8000000 in
theorem l11quiet (wh : Int) (v : Value) (xss : List (List Int)) (w : World) (h : IRows w v xss) (hok : okTrio wh xss) :
    Calls Try.prog 56 #[.agg #[.int .i64 wh, v]] w fun e w' => e = .returned (.bool (quB xss)) ∧ Below w.heap.size w w' := by
  obtain ⟨B, o, cap, rb, ro, rc, rfl, h1, h2⟩ := forms h (shape_of hok)
  have H1 := Lib.hid h1
  have H2 := Lib.hid h2
  have HI := Lib.hid (fun (q k : Nat) (hq : q < 8) (hk : k < 8) => tc_in hok hq hk)
  clear h h1 h2 hok
  obtain ⟨W0, hW0⟩ : ∃ W, W = w.alloc (.cells #[.int .i64 wh, .slice (some ⟨B, o, none⟩) 8 cap] 27) := ⟨_, rfl⟩
  have K0 : Hid (Blk W0 w.heap.size 27 #[.int .i64 wh, .slice (some ⟨B, o, none⟩) 8 cap] ∧ Below w.heap.size w W0) := Lib.hid (by rw [hW0]; exact ⟨Blk.new _ _ _, below_al (Below.refl _ _) _⟩)
  go_enter Try.func56, Try.ntmps56
  go_wp2_with fail
  rw [← hW0]
  clear hW0
  go_loopw [2, 3] (fun r s wr => r = .bool false ∧ ∃ d : Nat, (d = 1 ∨ d = 2 ∨ d = 4 ∨ d = 8) ∧ s = .int .i64 d ∧ Hid ((1 < d → quietD xss 1) ∧ (2 < d → quietD xss 2) ∧ (4 < d → quietD xss 4)) ∧ Hid (Blk wr w.heap.size 27 #[.int .i64 wh, .slice (some ⟨B, o, none⟩) 8 cap] ∧ Below w.heap.size w wr)) (fun _ s _ => 8 - (intOf s).toNat)
  case atStart => exact ⟨rfl, 1, .inl rfl, rfl, Lib.hid ⟨fun h => absurd h (by omega), fun h => absurd h (by omega), fun h => absurd h (by omega)⟩, K0⟩
  case round =>
    obtain ⟨rfl, d, hd, rfl, hD, hS⟩ := hrel
    clear K0
    obtain ⟨wd, rfl⟩ : ∃ wo : World, wo = wr := ⟨_, rfl⟩
    by_cases h8 : d < 8
    · have hd' : d = 1 ∨ d = 2 ∨ d = 4 := by omega
      have hkz : (d : Int) < 8 := by omega
      have hdl : (d : Int) ≤ 4 := by omega
      have HDD := Lib.hid hd'
      clear hd hd'
      go_wp2_with fail
      go_loopw [2, 4] (fun r s wr => r = .bool false ∧ ∃ q : Nat, q ≤ 8 ∧ s = .int .i64 q ∧ Hid (∀ q', q' < q → ∀ k, k < 8 → cellD xss d q' k) ∧ Hid (Blk wr w.heap.size 27 #[.int .i64 wh, .slice (some ⟨B, o, none⟩) 8 cap] ∧ Below w.heap.size w wr)) (fun _ s _ => 8 - (intOf s).toNat)
      case atStart => exact ⟨rfl, 0, by omega, rfl, Lib.hid (fun q' h => absurd h (Nat.not_lt_zero _)), hS⟩
      case round =>
        obtain ⟨rfl, q, hq, rfl, hQ, hS⟩ := hrel
        obtain ⟨wq, rfl⟩ : ∃ wo : World, wo = wr := ⟨_, rfl⟩
        by_cases hq8 : q < 8
        · have hqz : (q : Int) < 8 := by omega
          go_wp2_with fail
          go_loopw [2, 5] (fun r s wr => r = .bool false ∧ ∃ k : Nat, k ≤ 8 ∧ s = .int .i64 k ∧ Hid (∀ k', k' < k → cellD xss d q k') ∧ Hid (Blk wr w.heap.size 27 #[.int .i64 wh, .slice (some ⟨B, o, none⟩) 8 cap] ∧ Below w.heap.size w wr)) (fun _ s _ => 8 - (intOf s).toNat)
          case atStart => exact ⟨rfl, 0, by omega, rfl, Lib.hid (fun k' h => absurd h (Nat.not_lt_zero _)), hS⟩
          case round =>
            obtain ⟨rfl, k, hk, rfl, hK, hS⟩ := hrel
            obtain ⟨wk, rfl⟩ : ∃ wo : World, wo = wr := ⟨_, rfl⟩
            by_cases hk8 : k < 8
            · have hkz8 : (k : Int) < 8 := by omega
              have hb1 := and_bit hq8 HDD.out
              have hb2 := and_bit hk8 HDD.out
              by_cases hqd : q / d % 2 = 0
              · rw [hqd, Nat.zero_mul] at hb1
                by_cases hkd : k / d % 2 = 0
                · rw [hkd, Nat.zero_mul] at hb2
                  have hqd8 : q + d < 8 := by rcases HDD.out with rfl | rfl | rfl <;> omega
                  have hkd8 : k + d < 8 := by rcases HDD.out with rfl | rfl | rfl <;> omega
                  obtain ⟨qd, eqd⟩ : ∃ n, n = q + d := ⟨_, rfl⟩
                  obtain ⟨kd, ekd⟩ : ∃ n, n = k + d := ⟨_, rfl⟩
                  have hw1 : IntKind.i64.wrap ((q : Int) + (d : Int)) = (qd : Int) := by rw [IntWalk.i64_in _ (by omega)]; omega
                  have hw2 : IntKind.i64.wrap ((k : Int) + (d : Int)) = (kd : Int) := by rw [IntWalk.i64_in _ (by omega)]; omega
                  have hl1 : (qd : Int) < 8 := by omega
                  have hl2 : (kd : Int) < 8 := by omega
                  have x1 := below_cell hS.out.2 _ _ (H1.out q hq8)
                  have x2 := below_cell hS.out.2 _ _ (H1.out qd (by omega))
                  have y1 := below_cell hS.out.2 _ _ (H2.out q hq8 k hk8)
                  have y2 := below_cell hS.out.2 _ _ (H2.out q hq8 kd (by omega))
                  have y3 := below_cell hS.out.2 _ _ (H2.out qd (by omega) k hk8)
                  have y4 := below_cell hS.out.2 _ _ (H2.out qd (by omega) kd (by omega))
                  obtain ⟨a1, a2⟩ := HI.out q k hq8 hk8
                  obtain ⟨a3, a4⟩ := HI.out q kd hq8 (by omega)
                  obtain ⟨a5, a6⟩ := HI.out qd k (by omega) hk8
                  obtain ⟨a7, a8⟩ := HI.out qd kd (by omega) (by omega)
                  have hw3 : IntKind.i64.wrap (tc xss q k + tc xss q kd) = tc xss q k + tc xss q kd := IntWalk.i64_in _ (by omega)
                  have hw4 : IntKind.i64.wrap (tc xss qd k + tc xss qd kd) = tc xss qd k + tc xss qd kd := IntWalk.i64_in _ (by omega)
                  obtain ⟨t0, t1, _⟩ := two_cells hS.out.1
                  have HE := Lib.hid (And.intro eqd ekd)
                  have HB := Lib.hid (And.intro hqd hkd)
                  by_cases hs : tc xss q k + tc xss q kd = tc xss qd k + tc xss qd kd
                  · have dk : (tc xss q k + tc xss q kd != tc xss qd k + tc xss qd kd) = false := by simp [hs]
                    have HC : Hid (cellD xss d q k) := Lib.hid (fun _ _ => by rw [← eqd, ← ekd]; exact hs)
                    clear hs a1 a2 a3 a4 a5 a6 a7 a8 eqd ekd hqd8 hkd8 hqd hkd
                    go_wp2_with fail
                    go_region_held3 (fun w' => w'.cell? ⟨w.heap.size, 1, none⟩ = some (.slice (some ⟨B, o, none⟩) 8 cap) ∧ w'.cell? ⟨B, o + q, none⟩ = some (.slice (some ⟨rb q, ro q, none⟩) 8 (rc q)) ∧ w'.cell? ⟨B, o + qd, none⟩ = some (.slice (some ⟨rb qd, ro qd, none⟩) 8 (rc qd)) ∧ w'.cell? ⟨rb q, ro q + k, none⟩ = some (.int .i64 (tc xss q k)) ∧ w'.cell? ⟨rb q, ro q + kd, none⟩ = some (.int .i64 (tc xss q kd)) ∧ w'.cell? ⟨rb qd, ro qd + k, none⟩ = some (.int .i64 (tc xss qd k)) ∧ w'.cell? ⟨rb qd, ro qd + kd, none⟩ = some (.int .i64 (tc xss qd kd)) ∧ Below wk.heap.size wk w')
                      ((refine hld.held7 rfl t1 x1 x2 y1 y2 y3 y4 ?_; repeat (first | (with_reducible exact Below.refl _ _) | (with_reducible refine below_dr ?_))))
                      (fail)
                    go_wp2_with fail
                    go_roundw
                    case rel => exact ⟨rfl, k + 1, by omega, by go_num, Lib.hid (fun k' hk' => by
                      by_cases e : k' = k
                      · subst e; exact HC.out
                      · exact hK.out k' (by omega)), Lib.hid ⟨hS.out.1, hS.out.2.drew⟩⟩
                    case measure => simp [intOf]; omega
                  · have dk : (tc xss q k + tc xss q kd != tc xss qd k + tc xss qd kd) = true := by simp [hs]
                    have HC : Hid (¬ quiet xss) := Lib.hid (fun h => by
                      obtain ⟨g1, g2, g4⟩ := quiet_iff.1 h
                      apply hs
                      rw [eqd, ekd]
                      rcases HDD.out with rfl | rfl | rfl
                      · exact g1 q hq8 k hk8 hqd hkd
                      · exact g2 q hq8 k hk8 hqd hkd
                      · exact g4 q hq8 k hk8 hqd hkd)
                    clear hs a1 a2 a3 a4 a5 a6 a7 a8 eqd ekd hqd8 hkd8 hqd hkd
                    go_wp2_with fail
                    go_region_held3 (fun w' => w'.cell? ⟨w.heap.size, 1, none⟩ = some (.slice (some ⟨B, o, none⟩) 8 cap) ∧ w'.cell? ⟨B, o + q, none⟩ = some (.slice (some ⟨rb q, ro q, none⟩) 8 (rc q)) ∧ w'.cell? ⟨B, o + qd, none⟩ = some (.slice (some ⟨rb qd, ro qd, none⟩) 8 (rc qd)) ∧ w'.cell? ⟨rb q, ro q + k, none⟩ = some (.int .i64 (tc xss q k)) ∧ w'.cell? ⟨rb q, ro q + kd, none⟩ = some (.int .i64 (tc xss q kd)) ∧ w'.cell? ⟨rb qd, ro qd + k, none⟩ = some (.int .i64 (tc xss qd k)) ∧ w'.cell? ⟨rb qd, ro qd + kd, none⟩ = some (.int .i64 (tc xss qd kd)) ∧ Below wk.heap.size wk w')
                      ((refine hld.held7 rfl t1 x1 x2 y1 y2 y3 y4 ?_; repeat (first | (with_reducible exact Below.refl _ _) | (with_reducible refine below_dr ?_))))
                      (fail)
                    go_wp2_with fail
                    go_ret
                    exact ⟨ret_b (quB_no HC.out).symm, hS.out.2.drew⟩
                · have dne : (((k / d % 2 * d : Nat) : Int) != 0) = true := by
                    have : k / d % 2 = 1 := by omega
                    rw [this, Nat.one_mul]
                    rcases HDD.out with rfl | rfl | rfl <;> rfl
                  generalize ((k / d % 2 * d : Nat) : Int) = bk at *
                  have HC : Hid (cellD xss d q k) := Lib.hid (fun _ h => absurd h hkd)
                  clear hqd hkd
                  go_wp2_with fail
                  go_roundw
                  case rel => exact ⟨rfl, k + 1, by omega, by go_num, Lib.hid (fun k' hk' => by
                    by_cases e : k' = k
                    · subst e; exact HC.out
                    · exact hK.out k' (by omega)), hS⟩
                  case measure => simp [intOf]; omega
              · have dne : (((q / d % 2 * d : Nat) : Int) != 0) = true := by
                  have : q / d % 2 = 1 := by omega
                  rw [this, Nat.one_mul]
                  rcases HDD.out with rfl | rfl | rfl <;> rfl
                generalize ((q / d % 2 * d : Nat) : Int) = bq at *
                have HC : Hid (cellD xss d q k) := Lib.hid (fun h _ => absurd h hqd)
                clear hqd hb2
                go_wp2_with fail
                go_roundw
                case rel => exact ⟨rfl, k + 1, by omega, by go_num, Lib.hid (fun k' hk' => by
                  by_cases e : k' = k
                  · subst e; exact HC.out
                  · exact hK.out k' (by omega)), hS⟩
                case measure => simp [intOf]; omega
            · have hkz8 : ¬ (k : Int) < 8 := by omega
              obtain rfl : k = 8 := by omega
              go_wp2_with fail
              go_roundw
              case rel => exact ⟨rfl, q + 1, by omega, by go_num, Lib.hid (fun q' hq' => by
                by_cases e : q' = q
                · subst e; exact hK.out
                · exact hQ.out q' (by omega)), hS⟩
              case measure => simp [intOf]; omega
        · have hqz : ¬ (q : Int) < 8 := by omega
          obtain rfl : q = 8 := by omega
          have hw5 : IntKind.i64.wrap ((d : Int) * 2) = ((d * 2 : Nat) : Int) := by rw [IntWalk.i64_in _ (by omega)]; omega
          have HN : Hid ((1 < d * 2 → quietD xss 1) ∧ (2 < d * 2 → quietD xss 2) ∧ (4 < d * 2 → quietD xss 4)) := Lib.hid (by
            have hq := hQ.out
            rcases HDD.out with rfl | rfl | rfl
            · exact ⟨fun _ => hq, fun h => absurd h (by omega), fun h => absurd h (by omega)⟩
            · exact ⟨fun _ => hD.out.1 (by omega), fun _ => hq, fun h => absurd h (by omega)⟩
            · exact ⟨fun _ => hD.out.1 (by omega), fun _ => hD.out.2.1 (by omega), fun _ => hq⟩)
          go_wp2_with fail
          go_roundw
          case rel => exact ⟨rfl, d * 2, by have := HDD.out; omega, by first | rfl | go_num, HN, hS⟩
          case measure => simp [intOf]; have := HDD.out; omega
    · have hkz : ¬ (d : Int) < 8 := by omega
      obtain rfl : d = 8 := by omega
      have HQ : Hid (quiet xss) := Lib.hid (quiet_iff.2 ⟨hD.out.1 (by omega), hD.out.2.1 (by omega), hD.out.2.2 (by omega)⟩)
      go_wp2_with fail
      go_ret
      exact ⟨ret_b (quB_yes HQ.out).symm, hS.out.2⟩



set_option maxHeartbeats 4000000 in
theorem spec_any (wh : Int) (v : Value) (xss : List (List Int)) (w : World) (h : IRows w v xss) (hn : total xss ≤ 1048576) :
    Calls Try.prog 20 #[.agg #[.int .i64 wh, v]] w fun e w' => e = .returned (.tuple #[.bool (resQ wh xss).1, .bool (resQ wh xss).2]) ∧ Below w.heap.size w w' := by
  obtain ⟨va, vn, vc, rfl⟩ := h.shape
  have al := below_al (Below.refl w.heap.size w) (.cells #[.int .i64 wh, .slice va vn vc] 27)
  have HB0 := Lib.hid (Blk.new w 27 #[.int .i64 wh, .slice va vn vc])
  obtain ⟨W0, hW0⟩ : ∃ W, W = w.alloc (.cells #[.int .i64 wh, .slice va vn vc] 27) := ⟨_, rfl⟩
  rw [← hW0] at al HB0
  have AL := Lib.hid al
  have HT := trv.spec_any wh _ xss W0 (h.below al) hn
  clear al
  obtain ⟨c0, c1, _⟩ := two_cells HB0.out
  rw [hW0] at c0 c1
  by_cases hok : okTrio wh xss
  · rw [trioB_yes hok] at HT
    have HT' := Lib.hid HT
    rw [resQ_yes hok]
    have HF := Lib.hid (fun (W : World) (hb : Below w.heap.size w W) => l11quiet wh _ xss W (h.below hb) hok)
    clear HT h hok
    go_enter Try.func20, Try.ntmps20
    go_wp2_with fail
    rw [← hW0]
    clear c0 c1 hW0
    refine HT'.out.mono ?_
    rintro e w1 ⟨rfl, hb⟩
    have H1 : Hid (Blk w1 w.heap.size 27 #[.int .i64 wh, .slice va vn vc] ∧ Below w.heap.size w w1) := Lib.hid ⟨HB0.out.below hb, below_tr AL.out hb⟩
    clear HT' hb AL HB0
    obtain ⟨c0, c1, _⟩ := two_cells H1.out.1
    go_wp2_with fail
    refine (HF.out _ H1.out.2).mono ?_
    rintro e w2 ⟨rfl, hb⟩
    go_wp2_with fail
    refine bodyPost_ret (v := .tuple #[.bool (quB xss), .bool true]) (by simp [results, Try.results20, go_sem]) rfl ⟨rfl, below_tr H1.out.2 hb⟩
  · rw [trioB_no hok] at HT
    have HT' := Lib.hid HT
    rw [resQ_no hok]
    clear HT h hok
    go_enter Try.func20, Try.ntmps20
    go_wp2_with fail
    rw [← hW0]
    clear c0 c1 hW0
    refine HT'.out.mono ?_
    rintro e w1 ⟨rfl, hb⟩
    go_wp2_with fail
    refine bodyPost_ret (v := .tuple #[.bool false, .bool false]) (by simp [results, Try.results20, go_sem]) rfl ⟨rfl, below_tr AL.out hb⟩


end Go.Proofs.Ytomofmmecpdalaa.trl
