/- TrioValue: both sides. -/
import Derived.Test.YtomofmmecpdalaaTtf
import Derived.Test.YtomofmmecpdalaaTsu
import Derived.Test.YtomofmmecpdalaaPlg
import Derived.Test.YtomofmmecpdalaaLmm
namespace Go.Proofs.Ytomofmmecpdalaa.tvl
open Go.RowKit Go.Deep Go.Proofs.Ytomofmmecpdalaa.base
open Go.Proofs.Ytomofmmecpdalaa.ints (infoInt)
open Go.Proofs.Ytomofmmecpdalaa.trb (par)
open Go.Proofs.Ytomofmmecpdalaa.tsu (od)
open Go.Proofs.Ytomofmmecpdalaa.tto (at3z)
open Go.Proofs.Ytomofmmecpdalaa.ttf (pb sp sp_lt answers says)
open Go.Proofs.Ytomofmmecpdalaa.plays (bit at_ len_at)
open Go.Proofs.Ytomofmmecpdalaa.val (in_yes in_no)
open Go.Proofs.Ytomofmmecpdalaa.play (within withinB withinB_yes withinB_no)

/-- the greatest of the first n, at least 0 -/
def mx (g : Nat → Int) : Nat → Int
  | 0 => 0
  | n + 1 => if mx g n < g n then g n else mx g n
theorem mx_nn (g : Nat → Int) : ∀ n, 0 ≤ mx g n
  | 0 => Int.le_refl _
  | n + 1 => by have := mx_nn g n; unfold mx; split <;> omega
theorem mx_ge (g : Nat → Int) : ∀ n t, t < n → g t ≤ mx g n
  | 0, t, h => by omega
  | n + 1, t, h => by
    unfold mx
    by_cases e : t = n
    · subst e; split <;> omega
    · have := mx_ge g n t (by omega); split <;> omega
theorem mx_in (g : Nat → Int) : ∀ n, mx g n = 0 ∨ ∃ t, t < n ∧ mx g n = g t
  | 0 => .inl rfl
  | n + 1 => by
    unfold mx
    split
    · exact .inr ⟨n, by omega, rfl⟩
    · rcases mx_in g n with h | ⟨t, h1, h2⟩
      · exact .inl h
      · exact .inr ⟨t, by omega, h2⟩
theorem mx_le (g : Nat → Int) {B : Int} (hB : 0 ≤ B) : ∀ n, (∀ t, t < n → g t ≤ B) → mx g n ≤ B
  | 0, _ => hB
  | n + 1, h => by
    have h1 := mx_le g hB n (fun t ht => h t (by omega))
    have h2 := h n (by omega)
    unfold mx; split <;> omega
theorem mx_half {f g : Nat → Int} {n m : Nat} (h : ∀ p, p < n → ∃ c, c < m ∧ f p = g c) : mx f n ≤ mx g m :=
  mx_le f (mx_nn g m) n (fun t ht => by obtain ⟨c, hc, e⟩ := h t ht; rw [e]; exact mx_ge g m c hc)
theorem mx_eq {f g : Nat → Int} {n m : Nat} (h1 : ∀ p, p < n → ∃ c, c < m ∧ f p = g c) (h2 : ∀ c, c < m → ∃ p, p < n ∧ g c = f p) : mx f n = mx g m :=
  Int.le_antisymm (mx_half h1) (mx_half h2)
theorem mx_congr {f g : Nat → Int} {n : Nat} (h : ∀ p, p < n → f p = g p) : mx f n = mx g n :=
  mx_eq (fun p hp => ⟨p, hp, h p hp⟩) (fun p hp => ⟨p, hp, (h p hp).symm⟩)

/-- the score of the first n rows -/
def sc (ws os ps : List Int) : Nat → Int
  | 0 => 0
  | n + 1 => sc ws os ps n + (if (par (sp ps n) : Int) = od os n then od ws n else 0)
theorem wt_in {ws : List Int} (h : within 8 0 99 ws) {q : Nat} (hq : q < 8) : 0 ≤ od ws q ∧ od ws q ≤ 99 ∧ ∃ h' : q < ws.length, ws[q] = od ws q := by
  have hl : q < ws.length := by have := h.1; omega
  have := h.2 q hl
  unfold od
  rw [trn.getD_at hl]
  exact ⟨this.1, this.2, hl, rfl⟩
theorem sc_in {ws : List Int} (h : within 8 0 99 ws) (os ps : List Int) : ∀ n : Nat, n ≤ 8 → 0 ≤ sc ws os ps n ∧ sc ws os ps n ≤ 99 * (n : Int)
  | 0, _ => by simp [sc]
  | n + 1, hn => by
    obtain ⟨h1, h2⟩ := sc_in h os ps n (by omega)
    obtain ⟨h3, h4, _⟩ := wt_in h (show n < 8 by omega)
    simp only [sc]
    push_cast
    split <;> omega
theorem sc_step {ws : List Int} (h : within 8 0 99 ws) (os ps : List Int) {n : Nat} (hn : n < 8) : IntKind.i64.wrap (sc ws os ps n + od ws n) = sc ws os ps n + od ws n := by
  obtain ⟨h1, h2⟩ := sc_in h os ps n (by omega)
  obtain ⟨h3, h4, _⟩ := wt_in h hn
  exact IntWalk.i64_in _ (by omega)
def bl (c i : Nat) : Nat := c / 2 ^ i % 2
def lsb (n c : Nat) : List Int := (List.range n).map fun i => (bl c i : Int)
theorem lsb_succ (n c : Nat) : lsb (n + 1) c = lsb n c ++ [(bl c n : Int)] := by simp [lsb, List.range_succ]
theorem len_lsb (n c : Nat) : (lsb n c).length = n := by simp [lsb]
theorem lsb_ok (c : Nat) : within 6 0 1 (lsb 6 c) := ⟨by rw [len_lsb]; rfl, fun k hk => by
  have e : (lsb 6 c)[k] = (bl c k : Int) := by simp [lsb]
  rw [e]; unfold bl; omega⟩
theorem at_ok (p : Nat) : within 6 0 1 (at_ 6 p) := ⟨by rw [len_at]; rfl, fun k hk => by
  have e : (at_ 6 p)[k] = bit 6 p k := by simp [at_]
  rw [e]; unfold bit; omega⟩
def rv (c : Nat) : Nat := 32 * (c % 2) + 16 * (c / 2 % 2) + 8 * (c / 4 % 2) + 4 * (c / 8 % 2) + 2 * (c / 16 % 2) + c / 32 % 2
theorem rv_lt (c : Nat) : rv c < 64 := by unfold rv; omega
theorem rv_one : ∀ c : Fin 64, lsb 6 c.val = at_ 6 (rv c.val) := by decide
theorem rv_two : ∀ c : Fin 64, at_ 6 c.val = lsb 6 (rv c.val) := by decide
theorem both (ws os : List Int) : mx (fun p => sc ws os (at_ 6 p) 8) 64 = mx (fun c => sc ws os (lsb 6 c) 8) 64 :=
  mx_eq (fun p hp => ⟨rv p, rv_lt p, by show sc ws os (at_ 6 p) 8 = sc ws os (lsb 6 (rv p)) 8; rw [rv_two ⟨p, hp⟩]⟩) (fun c hc => ⟨rv c, rv_lt c, by show sc ws os (lsb 6 c) 8 = sc ws os (at_ 6 (rv c)) 8; rw [rv_one ⟨c, hc⟩]⟩)
open Classical in
noncomputable def resV (ws os : List Int) : Int × Bool := if within 8 0 99 ws ∧ within 8 0 1 os then (mx (fun p => sc ws os (at_ 6 p) 8) 64, true) else (0, false)
theorem resV_yes {ws os : List Int} (h : within 8 0 99 ws ∧ within 8 0 1 os) : resV ws os = (mx (fun p => sc ws os (at_ 6 p) 8) 64, true) := if_pos h
theorem resV_no {ws os : List Int} (h : ¬ (within 8 0 99 ws ∧ within 8 0 1 os)) : resV ws os = (0, false) := if_neg h
/-- a list of eight in memory, cell by cell -/
theorem cells {w : World} {v : Value} {xs : List Int} (h : Ints w v xs) (hl : xs.length = 8) : ∃ b o cap, v = .slice (some ⟨b, o, none⟩) 8 cap ∧ ∀ q, q < 8 → w.cell? ⟨b, o + q, none⟩ = some (.int .i64 (od xs q)) := by
  obtain ⟨A, b, o, cap, rfl, _, _, hA, hc⟩ := h.form
  obtain rfl := hA (by omega)
  refine ⟨b, o, cap, by rw [hl], fun q hq => ?_⟩
  have hql : q < xs.length := by omega
  rw [hc q hql]
  unfold od
  rw [trn.getD_at hql]


set_option maxHeartbeats 4000000 in
theorem score (vp vw vo : Value) (ps ws os : List Int) (w : World) (hp : Ints w vp ps) (hw : Ints w vw ws) (ho : Ints w vo os) (okp : within 6 0 1 ps) (okw : within 8 0 99 ws) (oko : within 8 0 1 os) :
    Calls Try.prog 91 #[vp, vw, vo] w fun e w' => e = .returned (.int .i64 (sc ws os ps 8)) ∧ Below w.heap.size w w' := by
  obtain ⟨b, o, cap, rfl, hcw⟩ := cells hw (by have := okw.1; omega)
  obtain ⟨b2, o2, cap2, rfl, hco⟩ := cells ho (by have := oko.1; omega)
  have HCW := Lib.hid hcw
  have HCO := Lib.hid hco
  have HA := Lib.hid (fun (q : Nat) (hq : q < 8) (W : World) (hW : Below w.heap.size w W) => answers vp ps q W (hp.below hW) okp hq)
  have HP := Lib.hid (fun (q : Nat) (hq : q < 8) (W : World) => tsu.parity_z (sp ps q) (sp_lt okp hq) W)
  have HS := Lib.hid (fun (n : Nat) (hn : n < 8) => sc_step okw os ps hn)
  obtain ⟨pa, pn, pc, rfl⟩ := hp.shape
  clear hp hw ho okp okw oko hcw hco
  go_enter Try.func91, Try.ntmps91
  go_wp2_with fail
  go_loopw [7, 12] (fun t s wr => ∃ q : Nat, q ≤ 8 ∧ s = .int .i64 q ∧ t = .int .i64 (sc ws os ps q) ∧ Hid (Below w.heap.size w wr)) (fun _ s _ => 8 - (intOf s).toNat)
  case atStart => exact ⟨0, by omega, rfl, rfl, Lib.hid (Below.refl _ _)⟩
  case round =>
    obtain ⟨q, hq, rfl, rfl, hB⟩ := hrel
    obtain ⟨wo, rfl⟩ : ∃ wo : World, wo = wr := ⟨_, rfl⟩
    by_cases hlt : q < 8
    · have hqz : (q : Int) < 8 := by omega
      have x1 := below_cell hB.out _ _ (HCW.out q hlt)
      have x2 := below_cell hB.out _ _ (HCO.out q hlt)
      have A1 := Lib.hid (fun W => at3z q hlt W)
      have A2 := Lib.hid (fun (W : World) (hW : Below wo.heap.size wo W) => HA.out q hlt W (below_tr hB.out hW))
      have A3 := Lib.hid (fun W => HP.out q hlt W)
      have hs := HS.out q hlt
      by_cases he : (par (sp ps q) : Int) = od os q
      all_goals
        first
          | have de : ((par (sp ps q) : Int) == od os q) = true := by simp [he]
            have hn : sc ws os ps (q + 1) = sc ws os ps q + od ws q := by simp [sc, he]
          | have de : ((par (sp ps q) : Int) == od os q) = false := by simp [he]
            have hn : sc ws os ps (q + 1) = sc ws os ps q := by simp [sc, he]
        generalize (par (sp ps q) : Int) = pk at *
        generalize od os q = oq at *
        generalize od ws q = wq at *
        generalize sc ws os ps q = sq at *
        clear he
        go_wp2_with fail
        go_region_held3 (fun w' => w'.cell? ⟨b2, o2 + q, none⟩ = some (.int .i64 oq) ∧ Below wo.heap.size wo w')
          ((refine ⟨below_cell ?_ _ _ x2, ?_⟩; all_goals (repeat (first | (with_reducible exact Below.refl _ _) | (with_reducible refine below_dr ?_) | (with_reducible refine below_tr ?_ (by assumption))))))
          (first | (go_at_call 80; (with_reducible refine (A1.out _).mono ?_); rintro e y0 ⟨rfl, hy0⟩) | (go_at_call 64; (with_reducible refine (A2.out _ (by repeat (first | (with_reducible exact Below.refl _ _) | (with_reducible refine below_dr ?_) | (with_reducible refine below_tr ?_ (by assumption))))).mono ?_); rintro e y1 ⟨rfl, hy1⟩) | (go_at_call 73; (with_reducible refine (A3.out _).mono ?_); rintro e y2 ⟨rfl, hy2⟩))
        have E9 := Lib.hid (below_tr hB.out (below_tr (below_tr (below_tr (below_dr (Below.refl wo.heap.size wo)) hy0) hy1) hy2))
        clear hy0 hy1 hy2 x1 x2
        go_wp2_with fail
        go_roundw
        case rel => exact ⟨q + 1, by omega, by go_num, by rw [hn], E9⟩
        case measure => simp [intOf]; omega
    · have hqz : ¬ (q : Int) < 8 := by omega
      obtain rfl : q = 8 := by omega
      go_wp2_with fail
      go_ret
      exact ⟨rfl, hB.out⟩


set_option maxHeartbeats 4000000 in
theorem impl_any (vw vo : Value) (ws os : List Int) (w : World) (hw : Ints w vw ws) (ho : Ints w vo os) :
    Calls Try.prog 45 #[vw, vo] w fun e w' => e = .returned (.tuple #[.int .i64 (resV ws os).1, .bool (resV ws os).2]) ∧ Below w.heap.size w w' := by
  have HW0 := play.impl_within _ ws 8 0 99 w hw
  have HO0 := play.impl_bits _ os 8 w ho
  obtain ⟨wa, wn, wc, rfl⟩ := hw.shape
  obtain ⟨oa, on, oc, rfl⟩ := ho.shape
  by_cases h1 : within 8 0 99 ws
  · rw [withinB_yes h1] at HW0
    have HW1 := Lib.hid HW0
    by_cases h2 : within 8 0 1 os
    · rw [withinB_yes h2] at HO0
      have HO1 := Lib.hid HO0
      rw [resV_yes ⟨h1, h2⟩]
      have HP := Lib.hid (fun (p : Nat) (W : World) => plg.play_at 6 p W (by omega))
      have HS := Lib.hid (fun (p : Nat) (u : Value) (W : World) (hu : Ints W u (at_ 6 p)) (hW : Below w.heap.size w W) => score u _ _ (at_ 6 p) ws os W hu (hw.below hW) (ho.below hW) (at_ok p) h1 h2)
      clear HW0 HO0 h1 h2 hw ho
      have hsh : IntKind.i64.wrap 64 = 64 := rfl
      go_enter Try.func45, Try.ntmps45
      go_wp2_with fail
      refine HW1.out.mono ?_
      rintro e w' ⟨rfl, rfl⟩
      go_wp2_with fail
      refine HO1.out.mono ?_
      rintro e w' ⟨rfl, rfl⟩
      go_wp2_with fail
      go_loopw [6, 20] (fun t s wr => ∃ p : Nat, p ≤ 64 ∧ s = .int .i64 p ∧ t = .int .i64 (mx (fun p => sc ws os (at_ 6 p) 8) p) ∧ Hid (Below w.heap.size w wr)) (fun _ s _ => 64 - (intOf s).toNat)
      case atStart => exact ⟨0, by omega, rfl, rfl, Lib.hid (Below.refl _ _)⟩
      case round =>
        obtain ⟨p, hp, rfl, rfl, hB⟩ := hrel
        obtain ⟨wo, rfl⟩ : ∃ wo : World, wo = wr := ⟨_, rfl⟩
        by_cases hlt : p < 64
        · have hpz : (p : Int) < 64 := by omega
          have A1 := Lib.hid (HP.out p wo)
          have hm : mx (fun p => sc ws os (at_ 6 p) 8) (p + 1) = if mx (fun p => sc ws os (at_ 6 p) 8) p < sc ws os (at_ 6 p) 8 then sc ws os (at_ 6 p) 8 else mx (fun p => sc ws os (at_ 6 p) 8) p := rfl
          obtain ⟨m', hm'⟩ : ∃ m', m' = mx (fun p => sc ws os (at_ 6 p) 8) (p + 1) := ⟨_, rfl⟩
          rw [← hm'] at hm
          have HM' := Lib.hid hm'
          have HM := Lib.hid hm
          generalize mx (fun p => sc ws os (at_ 6 p) 8) p = m at *
          clear hm hm'
          go_wp2_with fail
          refine A1.out.mono ?_
          rintro e w1 ⟨u, rfl, hu, hb⟩
          have hc := HS.out p u w1 hu.ints (below_tr hB.out hb)
          obtain ⟨ua, un, uc, rfl⟩ := hu.ints.shape
          generalize sc ws os (at_ 6 p) 8 = s at *
          have HC := Lib.hid hc
          have B1 := Lib.hid (below_tr hB.out hb)
          clear hc hu hb hB A1
          go_wp2_with fail
          refine HC.out.mono ?_
          rintro e w2 ⟨rfl, hb⟩
          have B2 := Lib.hid (below_tr B1.out hb)
          clear hb HC B1
          go_wp2_with fail
          go_roundw
          case rel => exact ⟨p + 1, by omega, by go_num, by rw [← HM'.out, HM.out], B2⟩
          case measure => simp [intOf]; omega
        · have hpz : ¬ (p : Int) < 64 := by omega
          obtain rfl : p = 64 := by omega
          go_wp2_with fail
          refine bodyPost_ret (v := .tuple #[.int .i64 (mx (fun p => sc ws os (at_ 6 p) 8) 64), .bool true]) (by simp [results, Try.results45, go_sem]) rfl ⟨rfl, hB.out⟩
    · rw [withinB_no h2] at HO0
      have HO1 := Lib.hid HO0
      rw [resV_no (fun h => h2 h.2)]
      clear HW0 HO0 h1 h2 hw ho
      go_enter Try.func45, Try.ntmps45
      go_wp2_with fail
      refine HW1.out.mono ?_
      rintro e w' ⟨rfl, rfl⟩
      go_wp2_with fail
      refine HO1.out.mono ?_
      rintro e w' ⟨rfl, rfl⟩
      go_wp2_with fail
      refine bodyPost_ret (v := .tuple #[.int .i64 0, .bool false]) (by simp [results, Try.results45, go_sem]) rfl ⟨rfl, Below.refl _ _⟩
  · rw [withinB_no h1] at HW0
    have HW1 := Lib.hid HW0
    rw [resV_no (fun h => h1 h.1)]
    clear HW0 HO0 h1 hw ho
    go_enter Try.func45, Try.ntmps45
    go_wp2_with fail
    refine HW1.out.mono ?_
    rintro e w' ⟨rfl, rfl⟩
    go_wp2_with fail
    refine bodyPost_ret (v := .tuple #[.int .i64 0, .bool false]) (by simp [results, Try.results45, go_sem]) rfl ⟨rfl, Below.refl _ _⟩


/-! ### the model -/
theorem and_bl (c i : Nat) : bits .and .i64 ((c : Int) / 2 ^ i) 1 = (bl c i : Int) := by
  have e : ((c : Int) / 2 ^ i) = ((c / 2 ^ i : Nat) : Int) := by simp
  rw [e, plg.and_one]
  rfl

set_option maxRecDepth 100000 in
set_option maxHeartbeats 8000000 in
theorem spec_any (vw vo : Value) (ws os : List Int) (w : World) (hw : Ints w vw ws) (ho : Ints w vo os) :
    Calls Try.prog 44 #[vw, vo] w fun e w' => e = .returned (.tuple #[.int .i64 (resV ws os).1, .bool (resV ws os).2]) ∧ Below w.heap.size w w' := by
  obtain ⟨i0, hi, hz0, hz1, hz2⟩ := info_parts infoInt
  have HO0 := play.spec_bits _ os 8 w ho
  by_cases hl : ws.length = 8
  · have dl : ((ws.length : Int) != 8) = false := by simp; omega
    obtain ⟨b, o, cap, rfl, hcw⟩ := cells hw hl
    have HCW := Lib.hid hcw
    by_cases h2 : within 8 0 1 os
    · obtain ⟨b2, o2, cap2, rfl, hco⟩ := cells ho (by have := h2.1; omega)
      have HCO := Lib.hid hco
      rw [withinB_yes h2] at HO0
      have HO1 := Lib.hid HO0
      have HL := Lib.hid hl
      have H2 := Lib.hid h2
      clear HO0 h2 hl dl hcw hco hw ho
      go_enter Try.func44, Try.ntmps44
      go_wp2_with fail
      refine HO1.out.mono ?_
      rintro e w' ⟨rfl, rfl⟩
      go_wp2_with fail
      go_loopw [4, 5, 6] (fun r1 r2 s wr => r1 = .int .i64 0 ∧ r2 = .bool false ∧ ∃ q : Nat, q ≤ 8 ∧ s = .int .i64 q ∧ Hid (∀ k, k < q → 0 ≤ od ws k ∧ od ws k ≤ 99) ∧ w = wr) (fun _ _ s _ => 8 - (intOf s).toNat)
      case atStart => exact ⟨rfl, rfl, 0, by omega, rfl, Lib.hid (fun k hk => absurd hk (Nat.not_lt_zero _)), rfl⟩
      case round =>
        obtain ⟨rfl, rfl, q, hq, rfl, hH, rfl⟩ := hrel
        by_cases hlt : q < 8
        · have hqz : (q : Int) < 8 := by omega
          have x1 := HCW.out q hlt
          by_cases hin : 0 ≤ od ws q ∧ od ws q ≤ 99
          · have HI := Lib.hid (in_yes (od ws q) 0 99 w hin.1 hin.2)
            have HIN := Lib.hid hin
            generalize od ws q = z at x1 HI
            clear hin
            go_wp2_with fail
            refine HI.out.mono ?_
            rintro e w' ⟨rfl, rfl⟩
            go_wp2_with fail
            go_roundw
            case rel => exact ⟨rfl, rfl, q + 1, by omega, by go_num, Lib.hid (fun k hk => by
              by_cases e : k = q
              · subst e; exact HIN.out
              · exact hH.out k (by omega)), by first | rfl | trivial⟩
            case measure => simp [intOf]; omega
          · have HI := Lib.hid (in_no (od ws q) 0 99 w (by omega))
            have HR := Lib.hid (resV_no (ws := ws) (os := os) (fun h => hin (by have := wt_in h.1 hlt; exact ⟨this.1, this.2.1⟩)))
            generalize od ws q = z at x1 HI
            clear hin
            go_wp2_with fail
            refine HI.out.mono ?_
            rintro e w' ⟨rfl, rfl⟩
            go_wp2_with fail
            refine bodyPost_ret (v := .tuple #[.int .i64 0, .bool false]) (by simp [results, Try.results44, go_sem]) rfl ⟨by rw [HR.out], Below.refl _ _⟩
        · have hqz : ¬ (q : Int) < 8 := by omega
          obtain rfl : q = 8 := by omega
          have h1 : within 8 0 99 ws := ⟨by have := HL.out; omega, fun k hk => by
            have hk8 : k < 8 := by have := HL.out; omega
            have := hH.out k hk8
            unfold od at this
            rw [trn.getD_at hk] at this
            exact this⟩
          have HR := Lib.hid (resV_yes ⟨h1, H2.out⟩)
          have HST := Lib.hid (fun (c n : Nat) (hn : n < 8) => sc_step h1 os (lsb 6 c) hn)
          have HSY := Lib.hid (fun (c q : Nat) (u : Value) (W : World) (hq : q < 8) (hu : Ints W u (lsb 6 c)) => says u (lsb 6 c) q W hu (lsb_ok c) hq)
          have HPA := Lib.hid (fun (c q : Nat) (W : World) (hq : q < 8) => tra.spar (sp (lsb 6 c) q) (sp_lt (lsb_ok c) hq) W)
          have HMO := Lib.hid (fun (a b : Int) (W : World) => lmm.most_any a b W)
          clear h1 hH
          go_wp2_with fail
          go_loopw [7, 8] (fun t s wr => ∃ c : Nat, c ≤ 64 ∧ s = .int .i64 c ∧ t = .int .i64 (mx (fun c => sc ws os (lsb 6 c) 8) c) ∧ Hid (Below w.heap.size w wr)) (fun _ s _ => 64 - (intOf s).toNat)
          case atStart => exact ⟨0, by omega, rfl, rfl, Lib.hid (Below.refl _ _)⟩
          case round =>
            obtain ⟨c, hc, rfl, rfl, hB⟩ := hrel
            obtain ⟨wo, rfl⟩ : ∃ wo : World, wo = wr := ⟨_, rfl⟩
            by_cases hlc : c < 64
            · have hcz : (c : Int) < 64 := by omega
              have HM : Hid (mx (fun c => sc ws os (lsb 6 c) 8) (c + 1) = if mx (fun c => sc ws os (lsb 6 c) 8) c < sc ws os (lsb 6 c) 8 then sc ws os (lsb 6 c) 8 else mx (fun c => sc ws os (lsb 6 c) 8) c) := Lib.hid rfl
              obtain ⟨m', hm'⟩ : ∃ m', m' = mx (fun c => sc ws os (lsb 6 c) 8) (c + 1) := ⟨_, rfl⟩
              rw [← hm'] at HM
              have HM' := Lib.hid hm'
              generalize mx (fun c => sc ws os (lsb 6 c) 8) c = m at *
              clear hm'
              have O0 : Hid ((wo.alloc (.cells #[] 3)).ownsRow wo.heap.size 3 1 (.slice (some ⟨wo.heap.size, 0, none⟩) 0 0) 0 (i64s (lsb 0 c))) := Lib.hid (by
                have := World.ownsRow_made (base := wo.heap.size) (e := 3) (size := 1) wo #[] 0 (Nat.le_refl _) (Nat.zero_le _) rfl
                simpa [i64s, lsb] using this)
              have J0 : Hid (Below w.heap.size w (wo.alloc (.cells #[] 3)) ∧ wo.heap.size ≤ (wo.alloc (.cells #[] 3)).heap.size) := Lib.hid ⟨below_al hB.out _, by simp⟩
              have hmm : w.heap.size ≤ wo.heap.size := hB.out.size
              go_wp2_with fail
              generalize (wo.alloc (.cells #[] 3)) = W1 at *
              generalize wo.heap.size = mm at *
              go_loopw [9, 11] (fun out s wr => ∃ i : Nat, i ≤ 6 ∧ s = .int .i64 i ∧ Hid (wr.ownsRow mm 3 1 out i (i64s (lsb i c))) ∧ Hid (Below w.heap.size w wr ∧ mm ≤ wr.heap.size)) (fun _ s _ => 6 - (intOf s).toNat)
              case atStart => exact ⟨0, by omega, rfl, O0, J0⟩
              case round =>
                obtain ⟨i, hi6, rfl, hO, hJJ⟩ := hrel
                clear O0 J0
                obtain ⟨wi, rfl⟩ : ∃ wo : World, wo = wr := ⟨_, rfl⟩
                have hJ := Lib.hid hJJ.out.1
                have hjm := hJJ.out.2
                have hjs := hJ.out.size
                by_cases hli : i < 6
                · have hiz : (i : Int) < 6 := by omega
                  have hbl := and_bl c i
                  have hi63 : (i : Int) < 64 := by omega

                  go_wp2_with (at_builtin; go_must (refine wpList_append_own _ rfl (.tmp 40) (.tmp 45) 33 rfl (mm) 3 i0 (.int .i64 0) 1 8 Try.underlying33 hi hz0 hz1 hz2 rfl (by decide) _ _ _ rfl (hO.out.alloc _) ⟨wi.heap.size, 0, none⟩ 1 1 [.int .i64 (bl c i : Int)] rfl rfl ?c1x ?c2x ?c3x ?c4x ?c5x ?_))
                  try (case c1x => first | exact app.one_at _ _ _ | (intro q u hq; have h5 := app.one_at wi (.int .i64 (bl c i : Int)) 3 q u hq; simpa using h5))
                  case c2x => first | rfl | (intro u hu; simp at hu; subst hu; rfl)
                  case c3x => unfold maxLen; omega
                  case c4x => omega
                  try (case c5x => first | omega | (simp; omega))
                  intro v9 w9 hown hgrow _
                  have hgz := hgrow.size
                  have B9 := Lib.hid ((below_al hJ.out _).grown hgrow (by simp; omega) (fun j hj => by have := (hO.out.lt j hj).1; omega))
                  have O9 := Lib.hid hown
                  rw [app.i64s_snoc] at O9
                  have B9S : Hid (mm ≤ w9.heap.size) := Lib.hid (by simp at hgz; omega)
                  clear hown hgrow hgz
                  go_wp2_with fail
                  go_roundw
                  case rel => exact ⟨i + 1, by omega, by go_num, Lib.hid (by rw [lsb_succ]; exact O9.out), Lib.hid ⟨B9.out, B9S.out⟩⟩
                  case measure => simp [intOf]; omega
                · have hiz : ¬ (i : Int) < 6 := by omega
                  obtain rfl : i = 6 := by omega
                  have hpl := app.ints_of_owns hO.out
                  have HPL := Lib.hid hpl.ints
                  obtain ⟨pa, pn, pc, rfl⟩ := hpl.ints.shape
                  clear hpl hO hJJ hjm hjs
                  go_wp2_with fail
                  go_loopw [10, 12] (fun t s wr => ∃ q : Nat, q ≤ 8 ∧ s = .int .i64 q ∧ t = .int .i64 (sc ws os (lsb 6 c) q) ∧ Hid (Below wi.heap.size wi wr)) (fun _ s _ => 8 - (intOf s).toNat)
                  case atStart => exact ⟨0, by omega, rfl, rfl, Lib.hid (Below.refl _ _)⟩
                  case round =>
                    obtain ⟨q, hq, rfl, rfl, hE⟩ := hrel
                    obtain ⟨wq, rfl⟩ : ∃ wo : World, wo = wr := ⟨_, rfl⟩
                    by_cases hlq : q < 8
                    · have hqz : (q : Int) < 8 := by omega
                      have EB := below_tr hJ.out hE.out
                      have x1 := below_cell EB _ _ (HCW.out q hlq)
                      have x2 := below_cell EB _ _ (HCO.out q hlq)
                      have A2 := Lib.hid (fun (W : World) (hW : Below wq.heap.size wq W) => HSY.out c q _ W hlq ((HPL.out.below hE.out).below hW))
                      have A3 := Lib.hid (fun W => HPA.out c q W hlq)
                      have hs := HST.out c q hlq
                      by_cases he : (par (sp (lsb 6 c) q) : Int) = od os q
                      all_goals
                        first
                          | have de : ((par (sp (lsb 6 c) q) : Int) == od os q) = true := by simp [he]
                            have hn : sc ws os (lsb 6 c) (q + 1) = sc ws os (lsb 6 c) q + od ws q := by simp [sc, he]
                          | have de : ((par (sp (lsb 6 c) q) : Int) == od os q) = false := by simp [he]
                            have hn : sc ws os (lsb 6 c) (q + 1) = sc ws os (lsb 6 c) q := by simp [sc, he]
                        generalize (par (sp (lsb 6 c) q) : Int) = pk at *
                        generalize od os q = oq at *
                        generalize od ws q = wtq at *
                        generalize sc ws os (lsb 6 c) q = sq at *
                        clear he EB
                        go_wp2_with fail
                        go_region_held3 (fun w' => w'.cell? ⟨b2, o2 + q, none⟩ = some (.int .i64 oq) ∧ Below wq.heap.size wq w')
                          ((refine ⟨below_cell ?_ _ _ x2, ?_⟩; all_goals (repeat (first | (with_reducible exact Below.refl _ _) | (with_reducible refine below_dr ?_) | (with_reducible refine below_tr ?_ (by assumption))))))
                          (first | (go_at_call 87; (with_reducible refine (A2.out _ (by repeat (first | (with_reducible exact Below.refl _ _) | (with_reducible refine below_dr ?_) | (with_reducible refine below_tr ?_ (by assumption))))).mono ?_); rintro e y1 ⟨rfl, hy1⟩) | (go_at_call 86; (with_reducible refine (A3.out _).mono ?_); rintro e y2 ⟨rfl, rfl⟩))
                        have E8 := below_tr (below_dr (Below.refl wq.heap.size wq)) hy1
                        have x3 := below_cell E8 _ _ x1
                        have E9 := Lib.hid (below_tr hE.out E8)
                        clear hy1 x1 x2 E8
                        go_wp2_with fail
                        go_roundw
                        case rel => exact ⟨q + 1, by omega, by go_num, by rw [hn], E9⟩
                        case measure => simp [intOf]; omega
                    · have hqz : ¬ (q : Int) < 8 := by omega
                      obtain rfl : q = 8 := by omega
                      have B9 := Lib.hid (below_tr hJ.out hE.out)
                      generalize sc ws os (lsb 6 c) 8 = sv at *
                      have HC := Lib.hid (HMO.out m sv wq)
                      clear hE HPL
                      go_wp2_with fail
                      refine HC.out.mono ?_
                      rintro e w' ⟨rfl, rfl⟩
                      rw [← HM.out]
                      go_wp2_with fail
                      go_roundw
                      case rel => exact ⟨c + 1, by omega, by go_num, by rw [← HM'.out], B9⟩
                      case measure => simp [intOf]; omega
            · have hcz : ¬ (c : Int) < 64 := by omega
              obtain rfl : c = 64 := by omega
              have HB := Lib.hid (both ws os)
              go_wp2_with fail
              refine bodyPost_ret (v := .tuple #[.int .i64 (mx (fun c => sc ws os (lsb 6 c) 8) 64), .bool true]) (by simp [results, Try.results44, go_sem]) rfl ⟨by rw [HR.out, ← HB.out], hB.out⟩
    · rw [withinB_no h2] at HO0
      have HO1 := Lib.hid HO0
      rw [resV_no (fun h => h2 h.2)]
      obtain ⟨oa, on, oc, rfl⟩ := ho.shape
      clear HO0 h2 hw ho hcw
      go_enter Try.func44, Try.ntmps44
      go_wp2_with fail
      refine HO1.out.mono ?_
      rintro e w' ⟨rfl, rfl⟩
      go_wp2_with fail
      refine bodyPost_ret (v := .tuple #[.int .i64 0, .bool false]) (by simp [results, Try.results44, go_sem]) rfl ⟨rfl, Below.refl _ _⟩
  · have dl : ((ws.length : Int) != 8) = true := by simp; omega
    rw [resV_no (fun h => hl (by have := h.1.1; omega))]
    obtain ⟨A, b, o, cap, rfl, _⟩ := hw.form
    obtain ⟨oa, on, oc, rfl⟩ := ho.shape
    clear HO0 hw ho hl
    go_enter Try.func44, Try.ntmps44
    go_wp2_with fail
    refine bodyPost_ret (v := .tuple #[.int .i64 0, .bool false]) (by simp [results, Try.results44, go_sem]) rfl ⟨rfl, Below.refl _ _⟩


end Go.Proofs.Ytomofmmecpdalaa.tvl
