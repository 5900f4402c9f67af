/- l8Fool of the model. -/
import Derived.Test.YtggodllfaggjiaaPro
namespace Go.Proofs.Ytggodllfaggjiaa.fos
open Go.RowKit Go.Deep Go.Proofs.Ytggodllfaggjiaa.base
open Go.Proofs.Ytggodllfaggjiaa.task (okTask wide)
open Go.Proofs.Ytggodllfaggjiaa.grid (nn)
open Go.Proofs.Ytggodllfaggjiaa.prs Go.Proofs.Ytggodllfaggjiaa.pro
open Go.Proofs.Ytggodllfaggjiaa.prt (infoA2)
open Go.Proofs.Ytggodllfaggjiaa.fom

/-- the flag: place p can follow the first k of what was begun -/
def Flag (T : List (List Int)) (bit : Int) (begun : List (Nat × Nat)) (p : Nat × Nat) (k : Nat) (b : Bool) : Prop := b = (decide (nn T p.1 p.2 = bit) && (begun.take k).all (fun q => okB T bit q p))
theorem flag_all {T : List (List Int)} {bit : Int} {begun : List (Nat × Nat)} {p : Nat × Nat} {b : Bool} (h : Flag T bit begun p begun.length b) : fitsB T bit begun p = b := by
  unfold Flag at h; rw [List.take_length] at h; exact h.symm
theorem flag_no {T : List (List Int)} {bit : Int} {begun : List (Nat × Nat)} {p : Nat × Nat} {k : Nat} (h : Flag T bit begun p k false) : fitsB T bit begun p = false := by
  unfold Flag at h
  unfold fitsB
  have e : begun = begun.take k ++ begun.drop k := (List.take_append_drop k begun).symm
  rw [e, List.all_append, ← Bool.and_assoc, ← h]
  rfl
theorem flag_succ {T : List (List Int)} {bit : Int} {begun : List (Nat × Nat)} {p : Nat × Nat} {k : Nat} (hk : k < begun.length) (h : Flag T bit begun p k true) {c : Bool} (hc : okB T bit begun[k] p = c) : Flag T bit begun p (k + 1) c := by
  unfold Flag at h ⊢
  rw [List.take_succ_eq_append_getElem hk, List.all_append, ← Bool.and_assoc, ← h]
  simp [hc]

theorem le16 {X m : Nat} (hX : X ≤ 4) (hm : m ≤ 4) : X * m ≤ 16 := Nat.mul_le_mul hX hm
theorem divs {X m N p : Nat} (hN : X * m = N) (hm : 1 ≤ m) (hp : p < N) : p / m < X ∧ p % m < m := ⟨Nat.div_lt_of_lt_mul (by rw [Nat.mul_comm, hN]; exact hp), Nat.mod_lt _ (by omega)⟩
theorem wrapN {X m N : Nat} (hN : X * m = N) (h : N ≤ 16) : wrap64 ((X : Int) * (m : Int)) = (N : Int) ∧ IntKind.i64.wrap ((X : Int) * (m : Int)) = (N : Int) := by
  rw [← Int.natCast_mul, hN]
  exact ⟨IntWalk.wrap64_in _ (by omega), IntWalk.i64_in _ (by omega)⟩
theorem divEqs {p m i j N : Nat} (hi : p / m = i) (hj : p % m = j) (hp : p ≤ N) (hN : N ≤ 16) : wrap64 ((p : Int) / (m : Int)) = (i : Int) ∧ IntKind.i64.wrap ((p : Int) / (m : Int)) = (i : Int) ∧ (p : Int) % (m : Int) = (j : Int) := by
  have hle : i ≤ p := by rw [← hi]; exact Nat.div_le_self _ _
  have e : (p : Int) / (m : Int) = (i : Int) := by rw [← hi]; simp
  rw [e]
  refine ⟨IntWalk.wrap64_in _ (by omega), IntWalk.i64_in _ (by omega), by rw [← hj]; simp⟩
theorem castle {N : Nat} (h : N ≤ 16) : (N : Int) ≤ 16 := by omega
theorem ne0 {m : Nat} (h : 1 ≤ m) : ¬ (m : Int) = 0 := by omega
theorem pos0 {X : Nat} (h : 1 ≤ X) : (0 : Int) < (X : Int) := by omega
theorem begunCells {w : World} {b0 o0 c0 : Nat} {begun : List (Nat × Nat)} (hp : Pairs w (.slice (some ⟨b0, o0, none⟩) begun.length c0) (enc begun)) (k : Nat) (hk : k < begun.length) :
    w.cell? ⟨b0, o0 + k * 2, none⟩ = some (.int .i64 (begun[k].1 : Int)) ∧ w.cell? ⟨b0, o0 + k * 2 + 1, none⟩ = some (.int .i64 (begun[k].2 : Int)) := by
  obtain ⟨A, b', o', cap', hv, _, _, hA, hc⟩ := hp.form
  injection hv with e1 _ _
  rw [hA (by rw [len_enc]; omega)] at e1
  injection e1 with e1
  injection e1 with e1 e2
  subst e1; subst e2
  have := hc k (by rw [len_enc]; exact hk)
  rw [enc_at _ _ hk] at this
  exact this


set_option maxRecDepth 100000 in
set_option maxHeartbeats 8000000 in
theorem spec_fool (tv : Value) (T : List (List Int)) (bit : Int) (X m N : Nat) (hok : okTask T) (hXe : T.length = X) (hme : wide T = m) (hN : X * m = N) : ∀ (n a : Nat) (begun : List (Nat × Nat)) (v : Value) (w : World), N - a < n → a ≤ N → begun.length ≤ a → (∀ b ∈ begun, b.1 < X ∧ b.2 < m) → IRows w tv T → Pairs w v (enc begun) → (∃ b o c, v = .slice (some ⟨b, o, none⟩) begun.length c) →
    Calls Try.prog 80 #[tv, .int .i64 bit, v, .int .i64 (a : Nat)] w fun e w' => ∃ u, e = .returned u ∧ Pairs w' u (enc (begun ++ Lf T bit (cands T bit m N begun a))) ∧ Below w.heap.size w w' := by
  intro n
  induction n with
  | zero => intro a begun v w hn; exact absurd hn (Nat.not_lt_zero _)
  | succ n IH =>
    intro a begun v w hn ha hb hrange ht hp hs
    obtain ⟨i0, hi0, hz0, hz1, hz2⟩ := info_parts infoA2
    obtain ⟨B, d, cap, rb, ro, rc, rfl, hcells⟩ := grid.cells ht hok
    obtain ⟨b0, o0, c0, rfl⟩ := hs
    have HP := Lib.hid (begunCells hp)
    obtain ⟨⟨hX1, hX⟩, ⟨hY1, hY⟩, _⟩ := hok
    rw [hXe] at hX1 hX hcells
    rw [hme] at hY1 hY hcells
    have HXE := Lib.hid hXe
    have a0 := (hcells 0 hX1).1
    rw [Nat.add_zero] at a0
    have HC := Lib.hid hcells
    have HPP := Lib.hid hp
    have HTT := Lib.hid ht
    have HRG := Lib.hid hrange
    have HIH := Lib.hid IH
    have hN16 : N ≤ 16 := by rw [← hN]; exact le16 hX hY
    have HD := Lib.hid (fun p (hp' : p < N) => divs hN hY1 hp')
    have WM := Lib.hid (wrapN hN hN16)
    have M0 := Lib.hid (ne0 hY1)
    have l16 : (N : Int) ≤ 16 := castle hN16
    have lb16 : (begun.length : Int) ≤ 16 := castle (Nat.le_trans hb (Nat.le_trans ha hN16))
    have x0 : (0 : Int) < (X : Int) := pos0 hX1
    have HB := Lib.hid hb
    have HN := Lib.hid hn
    have H16 := Lib.hid hN16
    have hS0 : Hid (Pairs w (.slice (some ⟨b0, o0, none⟩) begun.length c0) (enc (begun ++ [])) ∧ St T bit m N begun a a []) := Lib.hid ⟨by rw [List.append_nil]; exact hp, St.start hN16⟩
    rw [hXe]
    clear hcells hp ht hrange IH hn hb hN hN16 hX hX1 hY hY1 hme hXe
    go_enter Try.func80, Try.ntmps80
    go_wp2_with fail
    go_loopw [9, 10, 11, 12, 13, 14, 15] (fun vb s z11 z12 z13 z14 z15 wr => ∃ p : Nat, p ≤ N ∧ a ≤ p ∧ s = .int .i64 (p : Nat) ∧ (∃ vv, vb = vv ∧ ∃ Bs, Hid (Pairs wr vv (enc (begun ++ Bs)) ∧ St T bit m N begun a p Bs)) ∧ (∃ z, z11 = z) ∧ (∃ z, z12 = z) ∧ (∃ z, z13 = z) ∧ (∃ z, z14 = z) ∧ (∃ z, z15 = z) ∧ Hid (Below w.heap.size w wr)) (fun _ s _ _ _ _ _ _ => N - (intOf s).toNat)
    case atStart => exact ⟨a, ha, Nat.le_refl _, rfl, ⟨_, rfl, [], hS0⟩, ⟨_, rfl⟩, ⟨_, rfl⟩, ⟨_, rfl⟩, ⟨_, rfl⟩, ⟨_, rfl⟩, Below.refl _ _⟩
    case round =>
      clear hS0
      obtain ⟨p, hp, hap, rfl, ⟨vv, hvv, Bs, hBs⟩, ⟨z11, rfl⟩, ⟨z12, rfl⟩, ⟨z13, rfl⟩, ⟨z14, rfl⟩, ⟨z15, rfl⟩, hBW⟩ := hrel
      obtain ⟨wo, rfl⟩ : ∃ wo : World, wo = wr := ⟨_, rfl⟩
      obtain ⟨Ab, cb, hvb⟩ : ∃ A c, vv = .slice A (begun.length + Bs.length) c := by obtain ⟨A, c, hv, _⟩ := hBs.out.1; exact ⟨A, c, by rw [hv, len_enc, List.length_append]⟩
      subst hvb
      subst hvv
      have t0 := below_cell hBW.out _ _ a0
      have wm := WM.out.1
      by_cases hlt : p < N
      · have hkz : (p : Int) < (N : Int) := by
          clear wm; omega
        obtain ⟨i, hi⟩ : ∃ i, p / m = i := ⟨_, rfl⟩
        obtain ⟨j, hj⟩ : ∃ j, p % m = j := ⟨_, rfl⟩
        have hij := HD.out p hlt
        have hcell : cell m p = (i, j) := by unfold cell; rw [hi, hj]
        rw [hi, hj] at hij
        obtain ⟨hix, hjm⟩ := hij
        obtain ⟨e1, e2, e3⟩ := divEqs hi hj hp H16.out
        have x1 := below_cell hBW.out _ _ (HC.out i hix).1
        have y1 := below_cell hBW.out _ _ ((HC.out i hix).2 j hjm)
        have hixz : (i : Int) < (X : Int) := by clear wm e1 e2; omega
        have hjmz : (j : Int) < (m : Int) := by clear wm e1 e2; omega
        have HF0 : Hid (Flag T bit begun (i, j) 0 (decide (nn T i j = bit))) := Lib.hid (by simp [Flag])
        have HCE := Lib.hid hcell
        obtain ⟨nv, hnv⟩ : ∃ nv, nn T i j = nv := ⟨_, rfl⟩
        have hxz := x0
        rw [hnv] at y1 HF0
        obtain ⟨fb, hfb⟩ : ∃ fb : Bool, decide (nv = bit) = fb := ⟨_, rfl⟩
        have de : (nv == bit) = fb := by rw [← hfb]; rfl
        rw [hfb] at HF0
        have m0 := M0.out
        have E3 := Lib.hid e3
        have HIX := Lib.hid (And.intro hix hjm)
        have T1 := Lib.hid (fun (q r : Nat) (hq : q < X) (hr : r < m) => And.intro (below_cell hBW.out _ _ (HC.out q hq).1) (below_cell hBW.out _ _ ((HC.out q hq).2 r hr)))
        have HPW := Lib.hid (fun (k : Nat) (hk : k < begun.length) => And.intro (below_cell hBW.out _ _ (HP.out k hk).1) (below_cell hBW.out _ _ (HP.out k hk).2))
        have HNX : Hid (fitsB T bit begun (cell m p) = false → ∀ n, Pairs (wo.drewN n) (.slice Ab (begun.length + Bs.length) cb) (enc (begun ++ Bs)) ∧ St T bit m N begun a (p + 1) Bs) := Lib.hid (fun h n => ⟨hBs.out.1.below (below_drewN (Below.refl _ _) n), hBs.out.2.skip hlt h⟩)
        clear hi hj hcell hnv hfb
        go_wp2_with fail
        go_quiet (fail)
        go_wp2_with fail
        clear wm e1 e2 e3 m0 x1 y1 t0 de
        go_loopw [13, 14] (fun f s wr => ∃ k : Nat, k ≤ begun.length ∧ s = .int .i64 (k : Nat) ∧ (∃ b : Bool, f = .bool b ∧ Hid (Flag T bit begun (i, j) k b)) ∧ ∃ n, wr = wo.drewN n) (fun _ s _ => begun.length - (intOf s).toNat)
        case atStart => exact ⟨0, Nat.zero_le _, rfl, ⟨_, rfl, HF0⟩, _, rfl⟩
        case round =>
          clear HF0
          obtain ⟨k, hk, rfl, ⟨b, rfl, hF⟩, n2, rfl⟩ := hrel
          by_cases hlk : k < begun.length
          · have hkb : (k : Int) < (begun.length : Int) := by omega
            cases b
            · have HNX := Lib.hid (HNX.out (by rw [HCE.out]; exact flag_no hF.out))
              go_wp2_with fail
              go_roundw
              case rel => exact ⟨p + 1, by omega, by omega, by go_num, ⟨_, rfl, Bs, HNX.out _⟩, ⟨_, rfl⟩, ⟨_, rfl⟩, ⟨_, rfl⟩, ⟨_, rfl⟩, ⟨_, rfl⟩, below_drewN hBW.out _⟩
              case measure => simp [intOf]; omega
            · obtain ⟨hbx, hby⟩ := HRG.out begun[k] (List.getElem_mem hlk)
              obtain ⟨p0, p1⟩ := HPW.out k hlk
              obtain ⟨bi, hbi⟩ : ∃ q, begun[k].1 = q := ⟨_, rfl⟩
              obtain ⟨bj, hbj⟩ : ∃ q, begun[k].2 = q := ⟨_, rfl⟩
              have hbk : begun[k] = (bi, bj) := by rw [← hbi, ← hbj]
              rw [hbi] at hbx p0
              rw [hbj] at hby p1
              obtain ⟨x1, y1⟩ := T1.out i bj HIX.out.1 hby
              obtain ⟨x2, y2⟩ := T1.out bi j hbx HIX.out.2
              have hz1 : (bi : Int) < (X : Int) := by omega
              have hz2 : (bj : Int) < (m : Int) := by omega
              have HFS : Hid (∀ c, decide (nn T bi j ≠ bit ∨ nn T i bj ≠ bit) = c → Flag T bit begun (i, j) (k + 1) c) := Lib.hid (fun c hc => flag_succ hlk hF.out (by rw [hbk]; exact hc))
              obtain ⟨v1, hv1⟩ : ∃ q, nn T i bj = q := ⟨_, rfl⟩
              obtain ⟨v2, hv2⟩ : ∃ q, nn T bi j = q := ⟨_, rfl⟩
              rw [hv1] at y1
              rw [hv2] at y2
              rw [hv1, hv2] at HFS
              have HLK := Lib.hid hlk
              clear hbi hbj hbk hv1 hv2 hbx hby
              by_cases h1 : v1 = bit
              · have d1 : (v1 != bit) = false := by simp [h1]
                by_cases h2 : v2 = bit
                · have d2 : (v2 != bit) = false := by simp [h2]
                  have HN1 := Lib.hid (HFS.out false (by simp [h1, h2]))
                  clear h1 h2
                  have e3 := E3.out
                  go_wp2_with fail
                  go_quiet (fail)
                  go_wp2_with fail
                  clear e3
                  go_roundw
                  case rel => exact ⟨k + 1, by have := HLK.out; omega, by go_num, ⟨false, rfl, HN1.out⟩, by first | exact ⟨_, rfl⟩ | exact ⟨_, World.drewN_drewN _ _ _⟩⟩
                  case measure => simp [intOf]; omega
                · have d2 : (v2 != bit) = true := by simp [h2]
                  have HN1 := Lib.hid (HFS.out true (by simp [h2]))
                  clear h1 h2
                  have e3 := E3.out
                  go_wp2_with fail
                  go_quiet (fail)
                  go_wp2_with fail
                  clear e3
                  go_roundw
                  case rel => exact ⟨k + 1, by have := HLK.out; omega, by go_num, ⟨true, rfl, HN1.out⟩, by first | exact ⟨_, rfl⟩ | exact ⟨_, World.drewN_drewN _ _ _⟩⟩
                  case measure => simp [intOf]; omega
              · have d1 : (v1 != bit) = true := by simp [h1]
                have HN1 := Lib.hid (HFS.out true (by simp [h1]))
                clear h1 x2 y2
                have e3 := E3.out
                go_wp2_with fail
                go_quiet (fail)
                go_wp2_with fail
                clear e3
                go_roundw
                case rel => exact ⟨k + 1, by have := HLK.out; omega, by go_num, ⟨true, rfl, HN1.out⟩, by first | exact ⟨_, rfl⟩ | exact ⟨_, World.drewN_drewN _ _ _⟩⟩
                case measure => simp [intOf]; omega
          · have hkb : ¬ (k : Int) < (begun.length : Int) := by omega
            obtain rfl : k = begun.length := by omega
            cases b
            · have HNX := Lib.hid (HNX.out (by rw [HCE.out]; exact flag_all hF.out))
              go_wp2_with fail
              go_roundw
              case rel => exact ⟨p + 1, by omega, by omega, by go_num, ⟨_, rfl, Bs, HNX.out _⟩, ⟨_, rfl⟩, ⟨_, rfl⟩, ⟨_, rfl⟩, ⟨_, rfl⟩, ⟨_, rfl⟩, below_drewN hBW.out _⟩
              case measure => simp [intOf]; omega
            · have hfit : fitsB T bit begun (cell m p) = true := by rw [HCE.out]; exact flag_all hF.out
              have HTK := Lib.hid (hBs.out.2.take hlt hfit)
              rw [HCE.out] at HTK
              have hbl : begun.length ≤ 16 := by have := HB.out; have := H16.out; omega
              have O0 : Hid (((wo.drewN n2).alloc (.cells #[] 86)).ownsRow wo.heap.size 86 2 (.slice (some ⟨wo.heap.size, 0, none⟩) 0 0) 0 []) := Lib.hid (by
                have := World.ownsRow_made (base := wo.heap.size) (e := 86) (size := 2) (wo.drewN n2) #[] 0 (Nat.le_refl _) (Nat.zero_le _) rfl
                simpa using this)
              have B0 : Hid (Below wo.heap.size wo ((wo.drewN n2).alloc (.cells #[] 86))) := Lib.hid (below_al (below_drewN (Below.refl _ _) _) _)
              have S0 := Lib.hid (src (HPP.out.below (below_tr hBW.out B0.out) |> fun h => by rw [len_enc]; exact h))
              have e3 := E3.out
              clear hfit
              go_wp2_with (at_builtin; go_must (refine wpList_append_own _ rfl (.tmp 91) (.tmp 92) 28 rfl wo.heap.size 86 i0 (.agg #[.int .i64 0, .int .i64 0]) 2 16 Try.underlying28 hi0 hz0 hz1 hz2 rfl (by decide) _ _ _ rfl O0.out ⟨b0, o0, none⟩ begun.length c0 (pcs (enc begun)) rfl ?c0 ?c1 ?c2 ?c3 ?c4 ?c5 ?_))
              case c0 => rw [len_pcs, len_enc]
              case c1 => first | exact S0.out | (intro q u hq; have h5 := S0.out q u hq; rw [opn.add_none] at h5; exact h5)
              case c2 => exact pcs_one' _
              case c3 => unfold maxLen; omega
              case c4 => omega
              try (case c5 => simp)
              intro v1 w1 hown1 hgrow1 _
              have e3 := E3.out
              have B1 : Hid (Below wo.heap.size wo w1) := Lib.hid (B0.out.grown hgrow1 (by simp) (fun q hq => (O0.out.lt q hq).1))
              have O1 : Hid ((w1.alloc (.cells #[.int .i64 (i : Int), .int .i64 (j : Int)] 86)).ownsRow wo.heap.size 86 2 v1 begun.length (pcs (enc begun))) := Lib.hid (app.owns_below (by simpa using hown1) (below_al (Below.refl _ _) _))
              have B2 : Hid (Below wo.heap.size wo (w1.alloc (.cells #[.int .i64 (i : Int), .int .i64 (j : Int)] 86))) := Lib.hid (below_al B1.out _)
              have hz4 := B1.out.size
              clear hown1 hgrow1 S0
              go_wp2_with (at_builtin; go_must (refine wpList_append_own _ rfl (.tmp 93) (.tmp 97) 28 rfl wo.heap.size 86 i0 (.agg #[.int .i64 0, .int .i64 0]) 2 16 Try.underlying28 hi0 hz0 hz1 hz2 rfl (by decide) _ _ _ rfl O1.out ⟨w1.heap.size, 0, none⟩ 1 1 [.int .i64 (i : Int), .int .i64 (j : Int)] rfl rfl ?d1 ?d2 ?d3 ?d4 ?d5 ?_))
              try (case d1 => first | exact two_at _ _ _ _ | (intro q u hq; have h5 := two_at w1 (.int .i64 (i : Int)) (.int .i64 (j : Int)) 86 q u hq; rw [opn.add_none] at h5; simpa using h5))
              case d2 => intro u hu; simp at hu; rcases hu with rfl | rfl <;> rfl
              case d3 => unfold maxLen; omega
              case d4 => omega
              try (case d5 => first | omega | (simp; omega))
              intro v2 w2 hown2 hgrow2 _
              have B3 : Hid (Below wo.heap.size wo w2) := Lib.hid (B2.out.grown hgrow2 (by simp; omega) (fun q hq => (O1.out.lt q hq).1))
              have B4 := Lib.hid (below_tr hBW.out B3.out)
              have PV : Hid (Pairs w2 v2 (enc (begun ++ [(i, j)]))) := Lib.hid (by
                rw [enc_snoc]
                rw [pcs_snoc] at hown2
                exact (pairs_of_owns hown2).pairs)
              obtain ⟨b5, o5, c5, hv2⟩ := some_of_owns hown2 (Nat.succ_pos _)
              subst hv2
              have hcall := HIH.out (p + 1) (begun ++ [(i, j)]) _ w2 (by have := HN.out; omega) (by omega) (by have := HB.out; simp; omega) (fun b hb => by
                rcases List.mem_append.1 hb with h5 | h5
                · exact HRG.out b h5
                · simp at h5; subst h5; exact HIX.out) (HTT.out.below B4.out) PV.out ⟨b5, o5, c5, by simp⟩
              rw [show ((p + 1 : Nat) : Int) = (p : Int) + 1 from by omega] at hcall
              obtain ⟨R, hR⟩ : ∃ R, Lf T bit (cands T bit m N (begun ++ [(i, j)]) (p + 1)) = R := ⟨_, rfl⟩
              rw [hR] at hcall HTK
              rw [HXE.out] at hcall
              have HCALL := Lib.hid hcall
              clear hown2 hgrow2 hR hcall O0 O1 B0 B1 B2
              go_wp2_with fail
              refine HCALL.out.mono ?_
              rintro e w3 ⟨u, rfl, hu, hb3⟩
              obtain ⟨Au, cu, rfl⟩ : ∃ A c, u = .slice A (begun.length + 1 + R.length) c := by obtain ⟨A, c, hv, _⟩ := hu; exact ⟨A, c, by rw [hv, len_enc]; simp; omega⟩
              have HU : Hid (Pairs w3 (.slice Au (begun.length + 1 + R.length) cu) (enc (begun ++ ((i, j) :: R)))) := Lib.hid (by have h5 := hu; rw [List.append_assoc] at h5; exact h5)
              have B5 := Lib.hid (below_tr B3.out hb3)
              clear hu hb3 HCALL e3
              by_cases hcmp : Bs.length ≤ R.length
              · have hST : Hid (Pairs w3 (.slice Au (begun.length + 1 + R.length) cu) (enc (begun ++ ((i, j) :: R))) ∧ St T bit m N begun a (p + 1) ((i, j) :: R)) := Lib.hid ⟨HU.out, by have h5 := HTK.out; rw [if_pos hcmp] at h5; exact h5⟩
                have dk : decide (((begun.length + Bs.length : Nat) : Int) < ((begun.length + 1 + R.length : Nat) : Int)) = true := by simp; omega
                have dk2 : (begun.length + Bs.length < begun.length + 1 + R.length) := by omega
                clear hcmp HTK
                go_wp2_with fail
                clear dk dk2
                go_roundw
                case rel => exact ⟨p + 1, by omega, by omega, by go_num, ⟨_, rfl, _, hST.out⟩, ⟨_, rfl⟩, ⟨_, rfl⟩, ⟨_, rfl⟩, ⟨_, rfl⟩, ⟨_, rfl⟩, below_tr hBW.out B5.out⟩
                case measure => simp [intOf]; omega
              · have hST : Hid (Pairs w3 (.slice Ab (begun.length + Bs.length) cb) (enc (begun ++ Bs)) ∧ St T bit m N begun a (p + 1) Bs) := Lib.hid ⟨hBs.out.1.below B5.out, by have h5 := HTK.out; rw [if_neg hcmp] at h5; exact h5⟩
                have dk : decide (((begun.length + Bs.length : Nat) : Int) < ((begun.length + 1 + R.length : Nat) : Int)) = false := by simp; omega
                have dk2 : ¬ (begun.length + Bs.length < begun.length + 1 + R.length) := by omega
                clear hcmp HTK
                go_wp2_with fail
                clear dk dk2
                go_roundw
                case rel => exact ⟨p + 1, by omega, by omega, by go_num, ⟨_, rfl, _, hST.out⟩, ⟨_, rfl⟩, ⟨_, rfl⟩, ⟨_, rfl⟩, ⟨_, rfl⟩, ⟨_, rfl⟩, below_tr hBW.out B5.out⟩
                case measure => simp [intOf]; omega
      · have hkz : ¬ (p : Int) < (N : Int) := by
          clear wm; omega
        go_wp2_with fail
        clear wm
        go_ret
        refine ⟨_, rfl, ?_, hBW.out⟩
        rw [← hBs.out.2.done (by omega)]
        exact hBs.out.1


end Go.Proofs.Ytggodllfaggjiaa.fos
