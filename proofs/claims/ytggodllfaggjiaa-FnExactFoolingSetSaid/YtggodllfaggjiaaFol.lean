/- longestFooling of the program. -/
import Derived.Test.YtggodllfaggjiaaFos
namespace Go.Proofs.Ytggodllfaggjiaa.fol
open Go.RowKit Go.Deep Go.Proofs.Ytggodllfaggjiaa.base
open Go.Proofs.Ytggodllfaggjiaa.task (okTask wide)
open Go.Proofs.Ytggodllfaggjiaa.grid (nn)
open Go.Proofs.Ytggodllfaggjiaa.prs Go.Proofs.Ytggodllfaggjiaa.pro
open Go.Proofs.Ytggodllfaggjiaa.prt (infoA2)
open Go.Proofs.Ytggodllfaggjiaa.fom Go.Proofs.Ytggodllfaggjiaa.fos

/-- where the loop stands before place a, with the best so far -/
def Sl2 (T : List (List Int)) (bit : Int) (ps : List (Nat × Nat)) (a : Nat) (B : List (Nat × Nat)) : Prop := goL T bit (Lf T bit) B (ps.drop a) = Lf T bit ps ∧ B.length ≤ ps.length
theorem Sl2.start {T : List (List Int)} {bit : Int} {ps : List (Nat × Nat)} (h : ps.length ≤ 16) : Sl2 T bit ps 0 [] := ⟨(Lf_eq h).symm, Nat.zero_le _⟩
theorem Sl2.done {T : List (List Int)} {bit : Int} {ps : List (Nat × Nat)} {B : List (Nat × Nat)} (h : Sl2 T bit ps ps.length B) : B = Lf T bit ps := by
  have := h.1; rw [List.drop_length] at this; exact this
theorem Sl2.take {T : List (List Int)} {bit : Int} {ps : List (Nat × Nat)} {a : Nat} {B : List (Nat × Nat)} (h : Sl2 T bit ps a B) (ha : a < ps.length) (R : List (Nat × Nat)) (hR : Lf T bit ((ps.drop (a + 1)).filter (okB T bit ps[a])) = R) (hl : B.length ≤ R.length) : Sl2 T bit ps (a + 1) (ps[a] :: R) := by
  refine ⟨?_, ?_⟩
  · have := h.1
    rw [List.drop_eq_getElem_cons ha] at this
    rw [← this]
    show _ = goL T bit (Lf T bit) (pick T bit (Lf T bit) B ps[a] (ps.drop (a + 1))) (ps.drop (a + 1))
    unfold pick
    rw [hR, if_pos hl]
  · have h1 := Lf_len (T := T) (bit := bit) ((ps.drop (a + 1)).filter (okB T bit ps[a]))
    have h2 := filt_le (T := T) (bit := bit) ps[a] (ps.drop (a + 1))
    rw [hR] at h1
    simp at h2 ⊢
    omega
theorem Sl2.skip {T : List (List Int)} {bit : Int} {ps : List (Nat × Nat)} {a : Nat} {B : List (Nat × Nat)} (h : Sl2 T bit ps a B) (ha : a < ps.length) (R : List (Nat × Nat)) (hR : Lf T bit ((ps.drop (a + 1)).filter (okB T bit ps[a])) = R) (hl : ¬ B.length ≤ R.length) : Sl2 T bit ps (a + 1) B := by
  refine ⟨?_, h.2⟩
  have := h.1
  rw [List.drop_eq_getElem_cons ha] at this
  rw [← this]
  show _ = goL T bit (Lf T bit) (pick T bit (Lf T bit) B ps[a] (ps.drop (a + 1))) (ps.drop (a + 1))
  unfold pick
  rw [hR, if_neg hl]
/-- the first k of those behind place a that go with it -/
def go (T : List (List Int)) (bit : Int) (ps : List (Nat × Nat)) (p : Nat × Nat) (a k : Nat) : List (Nat × Nat) := ((ps.drop (a + 1)).take k).filter (okB T bit p)
theorem go_len {T : List (List Int)} {bit : Int} {ps : List (Nat × Nat)} {p : Nat × Nat} {a k : Nat} : (go T bit ps p a k).length ≤ ps.length - (a + 1) := by
  have := List.length_filter_le (okB T bit p) ((ps.drop (a + 1)).take k)
  unfold go; simp at this; omega
theorem go_all {T : List (List Int)} {bit : Int} {ps : List (Nat × Nat)} {p : Nat × Nat} {a k : Nat} (h : k = ps.length - (a + 1)) : go T bit ps p a k = (ps.drop (a + 1)).filter (okB T bit p) := by
  unfold go; rw [List.take_of_length_le (by simp; omega)]
theorem go_yes {T : List (List Int)} {bit : Int} {ps : List (Nat × Nat)} {p q : Nat × Nat} {a k : Nat} (h : a + 1 + k < ps.length) (hq : ps[a + 1 + k] = q) (ho : okB T bit p q = true) : go T bit ps p a (k + 1) = go T bit ps p a k ++ [q] := by
  unfold go
  rw [List.take_succ_eq_append_getElem (by simp; omega), List.filter_append, List.getElem_drop, hq]
  simp [ho]
theorem go_no {T : List (List Int)} {bit : Int} {ps : List (Nat × Nat)} {p q : Nat × Nat} {a k : Nat} (h : a + 1 + k < ps.length) (hq : ps[a + 1 + k] = q) (ho : okB T bit p q = false) : go T bit ps p a (k + 1) = go T bit ps p a k := by
  unfold go
  rw [List.take_succ_eq_append_getElem (by simp; omega), List.filter_append, List.getElem_drop, hq]
  simp [ho]
theorem go_mem {T : List (List Int)} {bit : Int} {ps : List (Nat × Nat)} {p b : Nat × Nat} {a k : Nat} (h : b ∈ go T bit ps p a k) : b ∈ ps := by
  unfold go at h
  exact List.mem_of_mem_drop (List.mem_of_mem_take (List.mem_filter.1 h).1)
theorem pairCells {w : World} {A : Option Addr} {b0 o0 n c0 : Nat} {ps : List (Nat × Nat)} (hp : Pairs w (.slice A n c0) (enc ps)) (hn : n = ps.length) (hA : 0 < ps.length → A = some ⟨b0, o0, none⟩) (k : Nat) (hk : k < ps.length) :
    w.cell? ⟨b0, o0 + k * 2, none⟩ = some (.int .i64 (ps[k].1 : Int)) ∧ w.cell? ⟨b0, o0 + k * 2 + 1, none⟩ = some (.int .i64 (ps[k].2 : Int)) := by
  obtain ⟨A', b', o', cap', hv, _, _, hA', hc⟩ := hp.form
  injection hv with e1 _ _
  have e2 := hA' (by rw [len_enc]; omega)
  rw [← e1, hA (by omega)] at e2
  injection e2 with e2
  injection e2 with e2 e3
  subst e2; subst e3
  have := hc k (by rw [len_enc]; exact hk)
  rw [enc_at _ _ hk] at this
  exact this
theorem pairForm {w : World} {v : Value} {ps : List (Nat × Nat)} (hp : Pairs w v (enc ps)) : ∃ (A : Option Addr) (b0 o0 c0 : Nat), v = .slice A ps.length c0 ∧ ps.length ≤ c0 ∧ c0 ≤ maxLen ∧ (0 < ps.length → A = some ⟨b0, o0, none⟩) := by
  obtain ⟨A', b', o', cap', hv, h1, h2, hA', hc⟩ := hp.form
  rw [len_enc] at hv h1 hA'
  exact ⟨A', b', o', cap', hv, h1, h2, hA'⟩

theorem sz2 (W : World) : (Go.sizeOf 86).run Try.prog W = .ok 2 W := by kernel_rfl
theorem und2 : Try.prog.underlying 28 = some (.slice 86) := Try.underlying28
/-- what lies behind place a -/
theorem cut_at (b0 o0 n c0 a : Nat) (ha : a < n) (hn : n ≤ c0) : ∃ o5 c5, (0 < n - (a + 1) → o5 = o0 + (a + 1) * 2) ∧ (n - (a + 1) ≤ c5) ∧ c5 ≤ c0 ∧
    ∀ W, (Instr.slice 28 (.slice (some ⟨b0, o0, none⟩) n c0) (some (.int .i64 ((a : Int) + 1))) none none).run Try.prog W = .ok (.slice (some ⟨b0, o5, none⟩) (n - (a + 1)) c5) W := by
  have ht' : Try.prog.underlying 28 = some (.slice (Try.prog.elem 28)) := by simp [Program.elem]
  have he : Try.prog.elem 28 = 86 := by simp [Program.elem]
  refine ⟨if c0 = a + 1 then o0 else o0 + (a + 1) * 2, c0 - (a + 1), fun h => by rw [if_neg (by omega)], by omega, by omega, fun W => ?_⟩
  rw [run_slice_l W 28 _ _ _ ht' .i64 _ (by omega) (by omega), he, sz2]
  have e : ((a : Int) + 1).toNat = a + 1 := by omega
  by_cases h0 : c0 = a + 1
  · simp [Result.andThen, sliced, h0, e]
  · simp [Result.andThen, sliced, Addr.add, h0, e]
theorem ownShape {w : World} {B n : Nat} {v : Value} {vals : List Value} (h : w.ownsRow B 86 2 v n vals) : ∃ A c, v = .slice A n c := by
  rcases h.2 with ⟨rfl, rfl⟩ | ⟨g, cap, cur, rfl, _⟩
  · exact ⟨_, _, rfl⟩
  · exact ⟨_, _, rfl⟩
theorem own_one (w : World) (B : Nat) (hB : B ≤ w.heap.size) (x y : Value) : (w.alloc (.cells #[x, y] 86)).ownsRow B 86 2 (.slice (some ⟨w.heap.size, 0, none⟩) 1 1) 1 [x, y] :=
  ⟨rfl, .inr ⟨w.heap.size, 1, #[x, y], rfl, hB, heap_alloc_new w _, Nat.le_refl _, by unfold maxLen; omega, rfl, rfl⟩⟩
theorem two_cells {w : World} {b : Nat} {t : TypeId} {x y : Value} (h : Blk w b t #[x, y]) : w.cell? ⟨b, 0, none⟩ = some x ∧ w.cell? ⟨b, 1, none⟩ = some y := by
  unfold Blk at h
  refine ⟨?_, ?_⟩ <;> simp only [World.cell?, h] <;> rfl
def Res (u : Value) (R : List (Nat × Nat)) : Prop := (u = .slice none 0 0 ∧ R = []) ∨ ∃ b o c, u = .slice (some ⟨b, o, none⟩) R.length c
theorem Res.shape {u : Value} {R : List (Nat × Nat)} (h : Res u R) : ∃ A c, u = .slice A R.length c := by
  rcases h with ⟨rfl, rfl⟩ | ⟨b, o, c, rfl⟩ <;> exact ⟨_, _, rfl⟩
theorem res_of {w : World} {B : Nat} {v : Value} {vals : List Value} {R : List (Nat × Nat)} (h : w.ownsRow B 86 2 v R.length vals) : Res v R := by
  rcases h.2 with ⟨rfl, h0⟩ | ⟨g, cap, cur, rfl, _⟩
  · exact .inl ⟨rfl, List.eq_nil_of_length_eq_zero h0⟩
  · exact .inr ⟨_, _, _, rfl⟩


set_option maxRecDepth 100000 in
set_option maxHeartbeats 8000000 in
theorem impl_long (tv : Value) (T : List (List Int)) (bit : Int) (X m : Nat) (hok : okTask T) (hXe : T.length = X) (hme : wide T = m) : ∀ (n : Nat) (ps : List (Nat × Nat)) (v : Value) (w : World), ps.length < n → ps.length ≤ 16 → (∀ b ∈ ps, b.1 < X ∧ b.2 < m) → IRows w tv T → Pairs w v (enc ps) →
    Calls Try.prog 82 #[tv, .int .i64 bit, v] w fun e w' => ∃ u, e = .returned u ∧ OwnPairs w' w.heap.size w'.heap.size u (enc (Lf T bit ps)) ∧ Res u (Lf T bit ps) ∧ Below w.heap.size w w' := by
  intro n
  induction n with
  | zero => intro ps v w hn; exact absurd hn (Nat.not_lt_zero _)
  | succ n IH =>
    intro ps v w hn hl hrange ht hp
    obtain ⟨i0, hi0, hz0, hz1, hz2⟩ := info_parts infoA2
    obtain ⟨B, d, cap, rb, ro, rc, rfl, hcells⟩ := grid.cells ht hok
    obtain ⟨A, b0, o0, c0, rfl, hc0, hcm, hA⟩ := pairForm hp
    have HP := Lib.hid (pairCells hp rfl hA)
    obtain ⟨⟨hX1, hX⟩, ⟨hY1, hY⟩, _⟩ := hok
    rw [hXe] at hX1 hX hcells
    rw [hme] at hY1 hY hcells
    have HXE := Lib.hid hXe
    have HC := Lib.hid hcells
    have HTT := Lib.hid ht
    have HRG := Lib.hid hrange
    have HIH := Lib.hid IH
    have HN := Lib.hid hn
    have H16 := Lib.hid hl
    have hS0 : Hid (w.ownsRow w.heap.size 86 2 (.slice none 0 0) ([] : List (Nat × Nat)).length (pcs (enc [])) ∧ Sl2 T bit ps 0 []) := Lib.hid ⟨World.ownsRow_nil _ _ _ _, Sl2.start hl⟩
    have lz16 : (ps.length : Int) ≤ 16 := castle hl
    rw [hXe]
    clear hcells hp ht hrange IH hn hX hX1 hY hY1 hme hXe hcm
    go_enter Try.func82, Try.ntmps82
    go_wp2_with fail
    go_loopw [7, 8, 9, 10, 12, 13, 16] (fun vb z8 z9 z10 z12 z13 s wr => ∃ a : Nat, a ≤ ps.length ∧ s = .int .i64 (a : Nat) ∧ (∃ vv, vb = vv ∧ ∃ Bs : List (Nat × Nat), Hid (wr.ownsRow w.heap.size 86 2 vv Bs.length (pcs (enc Bs)) ∧ Sl2 T bit ps a Bs)) ∧ (∃ z, z8 = z) ∧ (∃ z, z9 = z) ∧ (∃ z, z10 = z) ∧ (∃ z, z12 = z) ∧ (∃ z, z13 = z) ∧ Hid (Below w.heap.size w wr)) (fun _ _ _ _ _ _ s _ => ps.length - (intOf s).toNat)
    case atStart => exact ⟨0, Nat.zero_le _, rfl, ⟨_, rfl, [], hS0⟩, ⟨_, rfl⟩, ⟨_, rfl⟩, ⟨_, rfl⟩, ⟨_, rfl⟩, ⟨_, rfl⟩, Below.refl _ _⟩
    case round =>
      clear hS0
      obtain ⟨a, ha, rfl, ⟨vv, hvv, Bs, hBs⟩, ⟨z8, rfl⟩, ⟨z9, rfl⟩, ⟨z10, rfl⟩, ⟨z12, rfl⟩, ⟨z13, rfl⟩, hBW⟩ := hrel
      obtain ⟨wo, rfl⟩ : ∃ wo : World, wo = wr := ⟨_, rfl⟩
      obtain ⟨Ab, cb, hvb⟩ := ownShape hBs.out.1
      subst hvb
      subst hvv
      by_cases hlt : a < ps.length
      · have hkz : (a : Int) < (ps.length : Int) := by omega
        obtain rfl := hA (by omega)
        obtain ⟨⟨i, j⟩, hij⟩ : ∃ q, ps[a] = q := ⟨_, rfl⟩
        obtain ⟨p0, p1⟩ := HP.out a hlt
        rw [hij] at p0 p1
        have q0 := below_cell hBW.out _ _ p0
        have q1 := below_cell hBW.out _ _ p1
        obtain ⟨hi, hj⟩ := HRG.out ps[a] (List.getElem_mem hlt)
        rw [hij] at hi hj
        obtain ⟨o5, c5, ho5, hc5, _, hsl⟩ := cut_at b0 o0 ps.length c0 a hlt hc0
        obtain ⟨l, hle⟩ : ∃ l, ps.length - (a + 1) = l := ⟨_, rfl⟩
        rw [hle] at ho5 hc5 hsl
        have HIJ := Lib.hid hij
        have HO5 := Lib.hid ho5
        have HLE := Lib.hid hle
        have HLT := Lib.hid hlt
        clear p0 p1 hij ho5 hle hA
        go_wp2_with fail
        obtain ⟨W1, hW1⟩ : ∃ W1, wo.alloc (.cells #[.int .i64 (i : Int), .int .i64 (j : Int)] 86) = W1 := ⟨_, rfl⟩
        have K1 : Hid (Blk W1 wo.heap.size 86 #[.int .i64 (i : Int), .int .i64 (j : Int)] ∧ Below wo.heap.size wo W1 ∧ wo.heap.size < W1.heap.size) := Lib.hid ⟨by rw [← hW1]; exact Blk.new _ _ _, by rw [← hW1]; exact below_al (Below.refl _ _) _, by rw [← hW1]; simp⟩
        rw [hW1]
        have BW1 := Lib.hid (below_tr hBW.out K1.out.2.1)
        clear hW1 q0 q1
        have hR0 : Hid (W1.ownsRow W1.heap.size 86 2 (.slice none 0 0) (go T bit ps (i, j) a 0).length (pcs (enc (go T bit ps (i, j) a 0)))) := Lib.hid (World.ownsRow_nil _ _ _ _)
        go_loopw [10, 12, 26] (fun r z12 s wr => ∃ k : Nat, k ≤ l ∧ s = .int .i64 (k : Nat) ∧ (∃ vr, r = vr ∧ Hid (wr.ownsRow W1.heap.size 86 2 vr (go T bit ps (i, j) a k).length (pcs (enc (go T bit ps (i, j) a k))))) ∧ (∃ z, z12 = z) ∧ Hid (Below W1.heap.size W1 wr)) (fun _ _ s _ => l - (intOf s).toNat)
        case atStart => exact ⟨0, Nat.zero_le _, rfl, ⟨_, rfl, hR0⟩, ⟨_, rfl⟩, Below.refl _ _⟩
        case round =>
          clear hR0
          obtain ⟨k, hk, rfl, ⟨vr, hvr, hO⟩, ⟨z12, rfl⟩, hBI⟩ := hrel
          obtain ⟨wi, rfl⟩ : ∃ wi : World, wi = wr := ⟨_, rfl⟩
          subst hvr
          have BWI := Lib.hid (below_tr BW1.out hBI.out)
          by_cases hlk : k < l
          · have hkb : (k : Int) < (l : Int) := by omega
            obtain rfl := HO5.out (by omega)
            have hka : a + 1 + k < ps.length := by have := HLE.out; omega
            obtain ⟨⟨i2, j2⟩, hq⟩ : ∃ q, ps[a + 1 + k] = q := ⟨_, rfl⟩
            obtain ⟨p0, p1⟩ := HP.out (a + 1 + k) hka
            rw [hq, show o0 + (a + 1 + k) * 2 = o0 + (a + 1) * 2 + k * 2 by omega] at p0 p1
            have q0 := below_cell BWI.out _ _ p0
            have q1 := below_cell BWI.out _ _ p1
            obtain ⟨hi2, hj2⟩ := HRG.out ps[a + 1 + k] (List.getElem_mem hka)
            rw [hq] at hi2 hj2
            have HKA := Lib.hid hka
            have HQ : Hid (ps[a + 1 + k]'(HKA.out) = (i2, j2)) := Lib.hid hq
            obtain ⟨W2, hW2⟩ : ∃ W2, wi.alloc (.cells #[.int .i64 (i2 : Int), .int .i64 (j2 : Int)] 86) = W2 := ⟨_, rfl⟩
            have K2 : Hid (Blk W2 wi.heap.size 86 #[.int .i64 (i2 : Int), .int .i64 (j2 : Int)] ∧ Below wi.heap.size wi W2) := Lib.hid ⟨by rw [← hW2]; exact Blk.new _ _ _, by rw [← hW2]; exact below_al (Below.refl _ _) _⟩
            have B2 := Lib.hid (below_tr hBI.out K2.out.2)
            have BW2 := Lib.hid (below_tr BWI.out K2.out.2)
            obtain ⟨c0', c1'⟩ := two_cells (K1.out.1.below B2.out)
            obtain ⟨d0, d1⟩ := two_cells K2.out.1
            obtain ⟨x1, y1⟩ := HC.out i hi
            have x1 := below_cell BW2.out _ _ x1
            have y1 := below_cell BW2.out _ _ (y1 j2 hj2)
            obtain ⟨x2, y2⟩ := HC.out i2 hi2
            have x2 := below_cell BW2.out _ _ x2
            have y2 := below_cell BW2.out _ _ (y2 j hj)
            have hiz : (i : Int) < (X : Int) := by omega
            have hi2z : (i2 : Int) < (X : Int) := by omega
            have hjz : (j : Int) < (m : Int) := by omega
            have hj2z : (j2 : Int) < (m : Int) := by omega
            obtain ⟨v1, hv1⟩ : ∃ q, nn T i j2 = q := ⟨_, rfl⟩
            obtain ⟨v2, hv2⟩ : ∃ q, nn T i2 j = q := ⟨_, rfl⟩
            rw [hv1] at y1
            rw [hv2] at y2
            have hok1 : okB T bit (i, j) (i2, j2) = decide (v1 ≠ bit ∨ v2 ≠ bit) := by unfold okB; simp only [hv1, hv2]
            have HOK := Lib.hid hok1
            have HW2 := Lib.hid hW2
            have hsz : W1.heap.size ≤ W2.heap.size := B2.out.size
            have O2 : Hid (∀ n, (W2.drewN n).ownsRow W1.heap.size 86 2 u10 (go T bit ps (i, j) a k).length (pcs (enc (go T bit ps (i, j) a k)))) := Lib.hid (fun n => app.owns_below hO.out (below_drewN K2.out.2 n))
            have HG : Hid ((go T bit ps (i, j) a k).length ≤ 16) := Lib.hid (by have h5 := go_len (T := T) (bit := bit) (ps := ps) (p := (i, j)) (a := a) (k := k); have := H16.out; omega)
            clear hq hv1 hv2 hok1 p0 p1
            by_cases h1 : v1 = bit
            · have e1 : (v1 != bit) = false := by simp [h1]
              by_cases h2 : v2 = bit
              · have e2 : (v2 != bit) = false := by simp [h2]
                have O3 : Hid (∀ n, (W2.drewN n).ownsRow W1.heap.size 86 2 u10 (go T bit ps (i, j) a (k + 1)).length (pcs (enc (go T bit ps (i, j) a (k + 1))))) := Lib.hid (by rw [go_no HKA.out HQ.out (by rw [HOK.out]; simp [h1, h2])]; exact O2.out)
                clear h1 h2
                go_wp2_with fail
                go_quiet (fail)
                go_wp2_with fail
                go_roundw
                case rel => exact ⟨k + 1, by omega, by go_num, ⟨_, rfl, O3.out _⟩, ⟨_, rfl⟩, below_drewN B2.out _⟩
                case measure => simp [intOf]; omega
              · have e2 : (v2 != bit) = true := by simp [h2]
                have HYES : Hid (decide (v1 ≠ bit ∨ v2 ≠ bit) = true) := Lib.hid (by simp [h2])
                clear h1 h2
                go_wp2_with fail
                go_quiet (fail)
                go_wp2_with (at_builtin; go_must (refine wpList_append_own _ rfl (.tmp 54) (.tmp 56) 28 rfl W1.heap.size 86 i0 (.agg #[.int .i64 0, .int .i64 0]) 2 16 Try.underlying28 hi0 hz0 hz1 hz2 rfl (by decide) _ _ _ rfl ((O2.out _).alloc _) ⟨W2.heap.size, 0, none⟩ 1 1 [.int .i64 (i2 : Int), .int .i64 (j2 : Int)] rfl rfl ?d1a ?d2a ?d3a ?d4a ?d5a ?_))
                try (case d1a => first | exact two_at _ _ _ _ | (intro q u hq; have h5 := two_at (W2.drewN _) (.int .i64 (i2 : Int)) (.int .i64 (j2 : Int)) 86 q u hq; rw [opn.add_none] at h5; simpa using h5))
                case d2a => intro u hu; simp at hu; rcases hu with rfl | rfl <;> rfl
                case d3a => unfold maxLen; have := HG.out; omega
                case d4a => have := HG.out; omega
                try (case d5a => first | omega | (simp; omega))
                intro v3 w3 hown3 hgrow3 _
                have B3 : Hid (Below W1.heap.size W1 w3) := Lib.hid ((below_al (below_drewN B2.out _) _).grown hgrow3 (by simp; omega) (fun q hq => ((O2.out 0).lt q hq).1))
                have O3 : Hid (w3.ownsRow W1.heap.size 86 2 v3 (go T bit ps (i, j) a (k + 1)).length (pcs (enc (go T bit ps (i, j) a (k + 1))))) := Lib.hid (by have h5 := hown3; rw [pcs_snoc, show enc (go T bit ps (i, j) a k) ++ [((i2 : Int), (j2 : Int))] = enc (go T bit ps (i, j) a k ++ [(i2, j2)]) from (enc_snoc (go T bit ps (i, j) a k) (i2, j2)).symm] at h5; rw [go_yes HKA.out HQ.out (by rw [HOK.out]; exact HYES.out), List.length_append]; exact h5)
                clear hown3 hgrow3
                go_wp2_with fail
                go_roundw
                case rel => exact ⟨k + 1, by omega, by go_num, ⟨_, rfl, O3.out⟩, ⟨_, rfl⟩, B3.out⟩
                case measure => simp [intOf]; omega
            · have e1 : (v1 != bit) = true := by simp [h1]
              have HYES : Hid (decide (v1 ≠ bit ∨ v2 ≠ bit) = true) := Lib.hid (by simp [h1])
              clear h1 x2 y2
              go_wp2_with fail
              go_quiet (fail)
              go_wp2_with (at_builtin; go_must (refine wpList_append_own _ rfl (.tmp 54) (.tmp 56) 28 rfl W1.heap.size 86 i0 (.agg #[.int .i64 0, .int .i64 0]) 2 16 Try.underlying28 hi0 hz0 hz1 hz2 rfl (by decide) _ _ _ rfl ((O2.out _).alloc _) ⟨W2.heap.size, 0, none⟩ 1 1 [.int .i64 (i2 : Int), .int .i64 (j2 : Int)] rfl rfl ?d1b ?d2b ?d3b ?d4b ?d5b ?_))
              try (case d1b => first | exact two_at _ _ _ _ | (intro q u hq; have h5 := two_at (W2.drewN _) (.int .i64 (i2 : Int)) (.int .i64 (j2 : Int)) 86 q u hq; rw [opn.add_none] at h5; simpa using h5))
              case d2b => intro u hu; simp at hu; rcases hu with rfl | rfl <;> rfl
              case d3b => unfold maxLen; have := HG.out; omega
              case d4b => have := HG.out; omega
              try (case d5b => first | omega | (simp; omega))
              intro v3 w3 hown3 hgrow3 _
              have B3 : Hid (Below W1.heap.size W1 w3) := Lib.hid ((below_al (below_drewN B2.out _) _).grown hgrow3 (by simp; omega) (fun q hq => ((O2.out 0).lt q hq).1))
              have O3 : Hid (w3.ownsRow W1.heap.size 86 2 v3 (go T bit ps (i, j) a (k + 1)).length (pcs (enc (go T bit ps (i, j) a (k + 1))))) := Lib.hid (by have h5 := hown3; rw [pcs_snoc, show enc (go T bit ps (i, j) a k) ++ [((i2 : Int), (j2 : Int))] = enc (go T bit ps (i, j) a k ++ [(i2, j2)]) from (enc_snoc (go T bit ps (i, j) a k) (i2, j2)).symm] at h5; rw [go_yes HKA.out HQ.out (by rw [HOK.out]; exact HYES.out), List.length_append]; exact h5)
              clear hown3 hgrow3
              go_wp2_with fail
              go_roundw
              case rel => exact ⟨k + 1, by omega, by go_num, ⟨_, rfl, O3.out⟩, ⟨_, rfl⟩, B3.out⟩
              case measure => simp [intOf]; omega
          · obtain rfl : k = l := by omega
            have hlen : (go T bit ps (i, j) a k).length < n := by have h5 := go_len (T := T) (bit := bit) (ps := ps) (p := (i, j)) (a := a) (k := k); have := HN.out; have := HLT.out; omega
            have hcall := HIH.out (go T bit ps (i, j) a k) u10 wi hlen (by have h5 := go_len (T := T) (bit := bit) (ps := ps) (p := (i, j)) (a := a) (k := k); have := H16.out; omega) (fun b hb => HRG.out b (go_mem hb)) (HTT.out.below BWI.out) (pairs_of_owns hO.out).pairs
            rw [HXE.out] at hcall
            have hRe := congrArg (Lf T bit) (go_all (T := T) (bit := bit) (ps := ps) (p := (i, j)) (a := a) (k := k) HLE.out.symm)
            obtain ⟨R, hR⟩ : ∃ R, Lf T bit (go T bit ps (i, j) a k) = R := ⟨_, rfl⟩
            rw [hR] at hcall hRe
            have HRE : Hid (Lf T bit ((ps.drop (a + 1)).filter (okB T bit (i, j))) = R) := Lib.hid hRe.symm
            have hR16 : R.length ≤ 16 := by have h4 := Lf_len (T := T) (bit := bit) (go T bit ps (i, j) a k); have h5 := go_len (T := T) (bit := bit) (ps := ps) (p := (i, j)) (a := a) (k := k); rw [hR] at h4; have := H16.out; omega
            have HCALL := Lib.hid hcall
            clear hcall hR hRe
            go_wp2_with fail
            refine HCALL.out.mono ?_
            rintro e w3 ⟨u, rfl, hu, hres, hb3⟩
            obtain ⟨Au, cu, hus⟩ := hres.shape
            subst hus
            have B3 := Lib.hid (below_tr hBI.out hb3)
            have BW3 := Lib.hid (below_tr BWI.out hb3)
            have BO3 := Lib.hid (below_tr K1.out.2.1 B3.out)
            have O1 : Hid (w3.ownsRow w.heap.size 86 2 (.slice Ab Bs.length cb) Bs.length (pcs (enc Bs))) := Lib.hid (app.owns_below hBs.out.1 BO3.out)
            obtain ⟨c0', c1'⟩ := two_cells (K1.out.1.below B3.out)
            have HU := Lib.hid hu.pairs
            have HRS := Lib.hid hres
            clear hu hb3 HCALL hres hlen
            by_cases hcmp : Bs.length ≤ R.length
            · have hcz : (Bs.length : Int) ≤ (R.length : Int) := by omega
              have dk : decide ((Bs.length : Int) ≤ (R.length : Int)) = true := by simp; omega
              have HST : Hid (Sl2 T bit ps (a + 1) ((i, j) :: R)) := Lib.hid (by have h5 := hBs.out.2.take HLT.out R (by rw [HIJ.out]; exact HRE.out) hcmp; rw [HIJ.out] at h5; exact h5)
              have OB : Hid ((w3.alloc (.cells #[.int .i64 (i : Int), .int .i64 (j : Int)] 86)).ownsRow w.heap.size 86 2 (.slice (some ⟨w3.heap.size, 0, none⟩) 1 1) 1 [.int .i64 (i : Int), .int .i64 (j : Int)]) := Lib.hid (own_one _ _ BW3.out.size _ _)
              rcases HRS.out with ⟨hn1, rfl⟩ | ⟨b6, o6, c6, hn1⟩
              · cases hn1
                have hb0 : Bs = [] := List.eq_nil_of_length_eq_zero (by simpa using hcmp)
                subst hb0
                clear hcmp hcz dk
                go_wp2_with fail
                go_roundw
                case rel => exact ⟨a + 1, by have := HLT.out; omega, by go_num, ⟨_, rfl, [(i, j)], Lib.hid ⟨OB.out, HST.out⟩⟩, ⟨_, rfl⟩, ⟨_, rfl⟩, ⟨_, rfl⟩, ⟨_, rfl⟩, ⟨_, rfl⟩, below_al BW3.out _⟩
                case measure => have := HLT.out; simp [intOf]; omega
              · cases hn1
                have hsw : w.heap.size ≤ w3.heap.size := BW3.out.size
                have S0 := Lib.hid (src (HU.out.below (below_al (Below.refl _ _) (.cells #[.int .i64 (i : Int), .int .i64 (j : Int)] 86)) |> fun h => by rw [len_enc]; exact h))
                go_wp2_with (at_builtin; go_must (refine wpList_append_own _ rfl (.tmp 69) (.tmp 70) 28 rfl w.heap.size 86 i0 (.agg #[.int .i64 0, .int .i64 0]) 2 16 Try.underlying28 hi0 hz0 hz1 hz2 rfl (by decide) _ _ _ rfl OB.out ⟨b6, o6, none⟩ R.length _ (pcs (enc R)) rfl ?g0 ?g1 ?g2 ?g3 ?g4 ?g5 ?_))
                case g0 => rw [len_pcs, len_enc]
                case g1 => first | exact S0.out | (intro q u hq; have h5 := S0.out q u hq; rw [opn.add_none] at h5; exact h5)
                case g2 => exact pcs_one' _
                case g3 => unfold maxLen; omega
                case g4 => omega
                try (case g5 => first | omega | (simp; omega))
                intro v4 w4 hown4 hgrow4 _
                have B4 : Hid (Below w.heap.size w w4) := Lib.hid ((below_al BW3.out _).grown hgrow4 (by simp; omega) (fun q hq => (OB.out.lt q hq).1))
                have O4 : Hid (w4.ownsRow w.heap.size 86 2 v4 ((i, j) :: R).length (pcs (enc ((i, j) :: R)))) := Lib.hid (by rw [List.length_cons, Nat.add_comm R.length 1]; exact hown4)
                clear hown4 hgrow4
                go_wp2_with fail
                go_roundw
                case rel => exact ⟨a + 1, by have := HLT.out; omega, by go_num, ⟨_, rfl, (i, j) :: R, Lib.hid ⟨O4.out, HST.out⟩⟩, ⟨_, rfl⟩, ⟨_, rfl⟩, ⟨_, rfl⟩, ⟨_, rfl⟩, ⟨_, rfl⟩, B4.out⟩
                case measure => have := HLT.out; simp [intOf]; omega
            · have hcz : ¬ (Bs.length : Int) ≤ (R.length : Int) := by omega
              have dk : decide ((Bs.length : Int) ≤ (R.length : Int)) = false := by simp; omega
              have HST : Hid (Sl2 T bit ps (a + 1) Bs) := Lib.hid (hBs.out.2.skip HLT.out R (by rw [HIJ.out]; exact HRE.out) hcmp)
              go_wp2_with fail
              go_roundw
              case rel => exact ⟨a + 1, by have := HLT.out; omega, by go_num, ⟨_, rfl, Bs, Lib.hid ⟨O1.out, HST.out⟩⟩, ⟨_, rfl⟩, ⟨_, rfl⟩, ⟨_, rfl⟩, ⟨_, rfl⟩, ⟨_, rfl⟩, BW3.out⟩
              case measure => have := HLT.out; simp [intOf]; omega
      · obtain rfl : a = ps.length := by omega
        go_wp2_with fail
        go_ret
        have h5 := hBs.out.2.done
        subst h5
        exact ⟨_, rfl, pairs_of_owns hBs.out.1, res_of hBs.out.1, hBW.out⟩


end Go.Proofs.Ytggodllfaggjiaa.fol
