/- l3Mixture of the model. -/
import Derived.Test.YtggodllfaggjiacMxm
import Derived.Test.YtggodllfaggjiacBuilt3
import Derived.Test.YtggodllfaggjiacStep
import Derived.Deep.RegionHeld3
import Derived.BigRegion
import Derived.BigQuiet
namespace Go.Proofs.Ytggodllfaggjiac.mxb
open Go.RowKit Go.Deep Go.Proofs.Ytggodllfaggjiac.base
open Go.Proofs.Ytggodllfaggjiac.ints (ret_int infoInt infoInts)
open Go.Proofs.Ytggodllfaggjiac.val (okSizes okBox)
open Go.Proofs.Ytggodllfaggjiac.built3 (Ap)

def M (n X Y : Nat) (ss : List Int) (t r q j : Nat) : Int := S n X ss (if q < r then t + 1 else t) (q / Y) (q % Y) j
theorem M_start (n X Y : Nat) (ss : List Int) : make.quad (fun _ _ => 0) = make.quad (M n X Y ss 0 0) := by
  funext q; simp [make.quad, M, S]
theorem M_at (n X Y : Nat) (ss : List Int) (t r : Nat) {c : Nat} (hc : c < 4) : (make.quad (M n X Y ss t r) r)[c]'(by simpa [make.quad] using hc) = S n X ss t (r / Y) (r % Y) c := by
  rcases (by omega : c = 0 ∨ c = 1 ∨ c = 2 ∨ c = 3) with rfl | rfl | rfl | rfl <;> simp [make.quad, M]
theorem M_set (n X Y : Nat) (ss : List Int) (t r : Nat) {c : Nat} (hc : pl n X t (r / Y) (r % Y) = c) : make.quad (M n X Y ss t (r + 1)) r = (make.quad (M n X Y ss t r) r).set c (S n X ss t (r / Y) (r % Y) c + ss.getD t 0) := by
  have h4 := pl_lt n X t (r / Y) (r % Y)
  rcases (by omega : c = 0 ∨ c = 1 ∨ c = 2 ∨ c = 3) with rfl | rfl | rfl | rfl <;> simp [make.quad, M, S_succ, hc]
theorem M_other (n X Y : Nat) (ss : List Int) (t : Nat) {r q : Nat} (h : q ≠ r) : make.quad (M n X Y ss t (r + 1)) q = make.quad (M n X Y ss t r) q := by
  have : q < r + 1 ↔ q < r := by omega
  simp [make.quad, M, this]
theorem M_row (n X Y : Nat) (ss : List Int) (t : Nat) {r q : Nat} (h : q < r) : make.quad (M n X Y ss t r) q = make.quad (M n X Y ss (t + 1) 0) q := by
  simp [make.quad, M, h]
theorem M_end (X Y : Nat) (ss : List Int) (k : Nat) : (List.range k).map (make.quad (M (X + Y) X Y ss (2 ^ (X + Y)) 0)) = make.rowsOf (N X Y ss) k := by
  unfold make.rowsOf
  refine List.map_congr_left (fun q _ => ?_)
  simp [make.quad, M, N]
theorem inner (X Y t r : Nat) (hX : X ≤ 3) (hY : Y ≤ 3) (hY1 : 1 ≤ Y) (hr : r < X * Y) : ∃ i j d n c p q : Nat, r / Y = i ∧ r % Y = j ∧ X + Y = n ∧ i < n ∧ d < n ∧ wrap64 ((r : Int) / (Y : Int)) = (i : Int) ∧ IntKind.i64.wrap ((r : Int) / (Y : Int)) = (i : Int) ∧ (r : Int) % (Y : Int) = (j : Int) ∧
    IntKind.i64.wrap ((X : Int) + (j : Int)) = (d : Int) ∧ (i : Int) < (n : Int) ∧ (d : Int) < (n : Int) ∧ c < 4 ∧ (c : Int) < 4 ∧ pl n X t i j = c ∧ b n t i = p ∧ b n t d = q ∧ IntKind.i64.wrap (2 * (p : Int)) = 2 * (p : Int) ∧ IntKind.i64.wrap (2 * (p : Int) + (q : Int)) = (c : Int) := by
  have hi : r / Y < X := Nat.div_lt_of_lt_mul (by rw [Nat.mul_comm]; exact hr)
  have hj : r % Y < Y := Nat.mod_lt _ (by omega)
  have k1 : wrap64 ((r : Int) / (Y : Int)) = ((r / Y : Nat) : Int) := by
    rw [show (r : Int) / (Y : Int) = ((r / Y : Nat) : Int) by simp]
    generalize r / Y = i at *
    exact IntWalk.wrap64_in _ (by omega)
  have k2 : (r : Int) % (Y : Int) = ((r % Y : Nat) : Int) := by simp
  generalize r / Y = i at *
  generalize r % Y = j at *
  have t1 := b_two (X + Y) t i
  have t2 := b_two (X + Y) t (X + j)
  have hp : pl (X + Y) X t i j = 2 * b (X + Y) t i + b (X + Y) t (X + j) := rfl
  refine ⟨i, j, X + j, X + Y, _, _, _, rfl, rfl, rfl, by omega, by omega, k1, by rw [IntWalk.i64_left]; exact k1, k2, ?_, by omega, by omega, pl_lt _ _ _ _ _, ?_, rfl, rfl, rfl, ?_, ?_⟩
  · rw [IntWalk.i64_in _ (by omega)]; omega
  · have := pl_lt (X + Y) X t i j; omega
  · exact IntWalk.i64_in _ (by omega)
  · rw [IntWalk.i64_in _ (by omega), hp]; omega

theorem M_quad (X Y : Nat) (ss : List Int) : make.quad (M (X + Y) X Y ss (2 ^ (X + Y)) 0) = make.quad (N X Y ss) := by
  funext q; simp [make.quad, M, N]
theorem pos_ne {Y : Nat} (h : 1 ≤ Y) : ¬ (Y : Int) = 0 := by omega
theorem le64 {t l : Nat} (h : t < l) (hl : (l : Int) ≤ 64) : t ≤ 64 := by omega
theorem wrap_small {z y : Int} {t : Nat} (h : 0 ≤ z ∧ z ≤ 1000 * t) (h1 : 0 ≤ y) (h2 : y ≤ 1000) (ht : t ≤ 64) : IntKind.i64.wrap (z + y) = z + y := IntWalk.i64_in _ (by omega)
theorem not_low {a g s : Nat} (h1 : a = g) (e : a = s) (hg : s + 1 ≤ g) : False := by omega
theorem le_g {g s : Nat} (hg : s + 1 ≤ g) : s ≤ g := by omega
theorem bit_at {n t i : Nat} (h : i < n) : (plays.at_ n t)[i]'(by rw [plays.len_at]; exact h) = ((b n t i : Nat) : Int) := by simp [plays.at_, bit_b]


set_option maxRecDepth 100000 in
set_option maxHeartbeats 4000000 in
theorem l3mix (X Y : Nat) (v : Value) (ss : List Int) (w : World) (h : Ints w v ss) (hok : okShares X Y ss) :
    Calls Try.prog 56 #[.int .i64 (X : Int), .int .i64 (Y : Int), v] w fun e w' => ∃ u, e = .returned (.agg #[.int .i64 (X : Int), .int .i64 (Y : Int), .int .i64 ss.sum, u]) ∧ (∃ T, Ap w' (w.heap.size + 1) T u (X * Y) (make.quad (N X Y ss))) ∧ Below w.heap.size w w' := by
  obtain ⟨s0, si, sz0, sz1, sz2⟩ := info_parts infoInts
  have HF := Lib.hid h
  obtain ⟨C, b3, o3, cap, rfl, _, _, hC, hcs⟩ := h.form
  have hlen : ss.length = 2 ^ (X + Y) := by rw [hok.2.2.1]; congr 1
  have hm64 : 2 ^ (X + Y) ≤ 64 := plays.two_pow (by have := hok.1.1; have := hok.1.2; omega)
  obtain rfl := hC (by have := Nat.two_pow_pos (X + Y); omega)
  have HSH : Hid (∀ t (ht : t < ss.length), w.cell? ⟨b3, o3 + t, none⟩ = some (.int .i64 (ss.getD t 0)) ∧ 0 ≤ ss.getD t 0 ∧ ss.getD t 0 ≤ 1000) := Lib.hid (fun t ht => by
    rw [getD_at ht]
    exact ⟨hcs t ht, hok.2.1 t ht⟩)
  have HBD : Hid (∀ t, t ≤ ss.length → ∀ i j k, 0 ≤ S (X + Y) X ss t i j k ∧ S (X + Y) X ss t i j k ≤ 1000 * t) := Lib.hid (fun t ht i j k => S_bd hok.2.1 i j k t ht)
  have HTS : Hid (∀ t, t ≤ ss.length → 0 ≤ (ss.take t).sum ∧ (ss.take t).sum ≤ 1000 * t) := Lib.hid (fun t ht => sum_bd t ht (fun j g _ => hok.2.1 j g))
  have HPL := Lib.hid (fun W => plays.l2plays X Y W hok.1)
  rw [show ((X : Int) + (Y : Int)).toNat = X + Y by omega] at HPL
  have HLE := Lib.hid hlen
  have HQE : Hid (make.quad (N X Y ss) = make.quad (M (X + Y) X Y ss ss.length 0)) := Lib.hid (by rw [hlen]; exact (M_quad X Y ss).symm)
  have HOK := Lib.hid hok
  have hX : X ≤ 3 := by have := hok.1.1; omega
  have hY : Y ≤ 3 := by have := hok.1.2; omega
  have hY1 : 1 ≤ Y := by have := hok.1.2; omega
  have h9 : X * Y ≤ 9 := Nat.mul_le_mul hX hY
  have hm : (X : Int) * (Y : Int) = ((X * Y : Nat) : Int) := by simp
  have hw1 : IntKind.i64.wrap ((X : Int) * (Y : Int)) = ((X * Y : Nat) : Int) := by rw [hm]; exact IntWalk.i64_in _ (by omega)
  have HW0 : Hid (make.Way w (((w.alloc (.cells #[.int .i64 0, .int .i64 0, .int .i64 0, .slice none 0 0] 29)).alloc (.cells #[] 25)).alloc (.cells #[.int .i64 (X : Int), .int .i64 (Y : Int), .int .i64 0, .slice (some ⟨w.heap.size + 1, 0, none⟩) 0 0] 29)) (w.heap.size + 1 + 1) X Y 0 0 (.slice (some ⟨w.heap.size + 1, 0, none⟩) 0 0) [] (fun _ _ => 0)) := Lib.hid (by
    refine ⟨below_al (below_al (below_al (Below.refl _ _) _) _) _, by omega, ?_, ?_, ?_, fun r u hu => by simp at hu, fun r s g g' _ hu => by simp at hu⟩
    · have := Blk.new ((w.alloc (.cells #[.int .i64 0, .int .i64 0, .int .i64 0, .slice none 0 0] 29)).alloc (.cells #[] 25)) 29 #[.int .i64 (X : Int), .int .i64 (Y : Int), .int .i64 0, .slice (some ⟨w.heap.size + 1, 0, none⟩) 0 0]
      simpa using this
    · exact ((Blk.new w 29 #[.int .i64 0, .int .i64 0, .int .i64 0, .slice none 0 0]).alloc _).alloc _
    · have := World.ownsRow_made (base := w.heap.size + 1) (e := 25) (size := 1) (w.alloc (.cells #[.int .i64 0, .int .i64 0, .int .i64 0, .slice none 0 0] 29)) #[] 0 (by simp) (Nat.zero_le _) rfl
      have := this.alloc (.cells #[.int .i64 (X : Int), .int .i64 (Y : Int), .int .i64 0, .slice (some ⟨w.heap.size + 1, 0, none⟩) 0 0] 29)
      simpa using this)
  have hmk : ∀ W : World, (Instr.makeSlice 25 (.int .i64 4) (.int .i64 4)).run Try.prog W = .ok (.slice (some ⟨W.heap.size, 0, none⟩) 4 4) (W.alloc (.cells #[.int .i64 0, .int .i64 0, .int .i64 0, .int .i64 0] 3)) := fun W => by
    have := run_make_row' (P := Try.prog) 25 3 (.int .i64 0) 8 Try.underlying25 infoInt rfl .i64 .i64 4 (by omega) (by omega) W
    rw [show madeCells #[Value.int .i64 0] 4 = #[.int .i64 0, .int .i64 0, .int .i64 0, .int .i64 0] by unfold madeCells; rw [show Array.range 4 = #[0, 1, 2, 3] by decide]; simp] at this
    exact this
  clear h hok hm hC hcs HF hlen
  go_enter Try.func56, Try.ntmps56
  go_wp2_with fail
  go_loopw [8] (fun i wr => ∃ k : Nat, k ≤ X * Y ∧ i = .int .i64 k ∧ ∃ v vals, Hid (make.Way w wr (w.heap.size + 1 + 1) X Y 0 k v vals (fun _ _ => 0))) (fun i _ => X * Y - (intOf i).toNat)
  case atStart => exact ⟨0, Nat.zero_le _, rfl, _, _, HW0⟩
  case round =>
    obtain ⟨k, hk, rfl, v, vals, hW⟩ := hrel
    clear HW0
    obtain ⟨wi, rfl⟩ : ∃ wi : World, wi = wr := ⟨_, rfl⟩
    by_cases hlt : k < X * Y
    · have hkz : (k : Int) < ((X * Y : Nat) : Int) := by omega
      obtain ⟨c0, c1, c2, c3, c4⟩ := four_cells hW.out.blk
      have hsz := hW.out.blk.lt
      have c3' := fun (o1 o2 : Obj) => below_cell (below_al (below_al (Below.refl _ _) o1) o2) _ _ c3
      have HG := Lib.hid (hW.out.keep (below_dr (below_al (below_al (Below.refl _ _) (.cells #[.int .i64 0, .int .i64 0, .int .i64 0, .int .i64 0] 3)) (.cells #[.slice (some ⟨wi.heap.size, 0, none⟩) 4 4] 25))))
      have HO2 := Lib.hid (app.owns_below hW.out.owns (below_dr (below_al (below_al (Below.refl _ _) (.cells #[.int .i64 0, .int .i64 0, .int .i64 0, .int .i64 0] 3)) (.cells #[.slice (some ⟨wi.heap.size, 0, none⟩) 4 4] 25))))
      have HNE : Hid (some (w.heap.size + 1 + 1) ≠ v.ownBlock) := Lib.hid (fun e => built.apart_blk hW.out.owns hW.out.blk (by decide) e.symm)
      have hB1 : w.heap.size + 1 ≤ wi.heap.size + 1 + 1 := by omega
      have c3a := fun (o1 : Obj) => below_cell (below_al (Below.refl _ _) o1) _ _ c3
      have hri : (wi.alloc (.cells #[.int .i64 0, .int .i64 0, .int .i64 0, .int .i64 0] 3)).rowIs wi.heap.size 3 4 (fun j => .int .i64 ((make.quad (fun _ _ => 0) k).getD j 0)) := by
        refine ⟨#[.int .i64 0, .int .i64 0, .int .i64 0, .int .i64 0], heap_alloc_new _ _, rfl, fun i hi => ?_⟩
        match i, hi with
        | 0, _ => rfl
        | 1, _ => rfl
        | 2, _ => rfl
        | 3, _ => rfl
      have HRR := Lib.hid (hri.of_block ((below_dr (below_al (Below.refl _ (wi.alloc (.cells #[.int .i64 0, .int .i64 0, .int .i64 0, .int .i64 0] 3))) (.cells #[.slice (some ⟨wi.heap.size, 0, none⟩) 4 4] 25))).block _ hri.lt))
      have HFR : Hid (∀ (r g' : Nat), vals[r]? = some (Value.slice (some ⟨g', 0, none⟩) 4 4) → g' ≠ wi.heap.size) := Lib.hid (fun r g' hu => by
        obtain ⟨g, e, _, hr⟩ := hW.out.row r _ hu
        injection e with e; injection e with e; injection e with e
        have := hr.lt; omega)
      clear hri
      clear c0 c1 c2 c4
      go_wp2_with fail
      go_region_law (refine step.own rfl (.tmp 25) (.tmp 27) 22 rfl 25 s0 (.slice none 0 0) 1 24 Try.underlying22 si sz0 sz1 sz2 rfl (by decide) (w.heap.size + 1) _ k _ HO2.out (by simp [Act.eval]) ⟨wi.heap.size + 1, 0, none⟩ 1 1 [.slice (some ⟨wi.heap.size, 0, none⟩) 4 4] (by simp [Act.eval]) rfl (by intro j u hj; have := app.one_at (wi.alloc (.cells #[.int .i64 0, .int .i64 0, .int .i64 0, .int .i64 0] 3)) (.slice (some ⟨wi.heap.size, 0, none⟩) 4 4) 25; simpa using this j u (by simpa using hj)) (by intro u hu; simp at hu; subst hu; rfl) (by unfold maxLen; omega) (by omega) (by simp; omega) ?_; intro v' w3 hown' hgrow; obtain ⟨f1, f2⟩ := HG.out.field hgrow; obtain ⟨xa, xl, xc, rfl⟩ := make.shape hown'; have HCA := Lib.hid (below_cell (below_dr (below_al (below_al (Below.refl wi.heap.size wi) (.cells #[.int .i64 0, .int .i64 0, .int .i64 0, .int .i64 0] 3)) (.cells #[.slice (some ⟨wi.heap.size, 0, none⟩) 4 4] 25))) _ _ c3))
      all_goals
        have W4 := Lib.hid (HG.out.grow HRR.out (by omega) HFR.out hown' hgrow)
        clear hown' hgrow hW HG HRR HFR HNE HCA f1 f2 c3 c3' c3a HO2 hsz hB1
        go_wp2_with fail
        go_roundw
        case rel => exact ⟨k + 1, by omega, by go_num, _, _, W4⟩
        case measure => simp [intOf]; omega
    · have hkz : ¬ (k : Int) < ((X * Y : Nat) : Int) := by omega
      obtain rfl : k = X * Y := by omega
      have hXY : 0 < X * Y := Nat.mul_pos (by have := HOK.out.1.1; omega) (by omega)
      have hA0 := Ap.of_way hW.out
      rw [M_start (X + Y) X Y ss] at hA0
      obtain ⟨vb, vg, vc, vc', rfl, hvb, _, _, _, hvT, _⟩ := hA0.cell (r := 0) (c := 0) hXY (by simp [make.quad])
      have hbb := hW.out.blk.lt
      have HBB := Lib.hid hbb
      clear hkz hmk hk hlt hvb hvT
      have c3 := (four_cells hW.out.blk).2.2.2.1
      go_wp2_with fail
      refine (HPL.out _).mono ?_
      rintro e w2 ⟨u, rfl, hu, hb⟩
      have hul : (plays.all (X + Y)).length = ss.length := by rw [HLE.out]; exact plays.len_upto _ _
      obtain ⟨UA, ucap, rfl⟩ : ∃ A c, u = .slice A ss.length c := by obtain ⟨A, b, o, cap, R, hu', _⟩ := hu.rows.form; exact ⟨A, cap, by rw [hu', hul]⟩
      have A2 := Lib.hid (hA0.below hb)
      have K2 : Hid (Blk w2 (w.heap.size + 1 + 1) 29 #[.int .i64 (X : Int), .int .i64 (Y : Int), .int .i64 (ss.take 0).sum, .slice (some ⟨vb, 0, none⟩) (X * Y) vc]) := Lib.hid (hW.out.blk.below hb)
      have R2 := Lib.hid (hW.out.res.below hb)
      have B2 := Lib.hid (below_tr hW.out.below hb)
      have U2 := Lib.hid hu
      clear hA0 hb hu hW c3 hbb hul
      go_wp2_with fail
      go_loopw [10, 11, 12] (fun i z11 z12 wr => ∃ t : Nat, t ≤ ss.length ∧ i = .int .i64 t ∧ (∃ z, z11 = z) ∧ (∃ z, z12 = z) ∧ Hid (Ap wr (w.heap.size + 1) wi.heap.size (.slice (some ⟨vb, 0, none⟩) (X * Y) vc) (X * Y) (make.quad (M (X + Y) X Y ss t 0))) ∧
        Hid (Blk wr (w.heap.size + 1 + 1) 29 #[.int .i64 (X : Int), .int .i64 (Y : Int), .int .i64 (ss.take t).sum, .slice (some ⟨vb, 0, none⟩) (X * Y) vc]) ∧ Hid (Blk wr w.heap.size 29 #[.int .i64 0, .int .i64 0, .int .i64 0, .slice none 0 0]) ∧
        Hid (OwnRows wr wi.heap.size w2.heap.size (.slice UA ss.length ucap) (plays.all (X + Y))) ∧ Hid (Below w.heap.size w wr)) (fun i _ _ _ => ss.length - (intOf i).toNat)
      case atStart => exact ⟨0, Nat.zero_le _, rfl, ⟨_, rfl⟩, ⟨_, rfl⟩, A2, K2, R2, U2, B2⟩
      case round =>
        obtain ⟨t, ht, rfl, ⟨z11, rfl⟩, ⟨z12, rfl⟩, hA, hK, hR, hU, hB⟩ := hrel
        clear A2 K2 R2 U2 B2
        obtain ⟨wo, rfl⟩ : ∃ wo : World, wo = wr := ⟨_, rfl⟩
        have hml : (ss.length : Int) ≤ 64 := by have := HLE.out; omega
        clear hm64
        by_cases hlt : t < ss.length
        · have hkz : (t : Int) < (ss.length : Int) := by omega
          have HLT := Lib.hid hlt
          obtain ⟨q0, q1, q2, q3, q4⟩ := four_cells hK.out
          have qf := fun k => Joins.unfrozen_of_block hK.out k
          obtain ⟨s1, s2, s3⟩ := HSH.out t hlt
          have f4 := below_cell hB.out _ _ s1
          have HS1 : Hid ((ss.take (t + 1)).sum = (ss.take t).sum + ss.getD t 0) := Lib.hid (by rw [take_sum hlt, getD_at hlt])
          have hbd := HTS.out t ht
          have kw : IntKind.i64.wrap ((ss.take t).sum + ss.getD t 0) = (ss.take t).sum + ss.getD t 0 := IntWalk.i64_in _ (by omega)
          have hw := Wrote.drew (Wrote.setCell (S := fun p => p.block = w.heap.size + 1 + 1) (p := (⟨w.heap.size + 1 + 1, 2, none⟩ : Addr)) (Wrote.refl _ wo) rfl (.int .i64 ((ss.take t).sum + ss.getD t 0)))
          have A3 := Lib.hid (hA.out.box hK.out hw)
          have R3 := Lib.hid (hR.out.wrote hw (fun p hp => by rw [hp]; omega))
          have U3 := Lib.hid (hU.out.wrote hw (fun p hp => .inl (by have hp' : p.block = w.heap.size + 1 + 1 := hp; have := HBB.out; omega)))
          have B3 := Lib.hid (below_dr (hB.out.setCell (p := (⟨w.heap.size + 1 + 1, 2, none⟩ : Addr)) (by show w.heap.size ≤ w.heap.size + 1 + 1; omega) (.int .i64 ((ss.take t).sum + ss.getD t 0))))
          have K3 : Hid (Blk (wo.setCell ⟨w.heap.size + 1 + 1, 2, none⟩ (.int .i64 ((ss.take t).sum + ss.getD t 0))).drew (w.heap.size + 1 + 1) 29 #[.int .i64 (X : Int), .int .i64 (Y : Int), .int .i64 (ss.take (t + 1)).sum, .slice (some ⟨vb, 0, none⟩) (X * Y) vc]) := Lib.hid (by
            have hB2 : Blk (wo.setCell ⟨w.heap.size + 1 + 1, 2, none⟩ (.int .i64 ((ss.take t).sum + ss.getD t 0))) (w.heap.size + 1 + 1) 29 #[.int .i64 (X : Int), .int .i64 (Y : Int), .int .i64 (ss.take (t + 1)).sum, .slice (some ⟨vb, 0, none⟩) (X * Y) vc] := by
              have := Joins.block_setCell (i := 2) hK.out (.int .i64 ((ss.take t).sum + ss.getD t 0))
              rw [HS1.out]
              unfold Blk
              simpa using this
            exact hB2.below (below_dr (Below.refl _ _)))
          clear hw hbd s1 hA hK hR hU hB HS1
          generalize (ss.take t).sum = sm at *
          generalize hy : ss.getD t 0 = y at *
          have HY := Lib.hid hy
          clear hy
          go_wp2_with fail
          go_region
          clear kw q0 q1 q2 q3 q4 f4 qf
          go_wp2_with fail
          go_loopw [11, 12] (fun i z12 wr => ∃ r : Nat, r ≤ X * Y ∧ i = .int .i64 r ∧ (∃ z, z12 = z) ∧ Hid (Ap wr (w.heap.size + 1) wi.heap.size (.slice (some ⟨vb, 0, none⟩) (X * Y) vc) (X * Y) (make.quad (M (X + Y) X Y ss t r))) ∧
            Hid (Blk wr (w.heap.size + 1 + 1) 29 #[.int .i64 (X : Int), .int .i64 (Y : Int), .int .i64 (ss.take (t + 1)).sum, .slice (some ⟨vb, 0, none⟩) (X * Y) vc]) ∧ Hid (Blk wr w.heap.size 29 #[.int .i64 0, .int .i64 0, .int .i64 0, .slice none 0 0]) ∧
            Hid (OwnRows wr wi.heap.size w2.heap.size (.slice UA ss.length ucap) (plays.all (X + Y))) ∧ Hid (Below w.heap.size w wr)) (fun i _ _ => X * Y - (intOf i).toNat)
          case atStart => exact ⟨0, Nat.zero_le _, rfl, ⟨_, rfl⟩, A3, K3, R3, U3, B3⟩
          case round =>
            clear A3 K3 R3 U3 B3
            obtain ⟨r, hr, rfl, ⟨z12, rfl⟩, hA, hK, hR, hU, hB⟩ := hrel
            obtain ⟨wq, rfl⟩ : ∃ wq : World, wq = wr := ⟨_, rfl⟩
            by_cases hlr : r < X * Y
            · have hkr : (r : Int) < ((X * Y : Nat) : Int) := by omega
              have HLR := Lib.hid hlr
              obtain ⟨i, j, d, n, c, p, q, hi, hj, hn, hin, hdn, kq1, kq2, kr, kd, iin, idn, hc4, hcz, hc, hp, hq, kp, kpq⟩ := inner X Y t r hX hY hY1 hlr
              have hyz : ¬ Y = 0 := Nat.ne_of_gt hY1
              obtain ⟨A9, b9, o9, c9, R9, hv9, _, _, hA9, hc9⟩ := hU.out.rows.form
              injection hv9 with hv9 hv7 hv8
              subst hv9
              obtain ⟨e1, e2⟩ := hc9 t (by have := HLT.out; rw [show (plays.all (X + Y)).length = ss.length by rw [HLE.out]; exact plays.len_upto _ _]; exact this)
              rw [show (plays.all (X + Y))[t]'(by have := HLT.out; rw [show (plays.all (X + Y)).length = ss.length by rw [HLE.out]; exact plays.len_upto _ _]; exact this) = plays.at_ (X + Y) t by simp [plays.all, plays.upto]] at e2
              obtain rfl := hA9 (by have := HLT.out; rw [show (plays.all (X + Y)).length = ss.length by rw [HLE.out]; exact plays.len_upto _ _]; exact Nat.lt_of_le_of_lt (Nat.zero_le _) this)
              rw [hn] at e2
              obtain ⟨C2, b2, o2, cap2, hR2, _, _, hA2, hc2⟩ := e2.form
              rw [plays.len_at] at hR2 hA2
              obtain rfl := hA2 (Nat.lt_of_le_of_lt (Nat.zero_le _) hin)
              rw [hR2] at e1
              have f2 := hc2 i (by rw [plays.len_at]; exact hin)
              rw [bit_at hin, hp] at f2
              have f3 := hc2 d (by rw [plays.len_at]; exact hdn)
              rw [bit_at hdn, hq] at f3
              obtain ⟨q0, q1, q2, q3, q4⟩ := four_cells hK.out
              obtain ⟨s1, s2, s3⟩ := HSH.out t HLT.out
              rw [HY.out] at s1 s2 s3
              have f4 := below_cell hB.out _ _ s1
              obtain ⟨vb', g, cp, cp', hv', hb', ⟨cs, hcs⟩, g1, hg, hgT, g2, g3, g4⟩ := hA.out.cell (r := r) (c := c) hlr (by simpa [make.quad] using hc4)
              injection hv' with h1 h2 h3
              injection h1 with h1
              injection h1 with h1 _ _
              subst h1
              clear h2 h3 hv8 hv7
              rw [show (make.quad (M (X + Y) X Y ss t r) r).length = 4 from rfl] at g1
              rw [M_at (X + Y) X Y ss t r hc4] at g2
              have hbd := HBD.out t (Nat.le_of_lt HLT.out) (r / Y) (r % Y) c
              have ht64 : t ≤ 64 := le64 HLT.out hml
              have A4 := g4 (S (X + Y) X ss t (r / Y) (r % Y) c + y) (make.quad (M (X + Y) X Y ss t (r + 1))) (by rw [← HY.out]; exact M_set (X + Y) X Y ss t r (by rw [hn, hi, hj]; exact hc)) (fun q hq => M_other (X + Y) X Y ss t hq)
              have kw : IntKind.i64.wrap (S (X + Y) X ss t (r / Y) (r % Y) c + y) = S (X + Y) X ss t (r / Y) (r % Y) c + y := wrap_small hbd s2 s3 ht64
              clear g4
              generalize S (X + Y) X ss t (r / Y) (r % Y) c = z at *
              have A5 := Lib.hid (A4.below (below_dr (below_dr (Below.refl _ _))))
              have hw := Wrote.drew (Wrote.drew (Wrote.setCell (S := fun p => p.block = g) (p := (⟨g, c, none⟩ : Addr)) (Wrote.refl _ wq) rfl (.int .i64 (z + y))))
              have K5 := Lib.hid (hK.out.wrote hw (fun p hp e => by have h1 : p.block = g := hp; have h5 : g = w.heap.size + 1 + 1 := h1.symm.trans e; subst h5; exact absurd (make.blk_type hcs hK.out) (by decide)))
              have R5 := Lib.hid (hR.out.wrote hw (fun p hp e => not_low hp e hg))
              have U5 := Lib.hid (hU.out.wrote hw (fun p hp => .inl (by have hp' : p.block = g := hp; rw [hp']; exact hgT)))
              have B5 := Lib.hid (below_dr (below_dr (hB.out.setCell (p := (⟨g, c, none⟩ : Addr)) (le_g hg) (.int .i64 (z + y)))))
              clear A4 hw hcs hA hK hR hU hB hi hj hn hc hp hq hbd ht64 s1 s2 s3 hR2 hA2 hc2 e2 hc9 hA9 q0 q1 q2 q4
              go_wp2_with fail
              go_region
              go_wp2_with fail
              go_region
              clear kw kq1 kq2 kr kd kp kpq hyz iin idn hcz hc4 q3 g1 g2 g3 e1 f2 f3 f4 hin hdn hg hgT
              go_wp2_with fail
              go_roundw
              case rel => exact ⟨r + 1, by have := HLR.out; omega, by go_num, ⟨_, rfl⟩, A5, K5, R5, U5, B5⟩
              case measure => have := HLR.out; simp [intOf]; omega
            · have hkr : ¬ (r : Int) < ((X * Y : Nat) : Int) := by omega
              obtain rfl : r = X * Y := by omega
              have A6 := Lib.hid (hA.out.congr (fun q hq => M_row (X + Y) X Y ss t hq))
              clear hA
              go_wp2_with fail
              go_roundw
              case rel => exact ⟨t + 1, by have := HLT.out; omega, by go_num, ⟨_, rfl⟩, ⟨_, rfl⟩, A6, hK, hR, hU, hB⟩
              case measure => have := HLT.out; simp [intOf]; omega
        · have hkz : ¬ (t : Int) < (ss.length : Int) := by omega
          obtain rfl : t = ss.length := by omega
          have HRO := Lib.hid (hA.out)
          rw [List.take_length] at hK
          obtain ⟨q0, q1, q2, q3, q4⟩ := four_cells hK.out
          obtain ⟨r0, r1, r2, r3, r4⟩ := four_cells hR.out
          have rf : ∀ k, wo.frozen? ⟨w.heap.size, k, none⟩ = false := fun k => Joins.unfrozen_of_block hR.out k
          clear hA hU hK hR
          go_wp2_with fail
          refine bodyPost_ret (v := .agg #[.int .i64 (X : Int), .int .i64 (Y : Int), .int .i64 ss.sum, .slice (some ⟨vb, 0, none⟩) (X * Y) vc]) (by simp [results, Try.results56, go_sem, r0, r1, r2, r3]) rfl ⟨_, rfl, ?_, ?_⟩
          · refine ⟨wi.heap.size, ?_⟩
            rw [HQE.out]
            refine HRO.out.low ?_
            repeat (first | exact Wrote.refl _ _ | refine Wrote.setCell ?_ (by simp) _)
          · repeat (first | (with_reducible exact hB.out) | refine Below.setCell ?_ (by simp) _)


end Go.Proofs.Ytggodllfaggjiac.mxb
