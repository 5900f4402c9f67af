/- FlipAnswers of the model: the flipped box. -/
import Derived.Test.YtlaaiahkdkhehaaFlipc
namespace Go.Proofs.Ytlaaiahkdkhehaa.flipa
open Go.RowKit Go.Deep Go.Proofs.Ytlaaiahkdkhehaa.base
open Go.Proofs.Ytlaaiahkdkhehaa.ints (ret_int infoInt infoInts)
open Go.Proofs.Ytlaaiahkdkhehaa.rws (total)
open Go.Proofs.Ytlaaiahkdkhehaa.val (okSizes okBox boxB boxB_yes boxB_no)
open Go.Proofs.Ytlaaiahkdkhehaa.play (within withinB withinB_yes withinB_no)
open Go.Proofs.Ytlaaiahkdkhehaa.row (nn nn_bd at_ at_lt)

/-- the new row after k rounds -/
def T (n : Nat → Int) (f k j : Nat) : Int := if j ^^^ f < k then n (j ^^^ f) else 0
def rowA (n : Nat → Int) (f k : Nat) : Array Value := #[.int .i64 (T n f k 0), .int .i64 (T n f k 1), .int .i64 (T n f k 2), .int .i64 (T n f k 3)]
theorem xor_lt : ∀ f k : Fin 4, k.val ^^^ f.val < 4 := by decide
theorem xor_bits : ∀ f k : Fin 4, bits .xor .i64 ((k.val : Nat) : Int) ((f.val : Nat) : Int) = ((k.val ^^^ f.val : Nat) : Int) := by decide
theorem rowA_set (n : Nat → Int) (f k : Nat) (hf : f < 4) (hk : k < 4) : (rowA n f k).setIfInBounds (k ^^^ f) (.int .i64 (n k)) = rowA n f (k + 1) := by
  obtain rfl | rfl | rfl | rfl : f = 0 ∨ f = 1 ∨ f = 2 ∨ f = 3 := by omega
  all_goals
    obtain rfl | rfl | rfl | rfl : k = 0 ∨ k = 1 ∨ k = 2 ∨ k = 3 := by omega
    all_goals simp [rowA, T]
theorem rowA_done (xss : List (List Int)) (fs : List Int) (X Y r : Nat) (hf : fo fs X Y r < 4) (W : World) (g : Nat) (h : Blk W g 3 (rowA (nn xss r) (fo fs X Y r) 4)) :
    W.rowIs g 3 4 (fun j => .int .i64 ((make.quad (N xss fs X Y) r).getD j 0)) := by
  refine ⟨_, h, rfl, fun i hi => ?_⟩
  have e : ∀ j : Nat, j < 4 → T (nn xss r) (fo fs X Y r) 4 j = N xss fs X Y r j := fun j hj => by
    unfold T N
    rw [if_pos (xor_lt ⟨fo fs X Y r, hf⟩ ⟨j, hj⟩)]
  match i, hi with
  | 0, _ => simp [rowA, make.quad, e 0 (by omega)]
  | 1, _ => simp [rowA, make.quad, e 1 (by omega)]
  | 2, _ => simp [rowA, make.quad, e 2 (by omega)]
  | 3, _ => simp [rowA, make.quad, e 3 (by omega)]
theorem fo_lt {fs : List Int} {X Y a c : Nat} (hc : c < Y) (h1 : 0 ≤ fs.getD a 0 ∧ fs.getD a 0 ≤ 1) (h2 : 0 ≤ fs.getD (X + c) 0 ∧ fs.getD (X + c) 0 ≤ 1) : fo fs X Y (a * Y + c) < 4 := by
  rw [fo_at fs X Y a c hc]; omega

set_option maxHeartbeats 1000000 in
theorem l2row_at (x y wh i j : Int) (b o cap n : Nat) (u : Value) (w : World) (hs : okSizes x y) (hn : (n : Int) = x * y) (g0 : w.cell? ⟨b, o + at_ y i j, none⟩ = some u) (i0 : 0 ≤ i) (i1 : i < x) (j0 : 0 ≤ j) (j1 : j < y) :
    Calls Try.prog 117 #[.agg #[.int .i64 x, .int .i64 y, .int .i64 wh, .slice (some ⟨b, o, none⟩) n cap], .int .i64 i, .int .i64 j] w fun e w' => e = .returned u ∧ Below w.heap.size w w' := by
  obtain ⟨d1, d2, d3, d4⟩ := row.idx_lt hs i0 i1 j0 j1
  have gl : b < w.heap.size := World.block_lt_of_cell? _ _ g0
  have e0 : i * y + j < (n : Int) := by omega
  have g0' : w.cell? ⟨b, o + (i * y + j).toNat, none⟩ = some u := g0
  have m9 := row.mul9 hs
  obtain ⟨k1, k2⟩ := row.wrap2 d1 d2 d4 (by omega)
  have HL := Lib.hid hn
  clear hs hn g0 m9
  go_enter Try.func117, Try.ntmps117
  go_wp2_with fail
  go_ret
  exact ⟨rfl, below_al (Below.refl _ _) _⟩

set_option maxHeartbeats 4000000 in
theorem l2flip (X Y : Nat) (wh : Int) (v vf : Value) (xss : List (List Int)) (fs : List Int) (w : World) (h : IRows w v xss) (hf : Ints w vf fs) (ha : all X Y wh xss fs) :
    Calls Try.prog 91 #[.agg #[.int .i64 (X : Int), .int .i64 (Y : Int), .int .i64 wh, v], vf] w fun e w' => ∃ r, e = .returned (.agg #[.int .i64 (X : Int), .int .i64 (Y : Int), .int .i64 wh, r]) ∧ OwnRows w' w.heap.size w'.heap.size r (make.rowsOf (N xss fs X Y) (X * Y)) ∧ Below w.heap.size w w' := by
  obtain ⟨i0, hi, hz0, hz1, hz2⟩ := info_parts infoInts
  obtain ⟨hs, hw⟩ := ha
  obtain ⟨A, b0, o0, vc, R0r, rfl, hcap0, hmax0, hA0, hcc0⟩ := h.form
  have hX := hs.1.1.2
  have hY := hs.1.2.2
  have h9 : X * Y ≤ 9 := Nat.mul_le_mul (by omega : X ≤ 3) (by omega : Y ≤ 3)
  have hlen := hs.2.2.1
  obtain rfl := hA0 (by have := val.mul_small hs.1; omega)
  have hl : fs.length = X + Y := by have := hw.1; omega
  obtain ⟨F, fb, fo', fcap, rfl, _, _, hF, hfc⟩ := hf.form
  have hl1 := hs.1.1.1
  obtain rfl := hF (by omega)
  have HFC := Lib.hid hfc
  have HFB := Lib.hid hw.2
  have HLF := Lib.hid hl
  have H9 := Lib.hid h9
  have HS := Lib.hid hs
  have HCC := Lib.hid hcc0
  have HLN := Lib.hid hlen
  clear h hf hs hw h9 hcc0 hlen hfc hl hmax0 hl1
  have P00 := Lib.hid (Blk.new w 24 #[.int .i64 (X : Int), .int .i64 (Y : Int), .int .i64 wh, .slice (some ⟨b0, o0, none⟩) xss.length vc])
  have HW0 : Hid (make.Way (w.alloc (.cells #[.int .i64 (X : Int), .int .i64 (Y : Int), .int .i64 wh, .slice (some ⟨b0, o0, none⟩) xss.length vc] 24)) ((((w.alloc (.cells #[.int .i64 (X : Int), .int .i64 (Y : Int), .int .i64 wh, .slice (some ⟨b0, o0, none⟩) xss.length vc] 24)).alloc (.cells #[.int .i64 0, .int .i64 0, .int .i64 0, .slice none 0 0] 24)).alloc (.cells #[] 36)).alloc (.cells #[.int .i64 (X : Int), .int .i64 (Y : Int), .int .i64 wh, .slice (some ⟨w.heap.size + 1 + 1, 0, none⟩) 0 0] 24)) (w.heap.size + 1 + 1 + 1) X Y wh (0 * Y) (.slice (some ⟨w.heap.size + 1 + 1, 0, none⟩) 0 0) [] (N xss fs X Y)) := Lib.hid (by
    refine ⟨below_al (below_al (below_al (Below.refl _ _) _) _) _, by simp, ?_, ?_, ?_, fun r u hu => by simp at hu, fun r s g g' _ hu => by simp at hu⟩
    · have := Blk.new (((w.alloc (.cells #[.int .i64 (X : Int), .int .i64 (Y : Int), .int .i64 wh, .slice (some ⟨b0, o0, none⟩) xss.length vc] 24)).alloc (.cells #[.int .i64 0, .int .i64 0, .int .i64 0, .slice none 0 0] 24)).alloc (.cells #[] 36)) 24 #[.int .i64 (X : Int), .int .i64 (Y : Int), .int .i64 wh, .slice (some ⟨w.heap.size + 1 + 1, 0, none⟩) 0 0]
      simpa using this
    · have := ((Blk.new (w.alloc (.cells #[.int .i64 (X : Int), .int .i64 (Y : Int), .int .i64 wh, .slice (some ⟨b0, o0, none⟩) xss.length vc] 24)) 24 #[.int .i64 0, .int .i64 0, .int .i64 0, .slice none 0 0]).alloc (.cells #[] 36)).alloc (.cells #[.int .i64 (X : Int), .int .i64 (Y : Int), .int .i64 wh, .slice (some ⟨w.heap.size + 1 + 1, 0, none⟩) 0 0] 24)
      simpa using this
    · have := World.ownsRow_made (base := (w.alloc (.cells #[.int .i64 (X : Int), .int .i64 (Y : Int), .int .i64 wh, .slice (some ⟨b0, o0, none⟩) xss.length vc] 24)).heap.size + 1) (e := 36) (size := 1) ((w.alloc (.cells #[.int .i64 (X : Int), .int .i64 (Y : Int), .int .i64 wh, .slice (some ⟨b0, o0, none⟩) xss.length vc] 24)).alloc (.cells #[.int .i64 0, .int .i64 0, .int .i64 0, .slice none 0 0] 24)) #[] 0 (by simp) (Nat.zero_le _) rfl
      have := this.alloc (.cells #[.int .i64 (X : Int), .int .i64 (Y : Int), .int .i64 wh, .slice (some ⟨w.heap.size + 1 + 1, 0, none⟩) 0 0] 24)
      simpa using this)
  go_enter Try.func91, Try.ntmps91
  go_wp2_with fail
  go_loopw [6, 7, 8, 9, 10] (fun i p7 p8 p9 p10 wr => ∃ a : Nat, a ≤ X ∧ i = .int .i64 a ∧ (∃ z, p7 = z) ∧ (∃ z, p8 = z) ∧ (∃ z, p9 = z) ∧ (∃ z, p10 = z) ∧ ∃ v vals, Hid (make.Way (w.alloc (.cells #[.int .i64 (X : Int), .int .i64 (Y : Int), .int .i64 wh, .slice (some ⟨b0, o0, none⟩) xss.length vc] 24)) wr (w.heap.size + 1 + 1 + 1) X Y wh (a * Y) v vals (N xss fs X Y))) (fun i _ _ _ _ _ => X - (intOf i).toNat)
  case atStart => exact ⟨0, Nat.zero_le _, rfl, ⟨_, rfl⟩, ⟨_, rfl⟩, ⟨_, rfl⟩, ⟨_, rfl⟩, _, _, HW0⟩
  case round =>
    obtain ⟨a, ha, rfl, ⟨z7, rfl⟩, ⟨z8, rfl⟩, ⟨z9, rfl⟩, ⟨z10, rfl⟩, v, vals, hW⟩ := hrel
    clear HW0
    obtain ⟨wo, rfl⟩ : ∃ wo : World, wo = wr := ⟨_, rfl⟩
    have PO := Lib.hid (P00.out.below hW.out.below)
    by_cases hlt : a < X
    · have hkz : (a : Int) < (X : Int) := by omega
      obtain ⟨c0, c1, c2, c3, c4⟩ := four_cells PO.out
      go_wp2_with fail
      clear c0 c1 c2 c3 c4 PO
      go_loopw [7, 8, 9, 10] (fun j p8 p9 p10 wi => ∃ c : Nat, c ≤ Y ∧ j = .int .i64 c ∧ (∃ z, p8 = z) ∧ (∃ z, p9 = z) ∧ (∃ z, p10 = z) ∧ ∃ v vals, Hid (make.Way (w.alloc (.cells #[.int .i64 (X : Int), .int .i64 (Y : Int), .int .i64 wh, .slice (some ⟨b0, o0, none⟩) xss.length vc] 24)) wi (w.heap.size + 1 + 1 + 1) X Y wh (a * Y + c) v vals (N xss fs X Y))) (fun j _ _ _ _ => Y - (intOf j).toNat)
      case atStart => exact ⟨0, Nat.zero_le _, rfl, ⟨_, rfl⟩, ⟨_, rfl⟩, ⟨_, rfl⟩, _, _, hW⟩
      case round =>
        clear hW
        obtain ⟨c, hcl, rfl, ⟨z8, rfl⟩, ⟨z9, rfl⟩, ⟨z10, rfl⟩, v, vals, hW⟩ := hrel
        obtain ⟨wi, rfl⟩ : ∃ wi : World, wi = wr := ⟨_, rfl⟩
        have PI := Lib.hid (P00.out.below hW.out.below)
        have BI := Lib.hid (below_tr (below_al (Below.refl w.heap.size w) (.cells #[.int .i64 (X : Int), .int .i64 (Y : Int), .int .i64 wh, .slice (some ⟨b0, o0, none⟩) xss.length vc] 24)) hW.out.below)
        obtain ⟨c0, c1, c2, c3, c4⟩ := four_cells PI.out
        by_cases hlc : c < Y
        · have hkc : (c : Int) < (Y : Int) := by omega
          have hrr := at_lt (i := a) (j := c) HS.out (by omega) (by omega) (by omega) (by omega)
          have hcell := (HCC.out _ hrr).1
          obtain ⟨b2, o2, cap2, hR2, hcap2, hmax2, k0, k1, k2, k3⟩ := row.cells4 (W := w) HS.out hrr (by rw [row.getD_lt hrr]; exact (HCC.out _ hrr).2)
          rw [hR2] at hcell
          have hcall := Lib.hid (fun (W : World) (hb : Below w.heap.size w W) => l2row_at X Y wh a c b0 o0 vc _ _ W HS.out.1 HLN.out (below_cell hb _ _ hcell) (by omega) (by omega) (by omega) (by omega))
          rw [at_nat] at k0 k1 k2 k3
          have hk9 : a * Y + c < 9 := by
            have h1 : a * Y + c < (a + 1) * Y := by rw [Nat.add_mul]; omega
            have h2 : (a + 1) * Y ≤ X * Y := Nat.mul_le_mul_right _ (by omega)
            have := H9.out
            omega
          have HK9 := Lib.hid hk9
          have hal : a < fs.length := by have := HLF.out; omega
          have hdl : X + c < fs.length := by have := HLF.out; omega
          have g1 := HFC.out a hal
          have g2 := HFC.out (X + c) hdl
          have f1 := HFB.out a hal
          have f2 := HFB.out (X + c) hdl
          have hfo := fo_at fs X Y a c hlc
          rw [getD_at hal, getD_at hdl] at hfo
          have HRW : Hid (∀ k : Nat, k < 4 → w.cell? ⟨b2, o2 + k, none⟩ = some (.int .i64 (nn xss (a * Y + c) k))) := Lib.hid (fun k hk => by
            obtain rfl | rfl | rfl | rfl : k = 0 ∨ k = 1 ∨ k = 2 ∨ k = 3 := by omega
            · exact k0
            · exact k1
            · exact k2
            · exact k3)
          obtain ⟨d, hd⟩ : ∃ d, d = X + c := ⟨_, rfl⟩
          have kd : IntKind.i64.wrap ((X : Int) + (c : Int)) = (d : Int) := by rw [IntWalk.i64_in _ (by omega)]; omega
          generalize fs[a] = p at *
          have hdl' : d < fs.length := by omega
          obtain ⟨q, hq⟩ : ∃ q, q = fs[X + c] := ⟨_, rfl⟩
          rw [← hq] at f2 hfo
          obtain ⟨f, hf⟩ : ∃ f, f = 2 * p.toNat + q.toNat := ⟨_, rfl⟩
          have hf4 : f < 4 := by omega
          rw [← hf] at hfo
          have km : IntKind.i64.wrap (2 * p) = 2 * p := IntWalk.i64_in _ (by omega)
          have kf : IntKind.i64.wrap (2 * p + q) = (f : Int) := by rw [IntWalk.i64_in _ (by omega)]; omega
          have g2' : w.cell? ⟨fb, fo' + d, none⟩ = some (.int .i64 q) := by rw [hd, hq]; exact HFC.out (X + c) hdl
          have HQ := Lib.hid (fun W g h => rowA_done xss fs X Y (a * Y + c) (by rw [hfo]; exact hf4) W g h)
          rw [hfo] at HQ
          have HF4 := Lib.hid hf4
          have HDL := Lib.hid hdl'
          have HAL := Lib.hid hal
          generalize nn xss (a * Y + c) = n at *
          clear g2 f1 f2 hq hf hfo k0 k1 k2 k3 hd hal hdl hdl' hf4
          clear hk9 hrr hcell hR2 hmax2
          have hm4 := make.mk4
          go_wp2_with fail
          go_region_held3 (fun w' => w'.cell? ⟨w.heap.size, 0, none⟩ = some (.int .i64 (X : Int)) ∧ w'.cell? ⟨w.heap.size, 1, none⟩ = some (.int .i64 (Y : Int)) ∧ w'.cell? ⟨w.heap.size, 2, none⟩ = some (.int .i64 wh) ∧ w'.cell? ⟨w.heap.size, 3, none⟩ = some (.slice (some ⟨b0, o0, none⟩) xss.length vc))
            ((refine step.fours c0 c1 c2 c3 ?_; repeat (first | (with_reducible exact Below.refl _ _) | (with_reducible refine below_dr ?_) | (with_reducible refine below_al ?_ _) | (with_reducible refine below_tr ?_ hb) )))
            (first
              | (go_at_call 117; (with_reducible refine (hcall.out _ ?hbw).mono ?_); (case hbw => repeat (first | (with_reducible exact BI.out) | (with_reducible refine below_dr ?_) | (with_reducible refine below_al ?_ _))); rintro e w3 ⟨rfl, hb⟩))
          · have hcom : Blk (w3.alloc (.cells #[.int .i64 0, .int .i64 0, .int .i64 0, .int .i64 0] 3)) w3.heap.size 3 (rowA n f 0) ∧ Below wi.heap.size wi (w3.alloc (.cells #[.int .i64 0, .int .i64 0, .int .i64 0, .int .i64 0] 3)) ∧ wi.heap.size ≤ w3.heap.size := by
              refine ⟨?_, ?_, ?_⟩
              · have := Blk.new w3 3 #[.int .i64 0, .int .i64 0, .int .i64 0, .int .i64 0]
                simpa [rowA, T] using this
              · refine below_al ?_ _
                exact below_tr (by repeat (first | exact Below.refl _ _ | refine below_dr ?_)) hb
              · exact hb.size
            clear hb
            obtain ⟨g, hg⟩ : ∃ g, w3.heap.size = g := ⟨_, rfl⟩
            obtain ⟨wc, hwc⟩ : ∃ wc, w3.alloc (.cells #[.int .i64 0, .int .i64 0, .int .i64 0, .int .i64 0] 3) = wc := ⟨_, rfl⟩
            rw [hwc, hg] at hcom
            rw [hwc, hg]
            clear hwc hg
            have HC0 := Lib.hid hcom
            clear hcom c0 c1 c2 c3 c4 hm4 hcall
            go_wp2_with fail
            go_loopw [10] (fun kv wr => ∃ k : Nat, k ≤ 4 ∧ kv = .int .i64 k ∧ Hid (Blk wr g 3 (rowA n f k) ∧ Below wi.heap.size wi wr ∧ wi.heap.size ≤ g)) (fun kv _ => 4 - (intOf kv).toNat)
            case atStart => exact ⟨0, Nat.zero_le _, rfl, HC0⟩
            case round =>
              obtain ⟨k, hk, rfl, hC⟩ := hrel
              clear HC0
              have PK := Lib.hid (PI.out.below hC.out.2.1)
              have BK := Lib.hid (below_tr BI.out hC.out.2.1)
              by_cases hlk : k < 4
              · have hkk : (k : Int) < 4 := by omega
                obtain ⟨c0, c1, c2, c3, c4⟩ := four_cells PK.out
                have e1 := below_cell BK.out _ _ g1
                have e2 := below_cell BK.out _ _ g2'
                have e3 := below_cell BK.out _ _ (HRW.out k hlk)
                have i1 : (a : Int) < (fs.length : Int) := by have := HAL.out; omega
                have i2 : (d : Int) < (fs.length : Int) := by have := HDL.out; omega
                obtain ⟨e, he⟩ : ∃ e, e = k ^^^ f := ⟨_, rfl⟩
                have kx : bits .xor .i64 (k : Int) (f : Int) = (e : Int) := by rw [he]; exact xor_bits ⟨f, HF4.out⟩ ⟨k, hlk⟩
                have he4 : e < 4 := by rw [he]; exact xor_lt ⟨f, HF4.out⟩ ⟨k, hlk⟩
                have i3 : (e : Int) < 4 := by omega
                have rf : ∀ k, wr.frozen? ⟨g, k, none⟩ = false := fun k => Joins.unfrozen_of_block hC.out.1 k
                have te : wr.cell? ⟨g, e, none⟩ = some (.int .i64 (T n f k e)) := by
                  rw [Joins.cell_of_block hC.out.1]
                  obtain rfl | rfl | rfl | rfl : e = 0 ∨ e = 1 ∨ e = 2 ∨ e = 3 := by omega
                  all_goals rfl
                have l0 : w.heap.size < wi.heap.size := PI.out.lt
                have l1 : fb < w.heap.size := World.block_lt_of_cell? _ _ g1
                have l2 : b2 < w.heap.size := World.block_lt_of_cell? _ _ (HRW.out 0 (by omega))
                have lg := hC.out.2.2
                have n0 : w.heap.size ≠ g := by omega
                have n1 : fb ≠ g := by omega
                have n2 : b2 ≠ g := by omega
                have hB2 : Hid (Blk (wr.setCell ⟨g, e, none⟩ (.int .i64 (n k))) g 3 (rowA n f (k + 1))) := Lib.hid (by
                  have := Joins.block_setCell (i := e) hC.out.1 (.int .i64 (n k))
                  rw [he, rowA_set n f k HF4.out hlk] at this
                  rw [he]; exact this)
                have HC1 := hC
                clear he hC lg
                go_wp2_with fail
                go_region_held3 (fun w' => w'.cell? ⟨w.heap.size, 0, none⟩ = some (.int .i64 (X : Int)) ∧ w'.cell? ⟨w.heap.size, 1, none⟩ = some (.int .i64 (Y : Int)) ∧ w'.cell? ⟨fb, fo' + a, none⟩ = some (.int .i64 p) ∧ w'.cell? ⟨fb, fo' + d, none⟩ = some (.int .i64 q) ∧ w'.cell? ⟨b2, o2 + k, none⟩ = some (.int .i64 (n k)))
                  ((refine step.offs5 (R := g) c0 c1 e1 e2 e3 n0 n0 n1 n1 n2 ?_; repeat (first | (with_reducible exact step.Off.refl _ _) | (with_reducible refine step.Off.drew ?_) | (with_reducible refine step.Off.setCell ?_ _ _ rfl))))
                  (fail)
                clear c0 c1 c2 c3 c4 e1 e2 e3 rf te
                go_wp2_with fail
                go_roundw
                case rel =>
                  refine ⟨k + 1, by omega, by go_num, Lib.hid ⟨?_, ?_, HC1.out.2.2⟩⟩
                  · first | exact hB2.out | exact hB2.out.below (below_dr (Below.refl _ _))
                  · repeat (first | exact HC1.out.2.1 | refine below_dr ?_ | refine Below.setCell ?_ HC1.out.2.2 _)
                case measure => simp [intOf]; omega
              · have hkk : ¬ (k : Int) < 4 := by omega
                obtain rfl : k = 4 := by omega
                have W2 := Lib.hid (hW.out.keep hC.out.2.1)
                have HRI := Lib.hid (HQ.out wr g hC.out.1)
                obtain ⟨f0, f1, f2, f3, f4⟩ := four_cells W2.out.blk
                have f3' := fun (o1 : Obj) => below_cell (below_al (Below.refl _ _) o1) _ _ f3
                have hsz := W2.out.below.size
                have hbz := W2.out.blk.lt
                have hbw := hW.out.blk.lt
                have lg := hC.out.2.2
                go_wp2_with (at_builtin; go_must (refine wpList_append_own _ rfl (.tmp 62) (.tmp 64) 22 rfl ((w.alloc (.cells #[.int .i64 (X : Int), .int .i64 (Y : Int), .int .i64 wh, .slice (some ⟨b0, o0, none⟩) xss.length vc] 24)).heap.size + 1) 36 i0 (.slice none 0 0) 1 24 Try.underlying22 hi hz0 hz1 hz2 rfl (by decide) _ _ _ rfl ((W2.out.owns).alloc _) ⟨wr.heap.size, 0, none⟩ 1 1 [.slice (some ⟨g, 0, none⟩) 4 4] rfl rfl ?d10 ?d20 ?d30 ?d40 ?d50 ?_))
                try (case d10 => first | exact app.one_at _ _ _ | (have := app.one_at wr (.slice (some ⟨g, 0, none⟩) 4 4) 36; simpa using this))
                case d20 => first | rfl | (intro u hu; simp at hu; subst hu; rfl) | simp
                case d30 => have := HK9.out; unfold maxLen; omega
                case d40 => have := HK9.out; omega
                case d50 => first | omega | (simp; omega) | (simp at hsz ⊢; omega)
                intro v' w4 hown' hgrow _
                have HG := Lib.hid (W2.out.keep (below_al (Below.refl _ _) (.cells #[.slice (some ⟨g, 0, none⟩) 4 4] 36)))
                obtain ⟨q1, q2⟩ := HG.out.field hgrow
                have HFR : Hid (∀ (r g' : Nat), vals[r]? = some (Value.slice (some ⟨g', 0, none⟩) 4 4) → g' ≠ g) := Lib.hid (fun r g' hu => by
                  obtain ⟨g'', e, _, hr⟩ := hW.out.row r _ hu
                  injection e with e; injection e with e; injection e with e
                  have := hr.lt; omega)
                have hown2 : w4.ownsRow ((w.alloc (.cells #[.int .i64 (X : Int), .int .i64 (Y : Int), .int .i64 wh, .slice (some ⟨b0, o0, none⟩) xss.length vc] 24)).heap.size + 1) 36 1 v' (a * Y + c + 1) (vals ++ [.slice (some ⟨g, 0, none⟩) 4 4]) := by simpa using hown'
                have W4 := Lib.hid (HG.out.grow (HRI.out.alloc (.cells #[.slice (some ⟨g, 0, none⟩) 4 4] 36)) (by simp; omega) HFR.out hown2 hgrow)
                obtain ⟨xa, xl, xc, rfl⟩ := make.shape hown'
                clear hown' hown2 hgrow W2 HG HRI HFR hC PK BK f0 f1 f2 f3 f4 f3'
                go_wp2_with fail
                go_roundw
                case rel => exact ⟨c + 1, by omega, by go_num, ⟨_, rfl⟩, ⟨_, rfl⟩, ⟨_, rfl⟩, _, _, W4⟩
                case measure => simp [intOf]; omega
          · have hcom : Blk w3 wi.heap.size 3 (rowA n f 0) ∧ Below wi.heap.size wi w3 ∧ wi.heap.size ≤ wi.heap.size := by
              refine ⟨?_, ?_, Nat.le_refl _⟩
              · have := Blk.new wi 3 #[.int .i64 0, .int .i64 0, .int .i64 0, .int .i64 0]
                have this2 : Blk (wi.alloc (.cells #[.int .i64 0, .int .i64 0, .int .i64 0, .int .i64 0] 3)) wi.heap.size 3 (rowA n f 0) := by simpa [rowA, T] using this
                first | exact this2.below hb | exact Blk.below (w := wi.drew.alloc (.cells #[.int .i64 0, .int .i64 0, .int .i64 0, .int .i64 0] 3)) this2 hb | exact Blk.below (w := (wi.alloc (.cells #[.int .i64 0, .int .i64 0, .int .i64 0, .int .i64 0] 3)).drew) this2 hb
              · exact below_tr (by repeat (first | exact Below.refl _ _ | refine below_dr ?_ | refine below_al ?_ _)) hb
            clear hb
            obtain ⟨g, hg⟩ : ∃ g, wi.heap.size = g := ⟨_, rfl⟩
            obtain ⟨wc, hwc⟩ : ∃ wc, w3 = wc := ⟨_, rfl⟩
            rw [hwc] at hcom
            rw [hwc, hg]
            have hcom : Blk wc g 3 (rowA n f 0) ∧ Below wi.heap.size wi wc ∧ wi.heap.size ≤ g := by rw [← hg]; exact hcom
            clear hwc hg
            have HC0 := Lib.hid hcom
            clear hcom c0 c1 c2 c3 c4 hm4 hcall
            go_wp2_with fail
            go_loopw [10] (fun kv wr => ∃ k : Nat, k ≤ 4 ∧ kv = .int .i64 k ∧ Hid (Blk wr g 3 (rowA n f k) ∧ Below wi.heap.size wi wr ∧ wi.heap.size ≤ g)) (fun kv _ => 4 - (intOf kv).toNat)
            case atStart => exact ⟨0, Nat.zero_le _, rfl, HC0⟩
            case round =>
              obtain ⟨k, hk, rfl, hC⟩ := hrel
              clear HC0
              have PK := Lib.hid (PI.out.below hC.out.2.1)
              have BK := Lib.hid (below_tr BI.out hC.out.2.1)
              by_cases hlk : k < 4
              · have hkk : (k : Int) < 4 := by omega
                obtain ⟨c0, c1, c2, c3, c4⟩ := four_cells PK.out
                have e1 := below_cell BK.out _ _ g1
                have e2 := below_cell BK.out _ _ g2'
                have e3 := below_cell BK.out _ _ (HRW.out k hlk)
                have i1 : (a : Int) < (fs.length : Int) := by have := HAL.out; omega
                have i2 : (d : Int) < (fs.length : Int) := by have := HDL.out; omega
                obtain ⟨e, he⟩ : ∃ e, e = k ^^^ f := ⟨_, rfl⟩
                have kx : bits .xor .i64 (k : Int) (f : Int) = (e : Int) := by rw [he]; exact xor_bits ⟨f, HF4.out⟩ ⟨k, hlk⟩
                have he4 : e < 4 := by rw [he]; exact xor_lt ⟨f, HF4.out⟩ ⟨k, hlk⟩
                have i3 : (e : Int) < 4 := by omega
                have rf : ∀ k, wr.frozen? ⟨g, k, none⟩ = false := fun k => Joins.unfrozen_of_block hC.out.1 k
                have te : wr.cell? ⟨g, e, none⟩ = some (.int .i64 (T n f k e)) := by
                  rw [Joins.cell_of_block hC.out.1]
                  obtain rfl | rfl | rfl | rfl : e = 0 ∨ e = 1 ∨ e = 2 ∨ e = 3 := by omega
                  all_goals rfl
                have l0 : w.heap.size < wi.heap.size := PI.out.lt
                have l1 : fb < w.heap.size := World.block_lt_of_cell? _ _ g1
                have l2 : b2 < w.heap.size := World.block_lt_of_cell? _ _ (HRW.out 0 (by omega))
                have lg := hC.out.2.2
                have n0 : w.heap.size ≠ g := by omega
                have n1 : fb ≠ g := by omega
                have n2 : b2 ≠ g := by omega
                have hB2 : Hid (Blk (wr.setCell ⟨g, e, none⟩ (.int .i64 (n k))) g 3 (rowA n f (k + 1))) := Lib.hid (by
                  have := Joins.block_setCell (i := e) hC.out.1 (.int .i64 (n k))
                  rw [he, rowA_set n f k HF4.out hlk] at this
                  rw [he]; exact this)
                have HC1 := hC
                clear he hC lg
                go_wp2_with fail
                go_region_held3 (fun w' => w'.cell? ⟨w.heap.size, 0, none⟩ = some (.int .i64 (X : Int)) ∧ w'.cell? ⟨w.heap.size, 1, none⟩ = some (.int .i64 (Y : Int)) ∧ w'.cell? ⟨fb, fo' + a, none⟩ = some (.int .i64 p) ∧ w'.cell? ⟨fb, fo' + d, none⟩ = some (.int .i64 q) ∧ w'.cell? ⟨b2, o2 + k, none⟩ = some (.int .i64 (n k)))
                  ((refine step.offs5 (R := g) c0 c1 e1 e2 e3 n0 n0 n1 n1 n2 ?_; repeat (first | (with_reducible exact step.Off.refl _ _) | (with_reducible refine step.Off.drew ?_) | (with_reducible refine step.Off.setCell ?_ _ _ rfl))))
                  (fail)
                clear c0 c1 c2 c3 c4 e1 e2 e3 rf te
                go_wp2_with fail
                go_roundw
                case rel =>
                  refine ⟨k + 1, by omega, by go_num, Lib.hid ⟨?_, ?_, HC1.out.2.2⟩⟩
                  · first | exact hB2.out | exact hB2.out.below (below_dr (Below.refl _ _))
                  · repeat (first | exact HC1.out.2.1 | refine below_dr ?_ | refine Below.setCell ?_ HC1.out.2.2 _)
                case measure => simp [intOf]; omega
              · have hkk : ¬ (k : Int) < 4 := by omega
                obtain rfl : k = 4 := by omega
                have W2 := Lib.hid (hW.out.keep hC.out.2.1)
                have HRI := Lib.hid (HQ.out wr g hC.out.1)
                obtain ⟨f0, f1, f2, f3, f4⟩ := four_cells W2.out.blk
                have f3' := fun (o1 : Obj) => below_cell (below_al (Below.refl _ _) o1) _ _ f3
                have hsz := W2.out.below.size
                have hbz := W2.out.blk.lt
                have hbw := hW.out.blk.lt
                have lg := hC.out.2.2
                go_wp2_with (at_builtin; go_must (refine wpList_append_own _ rfl (.tmp 62) (.tmp 64) 22 rfl ((w.alloc (.cells #[.int .i64 (X : Int), .int .i64 (Y : Int), .int .i64 wh, .slice (some ⟨b0, o0, none⟩) xss.length vc] 24)).heap.size + 1) 36 i0 (.slice none 0 0) 1 24 Try.underlying22 hi hz0 hz1 hz2 rfl (by decide) _ _ _ rfl ((W2.out.owns).alloc _) ⟨wr.heap.size, 0, none⟩ 1 1 [.slice (some ⟨g, 0, none⟩) 4 4] rfl rfl ?d11 ?d21 ?d31 ?d41 ?d51 ?_))
                try (case d11 => first | exact app.one_at _ _ _ | (have := app.one_at wr (.slice (some ⟨g, 0, none⟩) 4 4) 36; simpa using this))
                case d21 => first | rfl | (intro u hu; simp at hu; subst hu; rfl) | simp
                case d31 => have := HK9.out; unfold maxLen; omega
                case d41 => have := HK9.out; omega
                case d51 => first | omega | (simp; omega) | (simp at hsz ⊢; omega)
                intro v' w4 hown' hgrow _
                have HG := Lib.hid (W2.out.keep (below_al (Below.refl _ _) (.cells #[.slice (some ⟨g, 0, none⟩) 4 4] 36)))
                obtain ⟨q1, q2⟩ := HG.out.field hgrow
                have HFR : Hid (∀ (r g' : Nat), vals[r]? = some (Value.slice (some ⟨g', 0, none⟩) 4 4) → g' ≠ g) := Lib.hid (fun r g' hu => by
                  obtain ⟨g'', e, _, hr⟩ := hW.out.row r _ hu
                  injection e with e; injection e with e; injection e with e
                  have := hr.lt; omega)
                have hown2 : w4.ownsRow ((w.alloc (.cells #[.int .i64 (X : Int), .int .i64 (Y : Int), .int .i64 wh, .slice (some ⟨b0, o0, none⟩) xss.length vc] 24)).heap.size + 1) 36 1 v' (a * Y + c + 1) (vals ++ [.slice (some ⟨g, 0, none⟩) 4 4]) := by simpa using hown'
                have W4 := Lib.hid (HG.out.grow (HRI.out.alloc (.cells #[.slice (some ⟨g, 0, none⟩) 4 4] 36)) (by simp; omega) HFR.out hown2 hgrow)
                obtain ⟨xa, xl, xc, rfl⟩ := make.shape hown'
                clear hown' hown2 hgrow W2 HG HRI HFR hC PK BK f0 f1 f2 f3 f4 f3'
                go_wp2_with fail
                go_roundw
                case rel => exact ⟨c + 1, by omega, by go_num, ⟨_, rfl⟩, ⟨_, rfl⟩, ⟨_, rfl⟩, _, _, W4⟩
                case measure => simp [intOf]; omega
        · have hkc : ¬ (c : Int) < (Y : Int) := by omega
          obtain rfl : c = Y := by omega
          go_wp2_with fail
          go_roundw
          case rel => exact ⟨a + 1, by omega, by go_num, ⟨_, rfl⟩, ⟨_, rfl⟩, ⟨_, rfl⟩, ⟨_, rfl⟩, _, _, by rw [Nat.add_mul, Nat.one_mul]; exact hW⟩
          case measure => simp [intOf]; omega
    · have hkz : ¬ (a : Int) < (X : Int) := by omega
      have hae : a = X := by omega
      obtain ⟨xa, xl, xc, rfl⟩ := make.shape hW.out.owns
      obtain ⟨c0, c1, c2, c3, c4⟩ := four_cells PO.out
      obtain ⟨f0, f1, f2, f3, f4⟩ := four_cells hW.out.blk
      have hres := hW.out.res
      obtain ⟨r0, r1, r2, r3, r4⟩ := four_cells hres
      have rf : ∀ k, wo.frozen? ⟨w.heap.size + 1, k, none⟩ = false := fun k => by
        have := Joins.unfrozen_of_block hres k
        simpa using this
      have HD := Lib.hid hW.out.done
      have BW := Lib.hid (below_tr (below_al (Below.refl w.heap.size w) (.cells #[.int .i64 (X : Int), .int .i64 (Y : Int), .int .i64 wh, .slice (some ⟨b0, o0, none⟩) xss.length vc] 24)) hW.out.below)
      simp only [World.size_alloc] at r0 r1 r2 r3
      clear hW hres
      go_wp2_with fail
      refine bodyPost_ret (v := .agg #[.int .i64 (X : Int), .int .i64 (Y : Int), .int .i64 wh, .slice xa xl xc]) (by simp [results, Try.results91, go_sem, r0, r1, r2, r3]) rfl ?_
      refine ⟨_, rfl, ?_, ?_⟩
      · rw [show X * Y = a * Y from by rw [hae]]
        refine (HD.out.wrote (S := fun p => p.block < w.heap.size + 1 + 1) ?_ (fun p hp => .inl (by simpa using hp))).mono (by first | omega | (simp; omega)) (by simp [World.setCell])
        repeat (first | exact Wrote.refl _ _ | refine Wrote.setCell ?_ (by simp) _)
      · repeat (refine Below.setCell ?_ (by simp <;> omega) _)
        exact BW.out

end Go.Proofs.Ytlaaiahkdkhehaa.flipa
