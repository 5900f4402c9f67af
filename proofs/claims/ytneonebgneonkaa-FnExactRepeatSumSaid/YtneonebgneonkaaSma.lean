/- sumAll of the program: wirings by the sum rules, one after another. -/
import Derived.Test.YtneonebgneonkaaSmm
import Derived.Test.YtneonebgneonkaaWirb
import Derived.Test.YtneonebgneonkaaNam
import Derived.Test.YtneonebgneonkaaPboxb
namespace Go.Proofs.Ytneonebgneonkaa.sma
open Go.RowKit Go.Deep Go.Proofs.Ytneonebgneonkaa.base
open Go.Proofs.Ytneonebgneonkaa.ints (ret_int)
open Go.Proofs.Ytneonebgneonkaa.rws (total)
open Go.Proofs.Ytneonebgneonkaa.smm
open Go.Proofs.Ytneonebgneonkaa.scene (three_cells)
open Go.Proofs.Ytneonebgneonkaa.rule (RV OR)

/-- Boxes in a row -/
def Bxs (w : World) (b o : Nat) (bs : List Bx) : Prop := ∀ k (hk : k < bs.length), ∃ a n c, w.cell? ⟨b, o + k * 4, none⟩ = some (.int .i64 bs[k].x) ∧ w.cell? ⟨b, o + k * 4 + 1, none⟩ = some (.int .i64 bs[k].y) ∧ w.cell? ⟨b, o + k * 4 + 2, none⟩ = some (.int .i64 bs[k].wh) ∧
  w.cell? ⟨b, o + k * 4 + 3, none⟩ = some (.slice a n c) ∧ IRows w (.slice a n c) bs[k].rows ∧ total bs[k].rows ≤ 1048576
theorem own_w {W W' : World} {B T g : Nat} {v : Value} {xss : List (List Int)} (h : OwnRows W B T v xss) (hw : Wrote (fun p => p.block = g) W W') (hg : g < B ∨ T ≤ g) : OwnRows W' B T v xss := h.wrote hw (fun p hp => by have e : p.block = g := hp; omega)
theorem or_w {W W' : World} {B T g : Nat} {sv u nv : Value} {ss : List Int} {xss yss : List (List Int)} (h : OR W B T sv ss u xss nv yss) (hw : Wrote (fun p => p.block = g) W W') (hg : g < B ∨ T ≤ g) : OR W' B T sv ss u xss nv yss := h.wrote hw (fun p hp => by have e : p.block = g := hp; omega)
def set4 (W : World) (g : Nat) (u0 u1 u2 u3 : Value) : World := (((W.setCell ⟨g, 0, none⟩ u0).setCell ⟨g, 1, none⟩ u1).setCell ⟨g, 2, none⟩ u2).setCell ⟨g, 3, none⟩ u3
theorem set4_same {W : World} {g : Nat} {t : TypeId} {z0 z1 z2 z3 : Value} (u0 u1 u2 u3 : Value) (h : Blk W g t #[z0, z1, z2, z3]) : Blk (set4 W g u0 u1 u2 u3) g t #[u0, u1, u2, u3] := by
  have h1 := Joins.block_setCell (i := 0) h u0
  have h2 := Joins.block_setCell (i := 1) h1 u1
  have h3 := Joins.block_setCell (i := 2) h2 u2
  have h4 := Joins.block_setCell (i := 3) h3 u3
  unfold Blk set4
  simpa using h4
theorem set4_wrote (W : World) (g : Nat) (u0 u1 u2 u3 : Value) : Wrote (fun p => p.block = g) W (set4 W g u0 u1 u2 u3) := by
  unfold set4
  exact Wrote.setCell (S := fun p => p.block = g) (Wrote.setCell (S := fun p => p.block = g) (Wrote.setCell (S := fun p => p.block = g) (Wrote.setCell (S := fun p => p.block = g) (Wrote.refl _ _) rfl _) rfl _) rfl _) rfl _
theorem set4_below {w W : World} {g : Nat} (u0 u1 u2 u3 : Value) (h : Below w.heap.size w W) (hg : w.heap.size ≤ g) : Below w.heap.size w (set4 W g u0 u1 u2 u3) := by
  unfold set4
  repeat (first | exact h | refine Below.setCell ?_ hg _)
/-- the sum under way -/
structure Way (w W : World) (g4 g6 B6 T6 : Nat) (st : make.Res) (r sv u nv : Value) : Prop where
  below : Below w.heap.size w W
  res : Blk W w.heap.size 48 #[.int .i64 0, .int .i64 0, .int .i64 0, .slice none 0 0]
  sum : Blk W g4 48 #[.int .i64 (st).x, .int .i64 (st).y, .int .i64 (st).wh, r]
  rul : Blk W g6 28 #[sv, u, nv]
  rows : ∃ Br Tr, OwnRows W Br Tr r st.rows ∧ w.heap.size + 1 ≤ Br ∧ Tr ≤ W.heap.size ∧ (g4 < Br ∨ Tr ≤ g4)
  rv : OR W B6 T6 sv F u K nv S
  tot : total st.rows ≤ 1048576
  h4 : w.heap.size < g4
  h46 : g4 < B6
  h6 : g6 ≠ g4


set_option maxRecDepth 100000 in
set_option maxHeartbeats 8000000 in
theorem sumAll (b o cap n : Nat) (bs : List Bx) (w : World) (h : Bxs w b o bs) (hl : bs.length = n) (hn : n ≤ 9) :
    Calls Try.prog 90 #[.slice (some ⟨b, o, none⟩) n cap] w fun e w' => ∃ r, e = .returned (.tuple #[.agg #[.int .i64 (fold P0 bs).x, .int .i64 (fold P0 bs).y, .int .i64 (fold P0 bs).wh, r], .bool (fold P0 bs).ok]) ∧ OwnRows w' w.heap.size w'.heap.size r (fold P0 bs).rows ∧ Below w.heap.size w w' := by
  have B1 := Lib.hid (below_al (below_al (Below.refl w.heap.size w) (.cells #[.int .i64 0, .int .i64 0, .int .i64 0, .slice none 0 0] 48)) (.cells #[.int .i64 0, .int .i64 0, .int .i64 0, .int .i64 0] 3))
  have R1 := Lib.hid ((Blk.new w 48 #[.int .i64 0, .int .i64 0, .int .i64 0, .slice none 0 0]).alloc (.cells #[.int .i64 0, .int .i64 0, .int .i64 0, .int .i64 0] 3))
  have HP : Hid (Calls Try.prog 130 #[.int .i64 2, .int .i64 2, .slice (some ⟨w.heap.size + 1, 0, none⟩) 4 4, .int .i64 1] ((w.alloc (.cells #[.int .i64 0, .int .i64 0, .int .i64 0, .slice none 0 0] 48)).alloc (.cells #[.int .i64 0, .int .i64 0, .int .i64 0, .int .i64 0] 3)) fun e w' => ∃ r, e = .returned (.tuple #[.agg #[.int .i64 (P0).x, .int .i64 (P0).y, .int .i64 (P0).wh, r], .bool P0.ok]) ∧ OwnRows w' ((w.alloc (.cells #[.int .i64 0, .int .i64 0, .int .i64 0, .slice none 0 0] 48)).alloc (.cells #[.int .i64 0, .int .i64 0, .int .i64 0, .int .i64 0] 3)).heap.size w'.heap.size r P0.rows ∧ Below ((w.alloc (.cells #[.int .i64 0, .int .i64 0, .int .i64 0, .slice none 0 0] 48)).alloc (.cells #[.int .i64 0, .int .i64 0, .int .i64 0, .int .i64 0] 3)).heap.size ((w.alloc (.cells #[.int .i64 0, .int .i64 0, .int .i64 0, .slice none 0 0] 48)).alloc (.cells #[.int .i64 0, .int .i64 0, .int .i64 0, .int .i64 0] 3)) w') := Lib.hid (by
    have := pbox.impl_any 2 2 (.slice (some ⟨w.heap.size + 1, 0, none⟩) 4 4) [0, 0, 0, 0] 1 ((w.alloc (.cells #[.int .i64 0, .int .i64 0, .int .i64 0, .slice none 0 0] 48)).alloc (.cells #[.int .i64 0, .int .i64 0, .int .i64 0, .int .i64 0] 3)) (by have := (st3.ints_blk (xs := [0, 0, 0, 0]) rfl (show Blk ((w.alloc (.cells #[.int .i64 0, .int .i64 0, .int .i64 0, .slice none 0 0] 48)).alloc (.cells #[.int .i64 0, .int .i64 0, .int .i64 0, .int .i64 0] 3)) (w.alloc (.cells #[.int .i64 0, .int .i64 0, .int .i64 0, .slice none 0 0] 48)).heap.size 3 (i64s [0, 0, 0, 0]).toArray from Blk.new _ _ _) (by unfold maxLen; decide)).ints; simpa using this)
    exact this)
  have HTP : Hid (total P0.rows ≤ 1048576) := Lib.hid (by rw [P0_eq]; exact make.total_rowsOf _ _ (by omega))
  have HB := Lib.hid h
  have HL := Lib.hid hl
  have hmk := make.mk4
  have hn9 : (n : Int) ≤ 9 := by omega
  clear h hl
  go_enter Try.func90, Try.ntmps90
  go_wp2_with fail
  refine HP.out.mono ?_
  rintro e w2 ⟨r, rfl, hr, hb⟩
  obtain ⟨ra, rn, rc, rfl⟩ := hr.rows.shape
  have Y2 := Lib.hid (below_tr B1.out hb)
  have Q2 := Lib.hid (R1.out.below hb)
  have OR2 := Lib.hid hr
  have Z2 := Lib.hid hb.size
  have Y3 := Lib.hid (below_al Y2.out (.cells #[.int .i64 (P0).x, .int .i64 (P0).y, .int .i64 (P0).wh, .slice ra rn rc] 48))
  have Q3 := Lib.hid (Q2.out.alloc (.cells #[.int .i64 (P0).x, .int .i64 (P0).y, .int .i64 (P0).wh, .slice ra rn rc] 48))
  have S3 := Lib.hid (Blk.new w2 48 #[.int .i64 (P0).x, .int .i64 (P0).y, .int .i64 (P0).wh, .slice ra rn rc])
  have HN := Lib.hid (rby.namedRule 3 (w2.alloc (.cells #[.int .i64 (P0).x, .int .i64 (P0).y, .int .i64 (P0).wh, .slice ra rn rc] 48)))
  have hz2 : w.heap.size + 1 + 1 ≤ w2.heap.size := by have := Z2.out; simpa using this
  clear hr hb HP R1 B1
  go_wp2_with fail
  refine HN.out.mono ?_
  rintro e w4 ⟨sv, u, nv, rfl, hO, hb⟩
  obtain ⟨a0, a1, a2, a3, a4, a5, a6, a7, a8, rfl, rfl, rfl⟩ := hO.view.shape
  have WW0 : Hid (Way w (w4.alloc (.cells #[.slice a0 a1 a2, .slice a3 a4 a5, .slice a6 a7 a8] 28)) w2.heap.size w4.heap.size (w2.heap.size + 1) w4.heap.size (fold P0 (bs.take 0)) (.slice ra rn rc) (.slice a0 a1 a2) (.slice a3 a4 a5) (.slice a6 a7 a8)) := Lib.hid (by
    have hs := hb.size
    simp at hs
    refine ⟨below_al (below_tr Y3.out hb) _, (Q3.out.below hb).alloc _, (S3.out.below hb).alloc _, Blk.new _ _ _, ⟨_, _, ((OR2.out.keep (below_al (Below.refl _ _) _)).keep hb).keep (below_al (Below.refl _ _) _), by simp, by simp; omega, .inr (Nat.le_refl _)⟩, ?_, HTP.out, by omega, by omega, by omega⟩
    have := (hO.mono (B' := w2.heap.size + 1) (T' := w4.heap.size) (by simp) (Nat.le_refl _)).keep (below_al (Below.refl _ _) (.cells #[.slice a0 a1 a2, .slice a3 a4 a5, .slice a6 a7 a8] 28))
    exact this)
  have HK0 : Hid (P0.ok = (fold P0 (bs.take 0)).ok) := Lib.hid rfl
  clear hO hb HN Y2 Q2 OR2 Z2 Y3 Q3 S3 hmk
  go_wp2_with fail
  go_loopw [5, 9, 21] (fun z5 z9 i wr => ∃ k : Nat, k ≤ n ∧ i = .int .i64 k ∧ (∃ z', z9 = z') ∧ ∃ (st : make.Res) (ra : Option Addr) (rn rc : Nat), z5 = .bool st.ok ∧ Hid (st = fold P0 (bs.take k)) ∧ Hid (Way w wr w2.heap.size w4.heap.size (w2.heap.size + 1) w4.heap.size st (.slice ra rn rc) (.slice a0 a1 a2) (.slice a3 a4 a5) (.slice a6 a7 a8))) (fun _ _ i _ => n - (intOf i).toNat)
  case atStart => exact ⟨0, Nat.zero_le _, rfl, ⟨_, rfl⟩, P0, ra, rn, rc, rfl, Lib.hid rfl, WW0⟩
  case round =>
    clear WW0 HK0
    obtain ⟨k, hk, rfl, ⟨z9, rfl⟩, st, ra, rn, rc, rfl, hst, hW⟩ := hrel
    obtain ⟨wo, rfl⟩ : ∃ wo : World, wo = wr := ⟨_, rfl⟩
    by_cases hlt : k < n
    · have hkz : (k : Int) < (n : Int) := by omega
      have hkb : k < bs.length := by have := HL.out; omega
      obtain ⟨va, vn, vc, e0, e1, e2, e3, hI, hT⟩ := HB.out k hkb
      have f0 := below_cell hW.out.below _ _ e0
      have f1 := below_cell hW.out.below _ _ e1
      have f2 := below_cell hW.out.below _ _ e2
      have f3 := below_cell hW.out.below _ _ e3
      have HT := Lib.hid hT
      have HS1 : Hid (wire st bs[k] = fold P0 (bs.take (k + 1))) := Lib.hid (by rw [hst.out, ← List.take_concat_get hkb, List.concat_eq_append, fold_snoc])
      have hIo := hI.below hW.out.below
      obtain ⟨bk, hbk⟩ : ∃ bk, bs[k] = bk := ⟨_, rfl⟩
      rw [hbk] at f0 f1 f2 hIo HS1 HT
      obtain ⟨Br, Tr, hR, hr1, hr2, hr3⟩ := hW.out.rows
      have BA := below_al (Below.refl wo.heap.size wo) (.cells #[.int .i64 bk.x, .int .i64 bk.y, .int .i64 bk.wh, .slice va vn vc] 48)
      obtain ⟨wa, hwa⟩ : ∃ wa, wo.alloc (.cells #[.int .i64 bk.x, .int .i64 bk.y, .int .i64 bk.wh, .slice va vn vc] 48) = wa := ⟨_, rfl⟩
      have N1 : Blk wa wo.heap.size 48 #[.int .i64 bk.x, .int .i64 bk.y, .int .i64 bk.wh, .slice va vn vc] := by rw [← hwa]; exact Blk.new _ _ _
      rw [hwa] at BA
      have HC := Lib.hid (wir.impl_any st.x st.y st.wh _ st.rows bk.x bk.y bk.wh _ bk.rows _ F _ K _ S _ F _ K _ S wa (hR.keep BA).rows (hIo.below BA) hW.out.tot HT.out (hW.out.rv.keep BA).view (hW.out.rv.keep BA).view)
      have S1 := Lib.hid (hW.out.sum.below BA)
      have U1 := Lib.hid (hW.out.rul.below BA)
      obtain ⟨c0, c1, c2, c3, c4⟩ := four_cells S1.out
      obtain ⟨d0, d1, d2, d3, d4⟩ := four_cells N1
      obtain ⟨m0, m1, m2, m3⟩ := three_cells U1.out
      have BA' := Lib.hid BA
      clear hI hT hbk hR hr1 hr2 hr3 BA N1 e0 e1 e2 e3 hIo
      go_wp2_with fail
      clear hwa
      refine HC.out.mono ?_
      rintro e w5 ⟨r5, rfl, h5, hb5⟩
      obtain ⟨xa, xn, xc, rfl⟩ := h5.rows.shape
      have S5 := Lib.hid (S1.out.below hb5)
      have Z5 := Lib.hid hb5.size
      have ZA := Lib.hid BA'.out.size
      have WS : Hid (Way w (set4 w5 w2.heap.size (.int .i64 (wire st bk).x) (.int .i64 (wire st bk).y) (.int .i64 (wire st bk).wh) (.slice xa xn xc)) w2.heap.size w4.heap.size (w2.heap.size + 1) w4.heap.size (wire st bk) (.slice xa xn xc) (.slice a0 a1 a2) (.slice a3 a4 a5) (.slice a6 a7 a8)) := Lib.hid (by
        have hw := set4_wrote w5 w2.heap.size (.int .i64 (wire st bk).x) (.int .i64 (wire st bk).y) (.int .i64 (wire st bk).wh) (.slice xa xn xc)
        have q := hW.out
        have hg : w2.heap.size < wa.heap.size := S1.out.lt
        have bb := below_tr BA'.out hb5
        refine ⟨set4_below _ _ _ _ (below_tr q.below bb) (by have := q.h4; omega), ((q.res.below bb)).wrote hw (fun p hp e => by have e1 : p.block = w2.heap.size := hp; have := q.h4; omega), set4_same _ _ _ _ S5.out, (q.rul.below bb).wrote hw (fun p hp e => by have e1 : p.block = w2.heap.size := hp; have := q.h6; omega),
          ⟨_, _, own_w h5 hw (.inl hg), by have := q.h4; omega, by rw [hw.size]; exact Nat.le_refl _, .inl hg⟩, or_w (q.rv.keep bb) hw (.inl q.h46), smm.tot_wire _ _, q.h4, q.h46, q.h6⟩)
      obtain ⟨c0, c1, c2, c3, c4⟩ := four_cells S5.out
      have rf : ∀ q, w5.frozen? ⟨w2.heap.size, q, none⟩ = false := fun q => Joins.unfrozen_of_block S5.out q
      clear h5 hb5 d0 d1 d2 d3 d4 m0 m1 m2 m3 HC f0 f1 f2 f3 hW S1
      go_wp2_with fail
      go_roundw
      case rel => exact ⟨k + 1, by omega, by go_num, ⟨_, rfl⟩, wire st bk, xa, xn, xc, rfl, HS1, WS⟩
      case measure => simp [intOf]; omega
    · have hkz : ¬ (k : Int) < (n : Int) := by omega
      have hkn : k = n := by omega
      subst hkn
      have HE : Hid (st = fold P0 bs) := Lib.hid (by rw [hst.out, List.take_of_length_le (by have := HL.out; omega)])
      obtain ⟨c0, c1, c2, c3, c4⟩ := four_cells hW.out.sum
      obtain ⟨r0, r1, r2, r3, r4⟩ := four_cells hW.out.res
      have rf : ∀ q, wo.frozen? ⟨w.heap.size, q, none⟩ = false := fun q => Joins.unfrozen_of_block hW.out.res q
      have HW := hW
      clear hst hW
      go_wp2_with fail
      refine bodyPost_ret (v := .tuple #[.agg #[.int .i64 (st).x, .int .i64 (st).y, .int .i64 (st).wh, .slice ra rn rc], .bool st.ok]) (by simp [results, Try.results90, go_sem, r0, r1, r2, r3]) rfl ?_
      obtain rfl := HE.out
      refine ⟨_, rfl, ?_, ?_⟩
      · obtain ⟨Br, Tr, hR, hr1, hr2, hr3⟩ := HW.out.rows
        refine (hR.wrote (S := fun p => p.block < w.heap.size + 1) ?_ (fun p hp => .inl (by have e : p.block < w.heap.size + 1 := hp; omega))).mono (by omega) (by simp [World.setCell]; omega)
        repeat (first | exact Wrote.refl _ _ | refine Wrote.setCell ?_ (by simp) _)
      · repeat (refine Below.setCell ?_ (by simp <;> omega) _)
        exact HW.out.below


end Go.Proofs.Ytneonebgneonkaa.sma
