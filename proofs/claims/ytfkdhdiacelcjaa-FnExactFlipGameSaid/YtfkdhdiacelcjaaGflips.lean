/- FlipGame of the model. -/
import Derived.Test.YtfkdhdiacelcjaaGflipt
import Derived.Test.YtfkdhdiacelcjaaGplay
namespace Go.Proofs.Ytfkdhdiacelcjaa.gflip
open Go.RowKit Go.Deep Go.Proofs.Ytfkdhdiacelcjaa.base
open Go.Proofs.Ytfkdhdiacelcjaa.rws (total)
open Go.Proofs.Ytfkdhdiacelcjaa.gplay (plB plB_yes plB_no)

set_option maxHeartbeats 4000000 in
theorem spec_any (x y : Int) (wv : Value) (ws : List Int) (u : Value) (xss : List (List Int)) (fv : Value) (fs : List Int) (w : World) (h : game.GV w wv ws u xss) (hf : Ints w fv fs) (hn : ws.length ≤ 1048576) (hm : total xss ≤ 1048576) :
    Calls Try.prog 23 #[.agg #[.int .i64 x, .int .i64 y, wv, u], fv] w fun e w' => ∃ a r, e = .returned (.tuple #[.agg #[.int .i64 (res x y ws xss fs).x, .int .i64 (res x y ws xss fs).y, a, r], .bool (res x y ws xss fs).ok]) ∧ game.GV w' a (res x y ws xss fs).ws r (res x y ws xss fs).rows ∧ Below w.heap.size w w' := by
  obtain ⟨wa, wn, wc, ua, un, uc, rfl, rfl⟩ := h.shape
  obtain ⟨fa, fn, fc, rfl⟩ := hf.shape
  have H := Lib.hid h
  have HF := Lib.hid hf
  have K1 := Lib.hid ((Blk.new w 25 #[.int .i64 x, .int .i64 y, .slice wa wn wc, .slice ua un uc]).alloc (.cells #[.int .i64 0, .int .i64 0, .slice none 0 0, .slice none 0 0] 25))
  have R1 : Hid (Blk ((w.alloc (.cells #[.int .i64 x, .int .i64 y, .slice wa wn wc, .slice ua un uc] 25)).alloc (.cells #[.int .i64 0, .int .i64 0, .slice none 0 0, .slice none 0 0] 25)) (w.heap.size + 1) 25 #[.int .i64 0, .int .i64 0, .slice none 0 0, .slice none 0 0]) := Lib.hid (by have := Blk.new (w.alloc (.cells #[.int .i64 x, .int .i64 y, .slice wa wn wc, .slice ua un uc] 25)) 25 #[.int .i64 0, .int .i64 0, .slice none 0 0, .slice none 0 0]; simpa using this)
  have B0 := Lib.hid (below_al (below_al (Below.refl w.heap.size w) (.cells #[.int .i64 x, .int .i64 y, .slice wa wn wc, .slice ua un uc] 25)) (.cells #[.int .i64 0, .int .i64 0, .slice none 0 0, .slice none 0 0] 25))
  have HP := Lib.hid (gplay.l4played x y _ ws _ xss _ fs _ (h.below B0.out) (hf.below B0.out) hn hm)
  obtain ⟨c0, c1, c2, c3, c4⟩ := four_cells K1.out
  clear h hf
  by_cases hall : all x y ws xss fs
  · have HE := Lib.hid (plB_yes hall.1 hall.2)
    obtain ⟨X, rfl⟩ : ∃ X : Nat, x = X := ⟨x.toNat, by have := hall.1.1.1; omega⟩
    obtain ⟨Y, rfl⟩ : ∃ Y : Nat, y = Y := ⟨y.toNat, by have := hall.1.1.2; omega⟩
    have HR := Lib.hid (res_nat hall)
    have HA := Lib.hid hall
    clear hall
    go_enter Try.func23, Try.ntmps23
    go_wp2_with fail
    refine HP.out.mono ?_
    rintro e w1 ⟨rfl, hb⟩
    rw [HE.out]
    have B1 := Lib.hid (below_tr B0.out hb)
    have R2 := Lib.hid (R1.out.below hb)
    clear c0 c1 c2 c3 c4
    obtain ⟨c0, c1, c2, c3, c4⟩ := four_cells (K1.out.below hb)
    have HZ : Hid (w.heap.size + 1 + 1 ≤ w1.heap.size) := Lib.hid (by have := hb.size; simpa using this)
    clear hb HP
    go_wp2_with fail
    refine (l4flip X Y _ ws _ xss _ fs _ (H.out.below B1.out) (HF.out.below B1.out) HA.out hn).mono ?_
    rintro e w2 ⟨a, r, rfl, hoi, hor, hb⟩
    obtain ⟨aa, an, ac, rfl⟩ := hoi.ints.shape
    obtain ⟨ra, rn, rc, rfl⟩ := hor.rows.shape
    have HI := Lib.hid hoi
    have HO := Lib.hid hor
    have hz1 : w.heap.size + 1 + 1 ≤ w1.heap.size := HZ.out
    have B2 := Lib.hid (below_tr B1.out hb)
    have R3 := Lib.hid (R2.out.below hb)
    obtain ⟨r0, r1, r2, r3, r4⟩ := four_cells R3.out
    have rf : ∀ k, w2.frozen? ⟨w.heap.size + 1, k, none⟩ = false := fun k => Joins.unfrozen_of_block R3.out k
    clear hoi hor hb c0 c1 c2 c3 c4
    go_wp2_with fail
    refine bodyPost_ret (v := .tuple #[.agg #[.int .i64 (X : Int), .int .i64 (Y : Int), .slice aa an ac, .slice ra rn rc], .bool true]) (by simp [results, Try.results23, go_sem, r0, r1, r2, r3]) rfl ?_
    rw [HR.out]
    refine ⟨_, _, rfl, ⟨?_, ?_⟩, ?_⟩
    · refine (HI.out.wrote (S := fun p => p.block < w1.heap.size) ?_ (fun p hp => .inl hp)).ints
      repeat (first | exact Wrote.refl _ _ | refine Wrote.setCell ?_ (by first | omega | (simp; omega)) _)
    · refine (HO.out.wrote (S := fun p => p.block < w1.heap.size) ?_ (fun p hp => .inl hp)).rows
      repeat (first | exact Wrote.refl _ _ | refine Wrote.setCell ?_ (by first | omega | (simp; omega)) _)
    · repeat (first | (with_reducible exact B2.out) | refine Below.setCell ?_ (by simp <;> omega) _)
  · have HE := Lib.hid (plB_no hall)
    have HR := Lib.hid (res_no hall)
    clear hall
    go_enter Try.func23, Try.ntmps23
    go_wp2_with fail
    refine HP.out.mono ?_
    rintro e w1 ⟨rfl, hb⟩
    rw [HE.out]
    have B1 := Lib.hid (below_tr B0.out hb)
    have R2 := Lib.hid (R1.out.below hb)
    obtain ⟨r0, r1, r2, r3, r4⟩ := four_cells R2.out
    have rf : ∀ k, w1.frozen? ⟨w.heap.size + 1, k, none⟩ = false := fun k => Joins.unfrozen_of_block R2.out k
    clear c0 c1 c2 c3 c4 hb HP
    go_wp2_with fail
    refine bodyPost_ret (v := .tuple #[.agg #[.int .i64 0, .int .i64 0, .slice none 0 0, .slice none 0 0], .bool false]) (by simp [results, Try.results23, go_sem, r0, r1, r2, r3]) rfl ?_
    rw [HR.out]
    refine ⟨_, _, rfl, ⟨Ints.nil _, IRows.nil _⟩, ?_⟩
    repeat (first | (with_reducible exact B1.out) | refine Below.setCell ?_ (by simp <;> omega) _)

end Go.Proofs.Ytfkdhdiacelcjaa.gflip
