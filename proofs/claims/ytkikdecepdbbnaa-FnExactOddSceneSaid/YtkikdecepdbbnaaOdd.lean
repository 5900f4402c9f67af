/- OddScene of both sides. -/
import Derived.Test.YtkikdecepdbbnaaFlm
import Derived.Test.YtkikdecepdbbnaaRepn
import Derived.Test.YtkikdecepdbbnaaStepw
namespace Go.Proofs.Ytkikdecepdbbnaa.odd
open Go.RowKit Go.Deep Go.Proofs.Ytkikdecepdbbnaa.base
open Go.Proofs.Ytkikdecepdbbnaa.ints (infoInt)
open Go.Proofs.Ytkikdecepdbbnaa.rws (total len_le_total)
open Go.Proofs.Ytkikdecepdbbnaa.play (within withinB withinB_yes withinB_no)
open Go.Proofs.Ytkikdecepdbbnaa.scm
open Go.Proofs.Ytkikdecepdbbnaa.lst
open Go.Proofs.Ytkikdecepdbbnaa.fle
open Go.Proofs.Ytkikdecepdbbnaa.flf (bB_dr bB_tr og_nil)

open Classical in
noncomputable def oddR (x : Int) (xss : List (List Int)) (ws : List Int) : Res := if okScene x xss ws then ⟨x, xss, List.replicate xss.length 1, true⟩ else none_
theorem oddR_yes {x : Int} {xss : List (List Int)} {ws : List Int} (h : okScene x xss ws) : oddR x xss ws = ⟨x, xss, List.replicate xss.length 1, true⟩ := if_pos h
theorem oddR_no {x : Int} {xss : List (List Int)} {ws : List Int} (h : ¬ okScene x xss ws) : oddR x xss ws = none_ := if_neg h
theorem total_oddR {x : Int} {xss : List (List Int)} {ws : List Int} : rws.total (oddR x xss ws).rows ≤ 1048576 := by
  by_cases h : okScene x xss ws
  · rw [oddR_yes h]; exact total_ok h
  · rw [oddR_no h]; decide
theorem len_oddR {x : Int} {xss : List (List Int)} {ws : List Int} : (oddR x xss ws).ws.length ≤ 1048576 := by
  by_cases h : okScene x xss ws
  · rw [oddR_yes h]
    show (List.replicate _ _).length ≤ _
    rw [List.length_replicate]
    have := h.len
    omega
  · rw [oddR_no h]; decide
theorem emp_wrote {W W' : World} {lo hi g : Nat} {s : Value} (h : ∃ gs, s = .slice (some ⟨gs, 0, none⟩) 0 0 ∧ lo = gs ∧ hi = gs + 1 ∧ W.ownsRow lo 3 1 s 0 []) (hw : Wrote (fun p => p.block = g) W W') (hx : g < lo ∨ hi ≤ g) : ∃ gs, s = .slice (some ⟨gs, 0, none⟩) 0 0 ∧ lo = gs ∧ hi = gs + 1 ∧ W'.ownsRow lo 3 1 s 0 [] := by
  obtain ⟨gs, rfl, hl, hh, h1, h2⟩ := h
  refine ⟨gs, rfl, hl, hh, h1, ?_⟩
  rcases h2 with h2 | ⟨b, cap, cur, hv, hB, hg, rest⟩
  · exact .inl h2
  · injection hv with e1 _ e3
    injection e1 with e1
    injection e1 with e1
    subst e3
    exact .inr ⟨b, 0, cur, by rw [← e1], hB, (hw.block b (fun p (hp : p.block = g) e => by omega)).trans hg, rest⟩
/-- rows in blocks that stay as they are -/
theorem rows_heap {w w' : World} {B T : Nat} {v : Value} {xss : List (List Int)} (h : OwnRows w B T v xss) (hk : ∀ b, B ≤ b → b < T → w'.heap[b]? = w.heap[b]?) : OwnRows w' B T v xss := by
  obtain ⟨vals, h⟩ := h
  refine ⟨vals, pile.sl_heap h.outer (fun p hp => hk _ (h.geo p hp) (h.lto p hp)), h.len, fun r hr => ?_, h.geo, h.lto, h.ge, h.lt, fun u hu p hp => (pile.frozen_heap (hk _ (h.ge u hu p hp) (h.lt u hu p hp))).trans (h.free u hu p hp), h.apart, h.each⟩
  obtain ⟨u, hu, hi⟩ := h.row r hr
  exact ⟨u, hu, pile.sl_heap hi (fun p hp => hk _ (h.ge u (List.mem_of_getElem? hu) p hp) (h.lt u (List.mem_of_getElem? hu) p hp))⟩
/-- what holds while the operations of the region come up, in whatever order -/
structure JO (b : World) (p : Nat) (x : Int) (A C : Option Addr) (cap cap' : Nat) (xss : List (List Int)) (ws : List Int) (L : Nat → Bool) (g lo4 hi4 lo5 hi5 : Nat) (s10 s11 s12 s13 s14 s15 s16 s4 : Value) (W : World) : Prop where
  fb : Below b.heap.size b W
  f0 : L 0 = true → s10 = .pointer (some ⟨p, 0, none⟩)
  f1 : L 1 = true → s11 = .int .i64 x
  f2 : L 2 = true → s12 = .pointer (some ⟨p, 1, none⟩)
  f3 : L 3 = true → s13 = .slice A xss.length cap
  f4 : L 4 = true → b.heap.size ≤ lo4 ∧ lo4 ≤ hi4 ∧ hi4 ≤ W.heap.size ∧ OwnRows W lo4 hi4 s14 xss
  f5 : L 5 = true → b.heap.size ≤ lo5 ∧ lo5 ≤ hi5 ∧ hi5 ≤ W.heap.size ∧ ∃ gs, s15 = .slice (some ⟨gs, 0, none⟩) 0 0 ∧ lo5 = gs ∧ hi5 = gs + 1 ∧ W.ownsRow lo5 3 1 s15 0 []
  f6 : L 6 = true → L 1 = true ∧ L 4 = true ∧ L 5 = true ∧ s16 = .agg #[.int .i64 x, s14, s15]
  f7 : L 7 = true → b.heap.size ≤ g ∧ g < W.heap.size ∧ s4 = .pointer (some ⟨g, 0, none⟩) ∧ Blk W g 28 (if L 8 = true then #[.int .i64 x, s14, s15] else #[.int .i64 0, .slice none 0 0, .slice none 0 0])
  f8 : L 8 = true → L 7 = true ∧ L 6 = true
  a4x5 : L 4 = true → L 5 = true → hi4 ≤ lo5 ∨ hi5 ≤ lo4
  a4x7 : L 4 = true → L 7 = true → g < lo4 ∨ hi4 ≤ g
  a5x7 : L 5 = true → L 7 = true → g < lo5 ∨ hi5 ≤ g


set_option maxRecDepth 100000 in
set_option maxHeartbeats 8000000 in
theorem impl_any (x : Int) (u : Value) (xss : List (List Int)) (v : Value) (ws : List Int) (w : World) (h : scene.GV w v ws u xss) (hm : total xss ≤ 1048576) :
    Calls Try.prog 47 #[.agg #[.int .i64 x, u, v]] w fun e w' => ∃ v' u', e = .returned (.tuple #[.agg #[.int .i64 (oddR x xss ws).x, u', v'], .bool (oddR x xss ws).ok]) ∧ scene.OG w' w.heap.size w'.heap.size v' (oddR x xss ws).ws u' (oddR x xss ws).rows ∧ Below w.heap.size w w' := by
  obtain ⟨A, cap, rfl⟩ : ∃ A c, u = .slice A xss.length c := by obtain ⟨A, b, o, cap, R, hu, _⟩ := h.rows.form; exact ⟨A, cap, hu⟩
  obtain ⟨C, cap', rfl⟩ : ∃ A c, v = .slice A ws.length c := by obtain ⟨A, c, hv, _⟩ := h.ints; exact ⟨A, c, by rw [hv, len_i64s]⟩
  have H := Lib.hid h
  obtain ⟨w0, hw0⟩ : ∃ w0, (w.alloc (.cells #[.int .i64 x, .slice A xss.length cap, .slice C ws.length cap'] 28)).alloc (.cells #[.int .i64 0, .slice none 0 0, .slice none 0 0] 28) = w0 := ⟨_, rfl⟩
  have K0 : Hid (Blk w0 w.heap.size 28 #[.int .i64 x, .slice A xss.length cap, .slice C ws.length cap']) := Lib.hid (by rw [← hw0]; exact (Blk.new w _ _).alloc _)
  have R0 : Hid (Blk w0 (w.heap.size + 1) 28 #[.int .i64 0, .slice none 0 0, .slice none 0 0]) := Lib.hid (by
    have := Blk.new (w.alloc (.cells #[.int .i64 x, .slice A xss.length cap, .slice C ws.length cap'] 28)) 28 #[.int .i64 0, .slice none 0 0, .slice none 0 0]
    rw [← hw0]
    simpa using this)
  have B0 : Hid (Below w.heap.size w w0) := Lib.hid (by rw [← hw0]; exact below_al (below_al (Below.refl _ _) _) _)
  have HI := Lib.hid (scv.impl_scene x _ xss _ ws w0 (h.below B0.out) hm)
  clear h
  by_cases hok : okScene x xss ws
  · have HI := HI
    rw [sceneB_yes hok] at HI
    rw [oddR_yes hok]
    have HFR := Lib.hid (fun W (hW : Below w.heap.size w W) => impl_from x _ xss _ ws 0 W (H.out.below hW) hok.len (by omega) (bounds hok))
    have hx10 := hok.len
    have HLS : Hid (lists 0 xss = xss) := Lib.hid (lists_zero xss)
    clear hok
    obtain ⟨c0, c1, c2, c3⟩ := scene.three_cells K0.out
    go_enter Try.func47, Try.ntmps47
    go_wp2_with fail
    refine HI.out.mono ?_
    rintro e w1 ⟨rfl, hb1⟩
    have B1 := Lib.hid (below_tr B0.out hb1)
    have K1 := Lib.hid (K0.out.below hb1)
    have R1 := Lib.hid (R0.out.below hb1)
    have hr1 := R1.out.lt
    clear c0 c1 c2 c3 hb1 B0 K0 R0
    obtain ⟨c0, c1, c2, c3⟩ := scene.three_cells K1.out
    obtain ⟨r0, r1, r2, r3⟩ := scene.three_cells R1.out
    have rf : ∀ k, w1.frozen? ⟨w.heap.size + 1, k, none⟩ = false := fun k => Joins.unfrozen_of_block R1.out k
    have B2 := Lib.hid (below_tr B1.out (below_al (Below.refl _ w1) (.cells #[.int .i64 1] 3)))
    have K2 := Lib.hid (K1.out.alloc (.cells #[.int .i64 1] 3))
    have R2 := Lib.hid (R1.out.alloc (.cells #[.int .i64 1] 3))
    have hone : (w1.alloc (.cells #[.int .i64 1] 3)).cell? ⟨w1.heap.size, 0, none⟩ = some (.int .i64 1) := (Joins.cell_of_block (Blk.new w1 3 #[.int .i64 1]) 0).trans rfl
    have HRP := Lib.hid (repn.repeat_any xss.length w1.heap.size 0 1 (w1.alloc (.cells #[.int .i64 1] 3)) hone hx10)
    clear hone
    go_wp2_with fail
    refine HRP.out.mono ?_
    rintro e wi ⟨su, rfl, ho, hb2⟩
    obtain ⟨sa, sn, sc, rfl⟩ := ho.ints.shape
    have hsz1 : w1.heap.size + 1 ≤ wi.heap.size := by have := hb2.size; simpa using this
    have BI := Lib.hid (below_tr B2.out hb2)
    have KI := Lib.hid (K2.out.below hb2)
    have RI := Lib.hid (R2.out.below hb2)
    have OI : Hid (OwnInts wi (w1.heap.size + 1) wi.heap.size (.slice sa sn sc) (List.replicate xss.length 1)) := Lib.hid (by have := ho; simpa using this)
    clear c0 c1 c2 c3 r0 r1 r2 r3 rf hb2 ho B2 K2 R2 HRP B1 K1 R1
    obtain ⟨c0, c1, c2, c3⟩ := scene.three_cells KI.out
    have hl0 : w.heap.size < w.heap.size + 1 := by omega
    have hBz : w.heap.size + 1 ≤ wi.heap.size := by omega
    have HF0 := Lib.hid (fun W (hW : Below wi.heap.size wi W) => HFR.out W (below_tr BI.out hW))
    clear HFR
    go_wp2_with fail
    go_region_held3 (fun w' => w'.cell? ⟨w.heap.size, 0, none⟩ = some (.int .i64 x) ∧ w'.cell? ⟨w.heap.size, 1, none⟩ = some (.slice A xss.length cap) ∧ w'.cell? ⟨w.heap.size, 2, none⟩ = some (.slice C ws.length cap') ∧ Below (w.heap.size + 1) wi w')
      ((refine heldB3 c0 c1 c2 hl0 hl0 hl0 ?_; repeat (first | (with_reducible exact Below.refl _ _) | (with_reducible assumption) | (with_reducible refine Below.setCell ?_ (by simp) _) | (with_reducible refine bB_dr ?_) | (with_reducible refine bB_tr hBz ?_ (by assumption)))))
      ((go_at_call 78; (with_reducible refine (HF0.out _ ?_).mono ?_); (repeat (first | (with_reducible exact Below.refl _ _) | (with_reducible refine below_dr ?_) | (with_reducible refine below_tr ?_ (by assumption)))); rintro e w3 ⟨u', rfl, hu', hq⟩; (obtain ⟨xa, xn, xc, rfl⟩ := hu'.rows.shape); (have R4 := Lib.hid (RI.out.below (below_tr (below_dr (Below.refl _ _)) hq))); (obtain ⟨q0, q1, q2, q3⟩ := scene.three_cells R4.out); (have rf4 : ∀ k, w3.frozen? ⟨w.heap.size + 1, k, none⟩ = false := fun k => Joins.unfrozen_of_block R4.out k)))
    have BX := Lib.hid (below_tr (below_dr (Below.refl _ _)) hq)
    have B3 := Lib.hid (below_tr BI.out BX.out)
    have O3 := Lib.hid (OI.out.keep BX.out)
    have U3 : Hid (OwnRows w3 wi.heap.size w3.heap.size (.slice xa xn xc) xss) := Lib.hid (by have := hu'; rw [HLS.out] at this; exact this.mono (by simp) (Nat.le_refl _))
    have WR := set3_wrote w3 (w.heap.size + 1) (.int .i64 x) (.slice xa xn xc) (.slice sa sn sc)
    have hwi3 : wi.heap.size ≤ w3.heap.size := BX.out.size
    have B4 := Lib.hid (set3_below (.int .i64 x) (.slice xa xn xc) (.slice sa sn sc) (by omega : w.heap.size ≤ w.heap.size + 1) B3.out)
    have O4 := Lib.hid (O3.out.wrote WR (fun p (hp : p.block = w.heap.size + 1) => by omega))
    have U4 := Lib.hid (U3.out.wrote WR (fun p (hp : p.block = w.heap.size + 1) => by omega))
    have hsz4 : (set3 w3 (w.heap.size + 1) (.int .i64 x) (.slice xa xn xc) (.slice sa sn sc)).heap.size = w3.heap.size := WR.size
    have K4 := set3_same (.int .i64 x) (.slice xa xn xc) (.slice sa sn sc) R4.out
    obtain ⟨y0, y1, y2, y3⟩ := scene.three_cells K4
    have WX : set3 w3 (w.heap.size + 1) (.int .i64 x) (.slice xa xn xc) (.slice sa sn sc) = ((w3.setCell ⟨w.heap.size + 1, 0, none⟩ (.int .i64 x)).setCell ⟨w.heap.size + 1, 1, none⟩ (.slice xa xn xc)).setCell ⟨w.heap.size + 1, 2, none⟩ (.slice sa sn sc) := rfl
    rw [← WX]
    generalize set3 w3 (w.heap.size + 1) (.int .i64 x) (.slice xa xn xc) (.slice sa sn sc) = w4 at *
    clear WX WR K4 q0 q1 q2 q3 c0 c1 c2 c3
    go_wp2_with fail
    refine bodyPost_ret (v := .tuple #[.agg #[.int .i64 x, .slice xa xn xc, .slice sa sn sc], .bool true]) (by simp [results, Try.results47, go_sem, y0, y1, y2]) rfl ⟨_, _, rfl, ⟨wi.heap.size, ?_, ?_, .inl ⟨?_, ?_⟩⟩, B4.out⟩
    · omega
    · omega
    · exact O4.out.mono (by omega) (Nat.le_refl _)
    · exact U4.out.mono (Nat.le_refl _) (by omega)
  · have HI := HI
    rw [sceneB_no hok] at HI
    rw [oddR_no hok]
    unfold none_
    clear hok
    obtain ⟨c0, c1, c2, c3⟩ := scene.three_cells K0.out
    go_enter Try.func47, Try.ntmps47
    go_wp2_with fail
    refine HI.out.mono ?_
    rintro e w1 ⟨rfl, hb1⟩
    have B1 := Lib.hid (below_tr B0.out hb1)
    have K1 := Lib.hid (K0.out.below hb1)
    have R1 := Lib.hid (R0.out.below hb1)
    have hr1 := R1.out.lt
    clear c0 c1 c2 c3 hb1 B0 K0 R0
    obtain ⟨c0, c1, c2, c3⟩ := scene.three_cells K1.out
    obtain ⟨r0, r1, r2, r3⟩ := scene.three_cells R1.out
    have rf : ∀ k, w1.frozen? ⟨w.heap.size + 1, k, none⟩ = false := fun k => Joins.unfrozen_of_block R1.out k
    go_wp2_with fail
    refine bodyPost_ret (v := .tuple #[.agg #[.int .i64 0, .slice none 0 0, .slice none 0 0], .bool false]) (by simp [results, Try.results47, go_sem, r0, r1, r2]) rfl ⟨_, _, rfl, og_nil _ _ _ (by first | exact B1.out.size | (have := B1.out.size; simp [World.setCell]; omega)), ?_⟩
    repeat (first | (with_reducible exact B1.out) | (with_reducible refine Below.setCell ?_ (by simp) _))



set_option maxRecDepth 100000 in
set_option maxHeartbeats 8000000 in
theorem spec_any (x : Int) (u : Value) (xss : List (List Int)) (v : Value) (ws : List Int) (w : World) (h : scene.GV w v ws u xss) (hm : total xss ≤ 1048576) :
    Calls Try.prog 46 #[.agg #[.int .i64 x, u, v]] w fun e w' => ∃ v' u', e = .returned (.tuple #[.agg #[.int .i64 (oddR x xss ws).x, u', v'], .bool (oddR x xss ws).ok]) ∧ scene.GV w' v' (oddR x xss ws).ws u' (oddR x xss ws).rows ∧ Below w.heap.size w w' := by
  obtain ⟨i0, hi0, hz0, hz1, hz2⟩ := info_parts infoInt
  obtain ⟨A, cap, rfl⟩ : ∃ A c, u = .slice A xss.length c := by obtain ⟨A, b, o, cap, R, hu, _⟩ := h.rows.form; exact ⟨A, cap, hu⟩
  obtain ⟨C, cap', rfl⟩ : ∃ A c, v = .slice A ws.length c := by obtain ⟨A, c, hv, _⟩ := h.ints; exact ⟨A, c, by rw [hv, len_i64s]⟩
  have H := Lib.hid h
  obtain ⟨w0, hw0⟩ : ∃ w0, (w.alloc (.cells #[.int .i64 x, .slice A xss.length cap, .slice C ws.length cap'] 28)).alloc (.cells #[.int .i64 0, .slice none 0 0, .slice none 0 0] 28) = w0 := ⟨_, rfl⟩
  have K0 : Hid (Blk w0 w.heap.size 28 #[.int .i64 x, .slice A xss.length cap, .slice C ws.length cap']) := Lib.hid (by rw [← hw0]; exact (Blk.new w _ _).alloc _)
  have R0 : Hid (Blk w0 (w.heap.size + 1) 28 #[.int .i64 0, .slice none 0 0, .slice none 0 0]) := Lib.hid (by
    have := Blk.new (w.alloc (.cells #[.int .i64 x, .slice A xss.length cap, .slice C ws.length cap'] 28)) 28 #[.int .i64 0, .slice none 0 0, .slice none 0 0]
    rw [← hw0]
    simpa using this)
  have B0 : Hid (Below w.heap.size w w0) := Lib.hid (by rw [← hw0]; exact below_al (below_al (Below.refl _ _) _) _)
  have HI := Lib.hid (scv.spec_good x _ xss _ ws w0 (h.below B0.out) hm)
  clear h
  by_cases hok : okScene x xss ws
  · have HI := HI
    rw [sceneB_yes hok] at HI
    rw [oddR_yes hok]
    have HLS : Hid (lists 0 xss = xss) := Lib.hid (lists_zero xss)
    have HLI0 := Lib.hid (fun W (hW : Below w.heap.size w W) => spec_lists _ xss 0 W (H.out.rows.below hW) hok.len (by omega) (fun r hr => (bounds hok r hr).2))
    rw [HLS.out] at HLI0
    have hx10 := hok.len
    clear hok
    obtain ⟨c0, c1, c2, c3⟩ := scene.three_cells K0.out
    go_enter Try.func46, Try.ntmps46
    go_wp2_with fail
    refine HI.out.mono ?_
    rintro e w1 ⟨rfl, hb1⟩
    have B1 := Lib.hid (below_tr B0.out hb1)
    have K1 := Lib.hid (K0.out.below hb1)
    have R1 := Lib.hid (R0.out.below hb1)
    have hr1 := R1.out.lt
    clear c0 c1 c2 c3 hb1 B0 K0 R0
    obtain ⟨c0, c1, c2, c3⟩ := scene.three_cells K1.out
    obtain ⟨r0, r1, r2, r3⟩ := scene.three_cells R1.out
    have rf : ∀ k, w1.frozen? ⟨w.heap.size + 1, k, none⟩ = false := fun k => Joins.unfrozen_of_block R1.out k
    have HLI := Lib.hid (fun W (hW : Below w1.heap.size w1 W) => HLI0.out W (below_tr B1.out hW))
    clear c0 c1 c2 c3 r0 r1 r2 r3 rf HLI0
    go_wp2_with fail
    have HXX : True := trivial
    refine inv.start (by kernel_rfl) (fun l a' W => ∃ (g lo4 hi4 lo5 hi5 : Nat) (s10 s11 s12 s13 s14 s15 s16 s4 : Value), a' = { tmps := #[.agg #[.int .i64 x, .slice A xss.length cap, .slice C ws.length cap'], .pointer (some ⟨w.heap.size, 0, none⟩), .pointer (some ⟨w.heap.size + 1, 0, none⟩), .bool false, s4, undef, .agg #[.int .i64 x, .slice A xss.length cap, .slice C ws.length cap'], .bool true, .bool false, undef, s10, s11, s12, s13, s14, s15, s16, undef, undef, undef, undef, undef, undef, undef, undef, undef, undef, undef, undef, undef], defers := [] } ∧ l.size = 9 ∧ JO w1 w.heap.size x A C cap cap' xss ws (fun k => l.getD k false) g lo4 hi4 lo5 hi5 s10 s11 s12 s13 s14 s15 s16 s4 W) ?_ ?_ ?_
    · refine ⟨0, 0, 0, 0, 0, _, _, _, _, _, _, _, _, rfl, by simp, ?_⟩
      exact ⟨below_dr (Below.refl _ _), fun h => by simp at h, fun h => by simp at h, fun h => by simp at h, fun h => by simp at h, fun h => by simp at h, fun h => by simp at h, fun h => by simp at h, fun h => by simp at h, fun h => by simp at h, fun h => by simp at h, fun h => by simp at h, fun h => by simp at h⟩
    · rintro l a' W i ⟨g, lo4, hi4, lo5, hi5, s10, s11, s12, s13, s14, s15, s16, s4, rfl, hsz, h⟩ hi
      have hlt : i < 9 := (inv.ready_lt hi).1
      obtain rfl | rfl | rfl | rfl | rfl | rfl | rfl | rfl | rfl : i = 0 ∨ i = 1 ∨ i = 2 ∨ i = 3 ∨ i = 4 ∨ i = 5 ∨ i = 6 ∨ i = 7 ∨ i = 8 := by omega
      · obtain ⟨hun, o, ho, hall⟩ := mem_ready.1 hi
        obtain rfl : _ = o := Option.some.inj ho
        have hoff : l.getD 0 false = false := inv.off l 0 hun
        have hup := inv.upd_eq l 0 hun
        refine wpOp_step rfl (fun K' hK => ?_)
        have HK := Lib.hid hK
        clear hK hall ho
        go_simp
        refine HK.out _ _ ⟨g, lo4, hi4, lo5, hi5, _, _, _, _, _, _, _, _, rfl, by simp [hsz], ?_⟩
        rw [hup]
        exact ⟨h.fb, fun _ => rfl, h.f1, h.f2, h.f3, h.f4, h.f5, h.f6, h.f7, h.f8, h.a4x5, h.a4x7, h.a5x7⟩
      · obtain ⟨hun, o, ho, hall⟩ := mem_ready.1 hi
        obtain rfl : _ = o := Option.some.inj ho
        have hoff : l.getD 1 false = false := inv.off l 1 hun
        have hup := inv.upd_eq l 1 hun
        have d0 : l.getD 0 false = true := hall ⟨0, .data⟩ (by simp) (by decide)
        obtain rfl := h.f0 d0
        obtain ⟨c0, c1, c2, c3⟩ := scene.three_cells (K1.out.below h.fb)
        refine wpOp_step rfl (fun K' hK => ?_)
        have HK := Lib.hid hK
        clear hK hall ho
        go_simp
        refine HK.out _ _ ⟨g, lo4, hi4, lo5, hi5, _, _, _, _, _, _, _, _, rfl, by simp [hsz], ?_⟩
        rw [hup]
        exact ⟨h.fb, h.f0, fun _ => rfl, h.f2, h.f3, h.f4, h.f5, fun hh => ⟨rfl, (h.f6 hh).2.1, (h.f6 hh).2.2.1, (h.f6 hh).2.2.2⟩, h.f7, h.f8, h.a4x5, h.a4x7, h.a5x7⟩
      · obtain ⟨hun, o, ho, hall⟩ := mem_ready.1 hi
        obtain rfl : _ = o := Option.some.inj ho
        have hoff : l.getD 2 false = false := inv.off l 2 hun
        have hup := inv.upd_eq l 2 hun
        refine wpOp_step rfl (fun K' hK => ?_)
        have HK := Lib.hid hK
        clear hK hall ho
        go_simp
        refine HK.out _ _ ⟨g, lo4, hi4, lo5, hi5, _, _, _, _, _, _, _, _, rfl, by simp [hsz], ?_⟩
        rw [hup]
        exact ⟨h.fb, h.f0, h.f1, fun _ => rfl, h.f3, h.f4, h.f5, h.f6, h.f7, h.f8, h.a4x5, h.a4x7, h.a5x7⟩
      · obtain ⟨hun, o, ho, hall⟩ := mem_ready.1 hi
        obtain rfl : _ = o := Option.some.inj ho
        have hoff : l.getD 3 false = false := inv.off l 3 hun
        have hup := inv.upd_eq l 3 hun
        have d2 : l.getD 2 false = true := hall ⟨2, .data⟩ (by simp) (by decide)
        obtain rfl := h.f2 d2
        obtain ⟨c0, c1, c2, c3⟩ := scene.three_cells (K1.out.below h.fb)
        refine wpOp_step rfl (fun K' hK => ?_)
        have HK := Lib.hid hK
        clear hK hall ho
        go_simp
        refine HK.out _ _ ⟨g, lo4, hi4, lo5, hi5, _, _, _, _, _, _, _, _, rfl, by simp [hsz], ?_⟩
        rw [hup]
        exact ⟨h.fb, h.f0, h.f1, h.f2, fun _ => rfl, h.f4, h.f5, h.f6, h.f7, h.f8, h.a4x5, h.a4x7, h.a5x7⟩
      · obtain ⟨hun, o, ho, hall⟩ := mem_ready.1 hi
        obtain rfl : _ = o := Option.some.inj ho
        have hoff : l.getD 4 false = false := inv.off l 4 hun
        have hup := inv.upd_eq l 4 hun
        have d3 : l.getD 3 false = true := hall ⟨3, .data⟩ (by simp) (by decide)
        obtain rfl := h.f3 d3
        have hnb : ¬ l.getD 6 false = true := fun e => by have hh := h.f6 e; have := hh.2.1; simp only [hoff] at this; cases this
        have hns : ¬ l.getD 8 false = true := fun e => hnb (h.f8 e).2
        refine wpOp_step rfl (fun K' hK => ?_)
        have HK := Lib.hid hK
        clear hK hall ho
        go_simp
        (go_at_call 73; (with_reducible refine (HLI.out _ h.fb).mono ?_); rintro e W' ⟨rv, rfl, hu, hb⟩)
        try go_simp
        refine HK.out _ _ ⟨g, W.heap.size, W'.heap.size, lo5, hi5, _, _, _, _, _, _, _, _, rfl, by simp [hsz], ?_⟩
        rw [hup]
        exact ⟨below_tr h.fb hb, h.f0, h.f1, h.f2, h.f3, fun _ => ⟨h.fb.size, hb.size, Nat.le_refl _, hu⟩, fun hh => ⟨(h.f5 hh).1, (h.f5 hh).2.1, Nat.le_trans (h.f5 hh).2.2.1 hb.size, ((h.f5 hh).2.2.2).imp fun _ k => ⟨k.1, k.2.1, k.2.2.1, app.owns_below k.2.2.2 hb⟩⟩, fun hh => absurd hh hnb, fun hh => by have h1 := h.f7 hh; have h2 := h1.2.2.2.below hb; have e : inv.upd (fun k => l.getD k false) 4 8 = l.getD 8 false := rfl; rw [if_neg hns] at h2; rw [e, if_neg hns]; exact ⟨h1.1, Nat.lt_of_lt_of_le h1.2.1 hb.size, h1.2.2.1, h2⟩, fun hh => absurd hh hns, fun _ ha => .inr (h.f5 ha).2.2.1, fun _ ha => .inl (h.f7 ha).2.1, h.a5x7⟩
      · obtain ⟨hun, o, ho, hall⟩ := mem_ready.1 hi
        obtain rfl : _ = o := Option.some.inj ho
        have hoff : l.getD 5 false = false := inv.off l 5 hun
        have hup := inv.upd_eq l 5 hun
        have hnb : ¬ l.getD 6 false = true := fun e => by have hh := h.f6 e; have := hh.2.2.1; simp only [hoff] at this; cases this
        have hns : ¬ l.getD 8 false = true := fun e => hnb (h.f8 e).2
        refine wpOp_step rfl (fun K' hK => ?_)
        have HK := Lib.hid hK
        clear hK hall ho
        go_simp
        refine HK.out _ _ ⟨g, lo4, hi4, W.heap.size, (W.alloc (.cells #[] 3)).heap.size, _, _, _, _, _, _, _, _, rfl, by simp [hsz], ?_⟩
        rw [hup]
        exact ⟨below_tr h.fb (below_al (Below.refl W.heap.size W) (.cells #[] 3)), h.f0, h.f1, h.f2, h.f3, fun hh => ⟨(h.f4 hh).1, (h.f4 hh).2.1, Nat.le_trans (h.f4 hh).2.2.1 (below_al (Below.refl W.heap.size W) (.cells #[] 3)).size, ((h.f4 hh).2.2.2).keep (below_al (Below.refl W.heap.size W) (.cells #[] 3))⟩, fun _ => ⟨h.fb.size, (below_al (Below.refl W.heap.size W) (.cells #[] 3)).size, Nat.le_refl _, ⟨_, rfl, rfl, by simp, by have := World.ownsRow_made (base := W.heap.size) (e := 3) (size := 1) W #[] 0 (Nat.le_refl _) (Nat.zero_le _) rfl; simpa using this⟩⟩, fun hh => absurd hh hnb, fun hh => by have h1 := h.f7 hh; have h2 := h1.2.2.2.below (below_al (Below.refl W.heap.size W) (.cells #[] 3)); have e : inv.upd (fun k => l.getD k false) 5 8 = l.getD 8 false := rfl; rw [if_neg hns] at h2; rw [e, if_neg hns]; exact ⟨h1.1, Nat.lt_of_lt_of_le h1.2.1 (below_al (Below.refl W.heap.size W) (.cells #[] 3)).size, h1.2.2.1, h2⟩, fun hh => absurd hh hns, fun ha _ => .inl (h.f4 ha).2.2.1, h.a4x7, fun _ ha => .inl (h.f7 ha).2.1⟩
      · obtain ⟨hun, o, ho, hall⟩ := mem_ready.1 hi
        obtain rfl : _ = o := Option.some.inj ho
        have hoff : l.getD 6 false = false := inv.off l 6 hun
        have hup := inv.upd_eq l 6 hun
        have d1 : l.getD 1 false = true := hall ⟨1, .data⟩ (by simp) (by decide)
        have d4 : l.getD 4 false = true := hall ⟨4, .data⟩ (by simp) (by decide)
        have d5 : l.getD 5 false = true := hall ⟨5, .data⟩ (by simp) (by decide)
        obtain rfl := h.f1 d1
        have e4 := h.f4 d4
        obtain ⟨y4a, y4n, y4c, rfl⟩ := (e4.2.2.2).rows.shape
        have e5 := h.f5 d5
        obtain ⟨gs5, rfl, hl5, hh5, o5⟩ := e5.2.2.2
        refine wpOp_step rfl (fun K' hK => ?_)
        have HK := Lib.hid hK
        clear hK hall ho
        go_simp
        refine HK.out _ _ ⟨g, lo4, hi4, lo5, hi5, _, _, _, _, _, _, _, _, rfl, by simp [hsz], ?_⟩
        rw [hup]
        exact ⟨h.fb, h.f0, h.f1, h.f2, h.f3, h.f4, h.f5, fun _ => ⟨d1, d4, d5, rfl⟩, h.f7, fun hh => ⟨(h.f8 hh).1, rfl⟩, h.a4x5, h.a4x7, h.a5x7⟩
      · obtain ⟨hun, o, ho, hall⟩ := mem_ready.1 hi
        obtain rfl : _ = o := Option.some.inj ho
        have hoff : l.getD 7 false = false := inv.off l 7 hun
        have hup := inv.upd_eq l 7 hun
        have hns : ¬ l.getD 8 false = true := fun e => by have := (h.f8 e).1; simp only [hoff] at this; cases this
        have hb := below_al (Below.refl W.heap.size W) (.cells #[.int .i64 0, .slice none 0 0, .slice none 0 0] 28)
        have hnew := Blk.new W 28 #[.int .i64 0, .slice none 0 0, .slice none 0 0]
        refine wpOp_step rfl (fun K' hK => ?_)
        have HK := Lib.hid hK
        clear hK hall ho
        go_simp
        refine HK.out _ _ ⟨W.heap.size, lo4, hi4, lo5, hi5, _, _, _, _, _, _, _, _, rfl, by simp [hsz], ?_⟩
        rw [hup]
        exact ⟨below_tr h.fb hb, h.f0, h.f1, h.f2, h.f3, fun hh => ⟨(h.f4 hh).1, (h.f4 hh).2.1, Nat.le_trans (h.f4 hh).2.2.1 hb.size, ((h.f4 hh).2.2.2).keep hb⟩, fun hh => ⟨(h.f5 hh).1, (h.f5 hh).2.1, Nat.le_trans (h.f5 hh).2.2.1 hb.size, ((h.f5 hh).2.2.2).imp fun _ k => ⟨k.1, k.2.1, k.2.2.1, app.owns_below k.2.2.2 hb⟩⟩, h.f6, fun _ => ⟨h.fb.size, by simp, rfl, by have e : inv.upd (fun k => l.getD k false) 7 8 = l.getD 8 false := rfl; rw [e, if_neg hns]; exact hnew⟩, fun hh => absurd hh hns, h.a4x5, fun ha _ => .inr (h.f4 ha).2.2.1, fun ha _ => .inr (h.f5 ha).2.2.1⟩
      · obtain ⟨hun, o, ho, hall⟩ := mem_ready.1 hi
        obtain rfl : _ = o := Option.some.inj ho
        have hoff : l.getD 8 false = false := inv.off l 8 hun
        have hup := inv.upd_eq l 8 hun
        have d6 : l.getD 6 false = true := hall ⟨6, .data⟩ (by simp) (by decide)
        have d7 : l.getD 7 false = true := hall ⟨7, .data⟩ (by simp) (by decide)
        obtain ⟨q1, q4, q5, rfl⟩ := h.f6 d6
        obtain ⟨hg1, hg2, rfl, hk⟩ := h.f7 d7
        rw [hoff] at hk
        have hk : Blk W g 28 #[.int .i64 0, .slice none 0 0, .slice none 0 0] := hk
        obtain rfl := h.f1 q1
        have e4 := h.f4 q4
        obtain ⟨y4a, y4n, y4c, rfl⟩ := (e4.2.2.2).rows.shape
        have e5 := h.f5 q5
        obtain ⟨gs5, rfl, hl5, hh5, o5⟩ := e5.2.2.2
        obtain ⟨c0, c1, c2, c3⟩ := scene.three_cells hk
        have rf : ∀ k, W.frozen? ⟨g, k, none⟩ = false := fun k => Joins.unfrozen_of_block hk k
        have hw := set3_wrote W g (.int .i64 x) (.slice y4a y4n y4c) (.slice (some ⟨gs5, 0, none⟩) 0 0)
        refine wpOp_step rfl (fun K' hK => ?_)
        have HK := Lib.hid hK
        clear hK hall ho
        go_simp
        refine HK.out _ (set3 W g (.int .i64 x) (.slice y4a y4n y4c) (.slice (some ⟨gs5, 0, none⟩) 0 0)) ⟨g, lo4, hi4, lo5, hi5, _, _, _, _, _, _, _, _, rfl, by simp [hsz], ?_⟩
        rw [hup]
        exact ⟨set3_below (.int .i64 x) (.slice y4a y4n y4c) (.slice (some ⟨gs5, 0, none⟩) 0 0) hg1 h.fb, h.f0, h.f1, h.f2, h.f3, fun _ => ⟨e4.1, e4.2.1, by rw [hw.size]; exact e4.2.2.1, (e4.2.2.2).wrote hw (fun p (hp : p.block = g) => by have := (h.a4x7 q4 d7); omega)⟩, fun _ => ⟨e5.1, e5.2.1, by rw [hw.size]; exact e5.2.2.1, emp_wrote (e5.2.2.2) hw (h.a5x7 q5 d7)⟩, fun _ => ⟨q1, q4, q5, rfl⟩, fun _ => ⟨hg1, by rw [hw.size]; exact hg2, rfl, set3_same (.int .i64 x) (.slice y4a y4n y4c) (.slice (some ⟨gs5, 0, none⟩) 0 0) hk⟩, fun _ => ⟨d7, d6⟩, h.a4x5, h.a4x7, h.a5x7⟩
    · rintro l a' W ⟨g, lo4, hi4, lo5, hi5, s10, s11, s12, s13, s14, s15, s16, s4, rfl, hsz, h⟩ hr
      have hup : ∀ i, i < 9 → l.getD i false = true := inv.all_up (by kernel_rfl) hsz hr
      obtain rfl := h.f0 (hup 0 (by omega))
      obtain rfl := h.f1 (hup 1 (by omega))
      obtain rfl := h.f2 (hup 2 (by omega))
      obtain rfl := h.f3 (hup 3 (by omega))
      obtain ⟨_, _, _, rfl⟩ := h.f6 (hup 6 (by omega))
      obtain ⟨hg1, hg2, rfl, hk⟩ := h.f7 (hup 7 (by omega))
      rw [if_pos (hup 8 (by omega))] at hk
      have e4 := h.f4 (hup 4 (by omega))
      have x4 := h.a4x7 (hup 4 (by omega)) (hup 7 (by omega))
      obtain ⟨y4a, y4n, y4c, rfl⟩ := (e4.2.2.2).rows.shape
      have e5 := h.f5 (hup 5 (by omega))
      have x5 := h.a5x7 (hup 5 (by omega)) (hup 7 (by omega))
      obtain ⟨gs5, rfl, hl5, hh5, o5⟩ := e5.2.2.2
      have x4x5 := h.a4x5 (hup 4 (by omega)) (hup 5 (by omega))
      have hfb := h.fb
      clear h hup hr hsz
      obtain ⟨e4a, e4b, e4c, e4d⟩ := e4
      obtain ⟨e5a, e5b, e5c, e5d⟩ := e5
      have BW := Lib.hid (below_tr B1.out hfb)
      have KP := Lib.hid (K1.out.below hfb)
      have KR := Lib.hid (R1.out.below hfb)
      have ROW := Lib.hid e4d
      have HH4 := Lib.hid e4c
      have AP : Hid (w.heap.size + 1 < lo4 ∧ w.heap.size + 1 < lo5 ∧ w.heap.size + 1 < g ∧ (g < lo4 ∨ hi4 ≤ g)) := Lib.hid ⟨by omega, by omega, by omega, x4⟩
      have SUM : Hid (Blk W g 28 #[.int .i64 x, .slice y4a y4n y4c, .slice (some ⟨gs5, 0, none⟩) 0 0] ∧ W.ownsRow lo5 3 1 (.slice (some ⟨gs5, 0, none⟩) 0 0) 0 (i64s (List.replicate 0 1)) ∧ lo5 ≤ W.heap.size ∧ ∀ j, (Value.slice (some ⟨gs5, 0, none⟩) 0 0).ownBlock = some j → w.heap.size + 1 < j ∧ j < W.heap.size ∧ (j < lo4 ∨ hi4 ≤ j) ∧ j ≠ g) := Lib.hid ⟨hk, o5, by omega, fun j hj => by
        simp [Value.ownBlock] at hj
        omega⟩
      clear hfb hk e4a e4b e4c e4d e5a e5b e5c e5d x4 x5 x4x5 B1 K1 R1 HLI hr1 hg1 hg2 HI o5 hl5 hh5
      obtain ⟨c0, c1, c2, c3⟩ := scene.three_cells KP.out
      go_wp2_with fail
      go_loopw [5] (fun i wr => ∃ (k : Nat) (sv : Value), k ≤ xss.length ∧ i = .int .i64 k ∧ Hid (Below w.heap.size w wr) ∧ Hid (Blk wr w.heap.size 28 #[.int .i64 x, .slice A xss.length cap, .slice C ws.length cap']) ∧ Hid (Blk wr (w.heap.size + 1) 28 #[.int .i64 0, .slice none 0 0, .slice none 0 0]) ∧ Hid (OwnRows wr lo4 hi4 (.slice y4a y4n y4c) xss ∧ hi4 ≤ wr.heap.size) ∧ Hid (Blk wr g 28 #[.int .i64 x, .slice y4a y4n y4c, sv] ∧ wr.ownsRow lo5 3 1 sv k (i64s (List.replicate k 1)) ∧ lo5 ≤ wr.heap.size ∧ ∀ j, sv.ownBlock = some j → w.heap.size + 1 < j ∧ j < wr.heap.size ∧ (j < lo4 ∨ hi4 ≤ j) ∧ j ≠ g)) (fun i _ => xss.length - (intOf i).toNat)
      case atStart => exact ⟨0, _, Nat.zero_le _, rfl, BW, KP, KR, ⟨ROW.out, HH4.out⟩, SUM⟩
      case round =>
        clear BW KP KR ROW SUM c0 c1 c2 c3
        obtain ⟨k, sv, hk, rfl, hB, hP, hR, hROW, hS⟩ := hrel
        obtain ⟨wi, rfl⟩ : ∃ wi : World, wi = wr := ⟨_, rfl⟩
        obtain ⟨hG, hown, hlo, hap⟩ := hS.out
        obtain ⟨sa, sn, sc, rfl⟩ := make.shape hown
        obtain ⟨c0, c1, c2, c3⟩ := scene.three_cells hP.out
        obtain ⟨z0, z1, z2, z3⟩ := scene.three_cells hG
        by_cases hlt : k < xss.length
        · have hkz : (k : Int) < (xss.length : Int) := by omega
          obtain ⟨ap1, ap2, ap3, ap4⟩ := AP.out
          have hb0 := below_al (Below.refl wi.heap.size wi) (.cells #[.int .i64 1] 3)
          have hownA := hown.alloc (.cells #[.int .i64 1] 3)
          have hone := app.one_at wi (.int .i64 1) 3
          obtain ⟨v', w', hrun, q1, q2, _⟩ := run_append_own (P := Try.prog) (wi.alloc (.cells #[.int .i64 1] 3)) lo5 23 23 3 i0 (.int .i64 0) 1 8 Try.underlying23 hi0 hz0 hz1 hz2 rfl (by decide) _ _ _ hownA ⟨wi.heap.size, 0, none⟩ 1 1 [.int .i64 1] rfl hone (by intro u hu; simp at hu; subst hu; rfl) (by unfold maxLen; omega) (by omega) (by simp; omega)
          have q3 := step.lies Try.underlying23 hi0 hz0 hz1 hz2 (by decide) hownA rfl hone (by intro u hu; simp at hu; subst hu; rfl) (by unfold maxLen; omega) (by omega) (by omega) hrun
          have hsz : wi.heap.size + 1 ≤ w'.heap.size := by have := q2.size; simpa using this
          have other : ∀ b, b < wi.heap.size → (Value.slice sa sn sc).ownBlock ≠ some b → w'.heap[b]? = wi.heap[b]? := fun b hb1 hb2 => (q2.block b (by simp; omega) (fun e => hb2 e.symm)).trans (Below.heap_alloc wi _ b hb1)
          have hgne : (Value.slice sa sn sc).ownBlock ≠ some g := fun e => (hap g e).2.2.2 rfl
          have hG2 : Blk w' g 28 #[.int .i64 x, .slice y4a y4n y4c, .slice sa sn sc] := (other g z3 hgne).trans hG
          have P2 : Blk w' w.heap.size 28 #[.int .i64 x, .slice A xss.length cap, .slice C ws.length cap'] := (other _ c3 (fun e => by have := (hap _ e).1; omega)).trans hP.out
          have R2 : Blk w' (w.heap.size + 1) 28 #[.int .i64 0, .slice none 0 0, .slice none 0 0] := (other _ hR.out.lt (fun e => by have := (hap _ e).1; omega)).trans hR.out
          have W2 : OwnRows w' lo4 hi4 (.slice y4a y4n y4c) xss := rows_heap hROW.out.1 (fun b h1 h2 => other b (by have := hROW.out.2; omega) (fun e => by have := (hap _ e).2.2.1; omega))
          have BB : Below w.heap.size w w' := (below_al hB.out (.cells #[.int .i64 1] 3)).grown q2 (by have := hB.out.size; simp; omega) (fun j hj => by have := (hap j hj).1; omega)
          have hap2 : ∀ j, v'.ownBlock = some j → w.heap.size + 1 < j ∧ j < w'.heap.size ∧ (j < lo4 ∨ hi4 ≤ j) ∧ j ≠ g := fun j hj => by
            have hjl := (q1.lt j hj).2
            rcases q3 with e | e
            · rw [e] at hj
              have := hap j hj
              exact ⟨this.1, by omega, this.2.2.1, this.2.2.2⟩
            · rw [e] at hj
              injection hj with hj
              have hs0 : (wi.alloc (.cells #[.int .i64 1] 3)).heap.size = wi.heap.size + 1 := by simp
              rw [hs0] at hj
              have := hROW.out.2
              have := hlo
              exact ⟨by omega, hjl, by omega, by omega⟩
          have Q2 : w'.ownsRow lo5 3 1 v' (k + 1) (i64s (List.replicate (k + 1) 1)) := by
            have e : i64s (List.replicate (k + 1) 1) = i64s (List.replicate k 1) ++ [.int .i64 1] := by rw [app.i64s_snoc, List.replicate_succ']
            rw [e]; exact q1
          obtain ⟨xa, xl, xc, rfl⟩ := make.shape q1
          have hw := Wrote.setCell (S := fun p => p.block = g) (p := (⟨g, 2, none⟩ : Addr)) (Wrote.refl _ w') rfl (.slice xa xl xc)
          have hG3 : Blk (w'.setCell ⟨g, 2, none⟩ (.slice xa xl xc)) g 28 #[.int .i64 x, .slice y4a y4n y4c, .slice xa xl xc] := Joins.block_setCell (i := 2) hG2 (.slice xa xl xc)
          have B3 := Lib.hid (BB.setCell (p := (⟨g, 2, none⟩ : Addr)) (by show w.heap.size ≤ g; omega) (.slice xa xl xc))
          have P3 := Lib.hid (P2.wrote hw (fun p (hp : p.block = g) e => by omega))
          have R3 := Lib.hid (R2.wrote hw (fun p (hp : p.block = g) e => by omega))
          have W3 : Hid (OwnRows (w'.setCell ⟨g, 2, none⟩ (.slice xa xl xc)) lo4 hi4 (.slice y4a y4n y4c) xss ∧ hi4 ≤ (w'.setCell ⟨g, 2, none⟩ (.slice xa xl xc)).heap.size) := Lib.hid ⟨W2.wrote hw (fun p (hp : p.block = g) => by omega), by rw [hw.size]; have := hROW.out.2; omega⟩
          have S3 : Hid (Blk (w'.setCell ⟨g, 2, none⟩ (.slice xa xl xc)) g 28 #[.int .i64 x, .slice y4a y4n y4c, .slice xa xl xc] ∧ (w'.setCell ⟨g, 2, none⟩ (.slice xa xl xc)).ownsRow lo5 3 1 (.slice xa xl xc) (k + 1) (i64s (List.replicate (k + 1) 1)) ∧ lo5 ≤ (w'.setCell ⟨g, 2, none⟩ (.slice xa xl xc)).heap.size ∧ ∀ j, (Value.slice xa xl xc).ownBlock = some j → w.heap.size + 1 < j ∧ j < (w'.setCell ⟨g, 2, none⟩ (.slice xa xl xc)).heap.size ∧ (j < lo4 ∨ hi4 ≤ j) ∧ j ≠ g) := Lib.hid ⟨hG3, ownsRow_setCell_other Q2 (fun e => (hap2 g e).2.2.2 rfl) _, by rw [hw.size]; omega, by rw [hw.size]; exact hap2⟩
          obtain ⟨y0, y1, y2, y3⟩ := scene.three_cells hG2
          have rf : ∀ q, w'.frozen? ⟨g, q, none⟩ = false := fun q => Joins.unfrozen_of_block hG2 q
          clear hw hG3 Q2 BB W2 R2 P2 hG2 hgne other q1 q2 q3 hap2 hone hownA hb0 ap1 ap2 ap3 ap4 hG hown hlo hap
          go_wp2_with (at_builtin; refine Lib.wpList_append_run _ rfl _ _ _ _ rfl _ _ rfl rfl _ _ hrun ?_)
          go_roundw
          case rel => exact ⟨k + 1, _, by omega, by go_num, B3, P3, R3, W3, S3⟩
          case measure => simp [intOf]; omega
        · have hkz : ¬ (k : Int) < (xss.length : Int) := by omega
          obtain rfl : k = xss.length := by omega
          obtain ⟨ap1, ap2, ap3, ap4⟩ := AP.out
          obtain ⟨r0, r1, r2, r3⟩ := scene.three_cells hR.out
          have rf : ∀ k, wi.frozen? ⟨w.heap.size + 1, k, none⟩ = false := fun k => Joins.unfrozen_of_block hR.out k
          have WR := set3_wrote wi (w.heap.size + 1) (.int .i64 x) (.slice y4a y4n y4c) (.slice sa sn sc)
          have B4 := Lib.hid (set3_below (.int .i64 x) (.slice y4a y4n y4c) (.slice sa sn sc) (by omega : w.heap.size ≤ w.heap.size + 1) hB.out)
          have O4 := Lib.hid ((app.ints_of_owns hown).wrote WR (fun p (hp : p.block = w.heap.size + 1) => by omega)).ints
          have U4 := Lib.hid (hROW.out.1.wrote WR (fun p (hp : p.block = w.heap.size + 1) => by omega)).rows
          have K4 := set3_same (.int .i64 x) (.slice y4a y4n y4c) (.slice sa sn sc) hR.out
          obtain ⟨y0, y1, y2, y3⟩ := scene.three_cells K4
          have WX : set3 wi (w.heap.size + 1) (.int .i64 x) (.slice y4a y4n y4c) (.slice sa sn sc) = ((wi.setCell ⟨w.heap.size + 1, 0, none⟩ (.int .i64 x)).setCell ⟨w.heap.size + 1, 1, none⟩ (.slice y4a y4n y4c)).setCell ⟨w.heap.size + 1, 2, none⟩ (.slice sa sn sc) := rfl
          rw [WX] at y0 y1 y2 B4 O4 U4
          clear WR K4 WX hap hown hlo
          go_wp2_with fail
          exact bodyPost_ret (v := .tuple #[.agg #[.int .i64 x, .slice y4a y4n y4c, .slice sa sn sc], .bool true]) (by simp [results, Try.results46, go_sem, y0, y1, y2]) rfl ⟨_, _, rfl, ⟨O4.out, U4.out⟩, B4.out⟩
  · have HI := HI
    rw [sceneB_no hok] at HI
    rw [oddR_no hok]
    unfold none_
    clear hok
    obtain ⟨c0, c1, c2, c3⟩ := scene.three_cells K0.out
    go_enter Try.func46, Try.ntmps46
    go_wp2_with fail
    refine HI.out.mono ?_
    rintro e w1 ⟨rfl, hb1⟩
    have B1 := Lib.hid (below_tr B0.out hb1)
    have K1 := Lib.hid (K0.out.below hb1)
    have R1 := Lib.hid (R0.out.below hb1)
    have hr1 := R1.out.lt
    clear c0 c1 c2 c3 hb1 B0 K0 R0
    obtain ⟨c0, c1, c2, c3⟩ := scene.three_cells K1.out
    obtain ⟨r0, r1, r2, r3⟩ := scene.three_cells R1.out
    have rf : ∀ k, w1.frozen? ⟨w.heap.size + 1, k, none⟩ = false := fun k => Joins.unfrozen_of_block R1.out k
    go_wp2_with fail
    refine bodyPost_ret (v := .tuple #[.agg #[.int .i64 0, .slice none 0 0, .slice none 0 0], .bool false]) (by simp [results, Try.results46, go_sem, r0, r1, r2]) rfl ⟨_, _, rfl, ⟨Ints.nil _, IRows.nil _⟩, ?_⟩
    repeat (first | (with_reducible exact B1.out) | (with_reducible refine Below.setCell ?_ (by simp) _))


end Go.Proofs.Ytkikdecepdbbnaa.odd
