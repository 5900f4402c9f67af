/- The walk of the law FnExactWireBoxes, and its frame. -/
import Derived.Test.YtneonebgneonkaaBox
import Derived.Test.YtneonebgneonkaaWirb
import Derived.Test.YtneonebgneonkaaWisb
import Derived.Test.YtneonebgneonkaaInv
import Derived.Test.YtneonebgneonkaaOpenr
import Derived.Test.YtneonebgneonkaaRows
import Derived.Deep.RegionHeld3
namespace Go.Proofs.Ytneonebgneonkaa.lawWireBoxes
open Go.ChangeShapes Go.WideShapes Go.ChangeAt Go.RowKit Go.Deep Go.Proofs.Ytneonebgneonkaa.base
open Go.ChangeMaps (open_string shut_string)

def zer : Array Value := #[.int .i64 0, .int .i64 0, .int .i64 0, .slice none 0 0]
def cel (c : Bool) (q : make.Res) (r : Value) : Array Value := if c = true then #[.int .i64 q.x, .int .i64 q.y, .int .i64 q.wh, r] else zer
theorem cel_off {c : Bool} (h : c = false) (q : make.Res) (r : Value) : cel c q r = zer := by rw [h]; rfl
theorem cel_on {c : Bool} (h : c = true) (q : make.Res) (r : Value) : cel c q r = #[.int .i64 q.x, .int .i64 q.y, .int .i64 q.wh, r] := by rw [h]; rfl
theorem off_of {b c : Bool} (h : c = true → b = true) (hb : b = false) : c = false := by
  cases e : c with
  | false => rfl
  | true => rw [h e] at hb; cases hb
theorem no {b : Bool} {P : Prop} (h : b = true) (h' : b = false) : P := by rw [h] at h'; cases h'
def set4 (W : World) (g : Nat) (u0 u1 u2 u3 : Value) : World := (((W.setCell ⟨g, 0, none⟩ u0).setCell ⟨g, 1, none⟩ u1).setCell ⟨g, 2, none⟩ u2).setCell ⟨g, 3, none⟩ u3
theorem set4_same {W : World} {g : Nat} {t : TypeId} {z0 z1 z2 z3 : Value} (u0 u1 u2 u3 : Value) (h : Blk W g t #[z0, z1, z2, z3]) : Blk (set4 W g u0 u1 u2 u3) g t #[u0, u1, u2, u3] := by
  have h1 := Joins.block_setCell (i := 0) h u0
  have h2 := Joins.block_setCell (i := 1) h1 u1
  have h3 := Joins.block_setCell (i := 2) h2 u2
  have h4 := Joins.block_setCell (i := 3) h3 u3
  unfold Blk set4
  simpa using h4
theorem set4_wrote (W : World) (g : Nat) (u0 u1 u2 u3 : Value) : Wrote (fun p => p.block = g) W (set4 W g u0 u1 u2 u3) := by
  unfold set4
  exact Wrote.setCell (S := fun p => p.block = g) (Wrote.setCell (S := fun p => p.block = g) (Wrote.setCell (S := fun p => p.block = g) (Wrote.setCell (S := fun p => p.block = g) (Wrote.refl _ _) rfl _) rfl _) rfl _) rfl _
theorem set4_below {w W : World} {g : Nat} (u0 u1 u2 u3 : Value) (h : Below w.heap.size w W) (hg : w.heap.size ≤ g) : Below w.heap.size w (set4 W g u0 u1 u2 u3) := by
  unfold set4
  repeat (first | exact h | refine Below.setCell ?_ hg _)

/-- what holds while the operations of the first region come up, in whatever order -/
structure JJ (b : World) (x0 y0 wh0 : Int) (xss0 : List (List Int)) (x1 y1 wh1 : Int) (xss1 : List (List Int)) (ss2 : List Int) (xss2 yss2 : List (List Int)) (ss3 : List Int) (xss3 yss3 : List (List Int)) (V0 V1 V2 V3 : Value) (q : make.Res) (L : Nat → Bool) (g : Nat) (r s0 s1 s2 s3 s4 s5 s6 s7 s8 s9 s10 s11 s12 s14 : Value) (W : World) : Prop where
  f0 : L 0 = true → s0 = V0
  f1 : L 1 = true → L 8 = false → ∃ u, s1 = .agg #[.int .i64 x0, .int .i64 y0, .int .i64 wh0, u] ∧ IRows W u xss0
  f2 : L 2 = true → s2 = V1
  f3 : L 3 = true → L 8 = false → ∃ u, s3 = .agg #[.int .i64 x1, .int .i64 y1, .int .i64 wh1, u] ∧ IRows W u xss1
  f4 : L 4 = true → s4 = V2
  f5 : L 5 = true → L 8 = false → ∃ u, s5 = u ∧ ∃ sa sb sc, u = .agg #[sa, sb, sc] ∧ rule.RV W sa ss2 sb xss2 sc yss2
  f6 : L 6 = true → s6 = V3
  f7 : L 7 = true → L 8 = false → ∃ u, s7 = u ∧ ∃ sa sb sc, u = .agg #[sa, sb, sc] ∧ rule.RV W sa ss3 sb xss3 sc yss3
  f8 : L 8 = true → s8 = .tuple #[.agg #[.int .i64 q.x, .int .i64 q.y, .int .i64 q.wh, r], .bool q.ok] ∧ IRows W r q.rows ∧ (L 12 = true → ∀ W', Wrote (fun p => p.block = g) W W' → IRows W' r q.rows)
  f9 : L 9 = true → s9 = .tuple #[.agg #[.int .i64 q.x, .int .i64 q.y, .int .i64 q.wh, r], .bool q.ok]
  f10 : L 10 = true → s10 = .agg #[.int .i64 q.x, .int .i64 q.y, .int .i64 q.wh, r]
  f11 : L 11 = true → s11 = .bool q.ok
  f12 : L 12 = true → s12 = .pointer (some ⟨g, 0, none⟩) ∧ b.heap.size ≤ g ∧ Blk W g 48 (cel (L 13) q r)
  f14 : L 14 = true → s14 = .bool q.ok
  d8x1 : L 8 = true → L 1 = true
  d8x3 : L 8 = true → L 3 = true
  d8x5 : L 8 = true → L 5 = true
  d8x7 : L 8 = true → L 7 = true
  d9x8 : L 9 = true → L 8 = true
  d10x9 : L 10 = true → L 9 = true
  d11x9 : L 11 = true → L 9 = true
  d13x12 : L 13 = true → L 12 = true
  d13x8 : L 13 = true → L 8 = true
  fb : Below b.heap.size b W

set_option maxRecDepth 100000 in
set_option maxHeartbeats 4000000 in
theorem walk (x0 y0 wh0 : Int) (u0 : Value) (xss0 : List (List Int)) (x1 y1 wh1 : Int) (u1 : Value) (xss1 : List (List Int)) (sv2 : Value) (ss2 : List Int) (u2 : Value) (xss2 : List (List Int)) (nv2 : Value) (yss2 : List (List Int)) (sv3 : Value) (ss3 : List Int) (u3 : Value) (xss3 : List (List Int)) (nv3 : Value) (yss3 : List (List Int)) (w : World) (h0 : IRows w u0 xss0) (h1 : IRows w u1 xss1) (h2 : rule.RV w sv2 ss2 u2 xss2 nv2 yss2) (h3 : rule.RV w sv3 ss3 u3 xss3 nv3 yss3) :
    Calls Try.prog 8 #[.agg #[.int .i64 x0, .int .i64 y0, .int .i64 wh0, u0], .agg #[.int .i64 x1, .int .i64 y1, .int .i64 wh1, u1], .agg #[sv2, u2, nv2], .agg #[sv3, u3, nv3]] w fun e w' => e = .returned (.bool true) ∧ Below w.heap.size w w' := by
  obtain ⟨va0, vn0, vc0, rfl⟩ := h0.shape
  obtain ⟨va1, vn1, vc1, rfl⟩ := h1.shape
  obtain ⟨wa2, wn2, wc2, va2, vn2, vc2, na2, nn2, nc2, rfl, rfl, rfl⟩ := h2.shape
  obtain ⟨wa3, wn3, wc3, va3, vn3, vc3, na3, nn3, nc3, rfl, rfl, rfl⟩ := h3.shape
  have H0 := Lib.hid h0
  have H1 := Lib.hid h1
  have H2 := Lib.hid h2
  have H3 := Lib.hid h3
  clear h0 h1 h2 h3
  by_cases hs0 : rws.sz xss0 (1048576) < 0
  · skip
    go_enter Try.func8, Try.ntmps8
    have BE0 := Lib.hid (Below.refl w.heap.size w)
    have BE1 := Lib.hid (below_al BE0.out (.cells #[.int .i64 x0, .int .i64 y0, .int .i64 wh0, .slice va0 vn0 vc0] 46))
    have KBp01 := Lib.hid (Blk.new w 46 #[.int .i64 x0, .int .i64 y0, .int .i64 wh0, .slice va0 vn0 vc0])
    clear BE0
    have BE2 := Lib.hid (below_al BE1.out (.cells #[.int .i64 x1, .int .i64 y1, .int .i64 wh1, .slice va1 vn1 vc1] 46))
    have KBp02 := Lib.hid (KBp01.out.alloc (.cells #[.int .i64 x1, .int .i64 y1, .int .i64 wh1, .slice va1 vn1 vc1] 46))
    have KBp12 : Hid (Blk ((w.alloc (.cells #[.int .i64 x0, .int .i64 y0, .int .i64 wh0, .slice va0 vn0 vc0] 46)).alloc (.cells #[.int .i64 x1, .int .i64 y1, .int .i64 wh1, .slice va1 vn1 vc1] 46)) (w.heap.size + 1) 46 #[.int .i64 x1, .int .i64 y1, .int .i64 wh1, .slice va1 vn1 vc1]) := Lib.hid (by have := Blk.new (w.alloc (.cells #[.int .i64 x0, .int .i64 y0, .int .i64 wh0, .slice va0 vn0 vc0] 46)) 46 #[.int .i64 x1, .int .i64 y1, .int .i64 wh1, .slice va1 vn1 vc1]; simpa using this)
    clear BE1 KBp01
    have BE3 := Lib.hid (below_al BE2.out (.cells #[.slice wa2 wn2 wc2, .slice va2 vn2 vc2, .slice na2 nn2 nc2] 25))
    have KBp03 := Lib.hid (KBp02.out.alloc (.cells #[.slice wa2 wn2 wc2, .slice va2 vn2 vc2, .slice na2 nn2 nc2] 25))
    have KBp13 := Lib.hid (KBp12.out.alloc (.cells #[.slice wa2 wn2 wc2, .slice va2 vn2 vc2, .slice na2 nn2 nc2] 25))
    have KBp23 : Hid (Blk (((w.alloc (.cells #[.int .i64 x0, .int .i64 y0, .int .i64 wh0, .slice va0 vn0 vc0] 46)).alloc (.cells #[.int .i64 x1, .int .i64 y1, .int .i64 wh1, .slice va1 vn1 vc1] 46)).alloc (.cells #[.slice wa2 wn2 wc2, .slice va2 vn2 vc2, .slice na2 nn2 nc2] 25)) (w.heap.size + 1 + 1) 25 #[.slice wa2 wn2 wc2, .slice va2 vn2 vc2, .slice na2 nn2 nc2]) := Lib.hid (by have := Blk.new ((w.alloc (.cells #[.int .i64 x0, .int .i64 y0, .int .i64 wh0, .slice va0 vn0 vc0] 46)).alloc (.cells #[.int .i64 x1, .int .i64 y1, .int .i64 wh1, .slice va1 vn1 vc1] 46)) 25 #[.slice wa2 wn2 wc2, .slice va2 vn2 vc2, .slice na2 nn2 nc2]; simpa using this)
    clear BE2 KBp02 KBp12
    have BE4 := Lib.hid (below_al BE3.out (.cells #[.slice wa3 wn3 wc3, .slice va3 vn3 vc3, .slice na3 nn3 nc3] 25))
    have KBp04 := Lib.hid (KBp03.out.alloc (.cells #[.slice wa3 wn3 wc3, .slice va3 vn3 vc3, .slice na3 nn3 nc3] 25))
    have KBp14 := Lib.hid (KBp13.out.alloc (.cells #[.slice wa3 wn3 wc3, .slice va3 vn3 vc3, .slice na3 nn3 nc3] 25))
    have KBp24 := Lib.hid (KBp23.out.alloc (.cells #[.slice wa3 wn3 wc3, .slice va3 vn3 vc3, .slice na3 nn3 nc3] 25))
    have KBp34 : Hid (Blk ((((w.alloc (.cells #[.int .i64 x0, .int .i64 y0, .int .i64 wh0, .slice va0 vn0 vc0] 46)).alloc (.cells #[.int .i64 x1, .int .i64 y1, .int .i64 wh1, .slice va1 vn1 vc1] 46)).alloc (.cells #[.slice wa2 wn2 wc2, .slice va2 vn2 vc2, .slice na2 nn2 nc2] 25)).alloc (.cells #[.slice wa3 wn3 wc3, .slice va3 vn3 vc3, .slice na3 nn3 nc3] 25)) (w.heap.size + 1 + 1 + 1) 25 #[.slice wa3 wn3 wc3, .slice va3 vn3 vc3, .slice na3 nn3 nc3]) := Lib.hid (by have := Blk.new (((w.alloc (.cells #[.int .i64 x0, .int .i64 y0, .int .i64 wh0, .slice va0 vn0 vc0] 46)).alloc (.cells #[.int .i64 x1, .int .i64 y1, .int .i64 wh1, .slice va1 vn1 vc1] 46)).alloc (.cells #[.slice wa2 wn2 wc2, .slice va2 vn2 vc2, .slice na2 nn2 nc2] 25)) 25 #[.slice wa3 wn3 wc3, .slice va3 vn3 vc3, .slice na3 nn3 nc3]; simpa using this)
    clear BE3 KBp03 KBp13 KBp23
    go_wp2_with fail
    refine (box.sz_any x0 y0 wh0 _ xss0 (1048576) _ (H0.out.below BE4.out) (by omega) (by omega)).mono ?_
    rintro e wz5 ⟨rfl, hb⟩
    have BE6 := Lib.hid (below_tr BE4.out hb)
    have KBp06 := Lib.hid (KBp04.out.below hb)
    have KBp16 := Lib.hid (KBp14.out.below hb)
    have KBp26 := Lib.hid (KBp24.out.below hb)
    have KBp36 := Lib.hid (KBp34.out.below hb)
    have ZZ6 : Hid (w.heap.size + 1 + 1 + 1 + 1 ≤ wz5.heap.size) := Lib.hid (by have := (hb).size; simpa using this)
    clear BE4 KBp04 KBp14 KBp24 KBp34
    obtain ⟨p0c0, p0c1, p0c2, p0c3, p0c4⟩ := four_cells KBp06.out
    obtain ⟨p1c0, p1c1, p1c2, p1c3, p1c4⟩ := four_cells KBp16.out
    obtain ⟨p2c0, p2c1, p2c2, p2c3⟩ := scene.three_cells KBp26.out
    obtain ⟨p3c0, p3c1, p3c2, p3c3⟩ := scene.three_cells KBp36.out
    clear hb
    go_wp2_with fail
    go_ret
    exact ⟨rfl, BE6.out⟩
  have hq0 := rws.sz_bound hs0
  have hn0 : rws.total xss0 ≤ 1048576 := by omega
  by_cases hs1 : rws.sz xss1 (rws.sz xss0 (1048576)) < 0
  · skip
    go_enter Try.func8, Try.ntmps8
    have BE0 := Lib.hid (Below.refl w.heap.size w)
    have BE7 := Lib.hid (below_al BE0.out (.cells #[.int .i64 x0, .int .i64 y0, .int .i64 wh0, .slice va0 vn0 vc0] 46))
    have KBp07 := Lib.hid (Blk.new w 46 #[.int .i64 x0, .int .i64 y0, .int .i64 wh0, .slice va0 vn0 vc0])
    clear BE0
    have BE8 := Lib.hid (below_al BE7.out (.cells #[.int .i64 x1, .int .i64 y1, .int .i64 wh1, .slice va1 vn1 vc1] 46))
    have KBp08 := Lib.hid (KBp07.out.alloc (.cells #[.int .i64 x1, .int .i64 y1, .int .i64 wh1, .slice va1 vn1 vc1] 46))
    have KBp18 : Hid (Blk ((w.alloc (.cells #[.int .i64 x0, .int .i64 y0, .int .i64 wh0, .slice va0 vn0 vc0] 46)).alloc (.cells #[.int .i64 x1, .int .i64 y1, .int .i64 wh1, .slice va1 vn1 vc1] 46)) (w.heap.size + 1) 46 #[.int .i64 x1, .int .i64 y1, .int .i64 wh1, .slice va1 vn1 vc1]) := Lib.hid (by have := Blk.new (w.alloc (.cells #[.int .i64 x0, .int .i64 y0, .int .i64 wh0, .slice va0 vn0 vc0] 46)) 46 #[.int .i64 x1, .int .i64 y1, .int .i64 wh1, .slice va1 vn1 vc1]; simpa using this)
    clear BE7 KBp07
    have BE9 := Lib.hid (below_al BE8.out (.cells #[.slice wa2 wn2 wc2, .slice va2 vn2 vc2, .slice na2 nn2 nc2] 25))
    have KBp09 := Lib.hid (KBp08.out.alloc (.cells #[.slice wa2 wn2 wc2, .slice va2 vn2 vc2, .slice na2 nn2 nc2] 25))
    have KBp19 := Lib.hid (KBp18.out.alloc (.cells #[.slice wa2 wn2 wc2, .slice va2 vn2 vc2, .slice na2 nn2 nc2] 25))
    have KBp29 : Hid (Blk (((w.alloc (.cells #[.int .i64 x0, .int .i64 y0, .int .i64 wh0, .slice va0 vn0 vc0] 46)).alloc (.cells #[.int .i64 x1, .int .i64 y1, .int .i64 wh1, .slice va1 vn1 vc1] 46)).alloc (.cells #[.slice wa2 wn2 wc2, .slice va2 vn2 vc2, .slice na2 nn2 nc2] 25)) (w.heap.size + 1 + 1) 25 #[.slice wa2 wn2 wc2, .slice va2 vn2 vc2, .slice na2 nn2 nc2]) := Lib.hid (by have := Blk.new ((w.alloc (.cells #[.int .i64 x0, .int .i64 y0, .int .i64 wh0, .slice va0 vn0 vc0] 46)).alloc (.cells #[.int .i64 x1, .int .i64 y1, .int .i64 wh1, .slice va1 vn1 vc1] 46)) 25 #[.slice wa2 wn2 wc2, .slice va2 vn2 vc2, .slice na2 nn2 nc2]; simpa using this)
    clear BE8 KBp08 KBp18
    have BE10 := Lib.hid (below_al BE9.out (.cells #[.slice wa3 wn3 wc3, .slice va3 vn3 vc3, .slice na3 nn3 nc3] 25))
    have KBp010 := Lib.hid (KBp09.out.alloc (.cells #[.slice wa3 wn3 wc3, .slice va3 vn3 vc3, .slice na3 nn3 nc3] 25))
    have KBp110 := Lib.hid (KBp19.out.alloc (.cells #[.slice wa3 wn3 wc3, .slice va3 vn3 vc3, .slice na3 nn3 nc3] 25))
    have KBp210 := Lib.hid (KBp29.out.alloc (.cells #[.slice wa3 wn3 wc3, .slice va3 vn3 vc3, .slice na3 nn3 nc3] 25))
    have KBp310 : Hid (Blk ((((w.alloc (.cells #[.int .i64 x0, .int .i64 y0, .int .i64 wh0, .slice va0 vn0 vc0] 46)).alloc (.cells #[.int .i64 x1, .int .i64 y1, .int .i64 wh1, .slice va1 vn1 vc1] 46)).alloc (.cells #[.slice wa2 wn2 wc2, .slice va2 vn2 vc2, .slice na2 nn2 nc2] 25)).alloc (.cells #[.slice wa3 wn3 wc3, .slice va3 vn3 vc3, .slice na3 nn3 nc3] 25)) (w.heap.size + 1 + 1 + 1) 25 #[.slice wa3 wn3 wc3, .slice va3 vn3 vc3, .slice na3 nn3 nc3]) := Lib.hid (by have := Blk.new (((w.alloc (.cells #[.int .i64 x0, .int .i64 y0, .int .i64 wh0, .slice va0 vn0 vc0] 46)).alloc (.cells #[.int .i64 x1, .int .i64 y1, .int .i64 wh1, .slice va1 vn1 vc1] 46)).alloc (.cells #[.slice wa2 wn2 wc2, .slice va2 vn2 vc2, .slice na2 nn2 nc2] 25)) 25 #[.slice wa3 wn3 wc3, .slice va3 vn3 vc3, .slice na3 nn3 nc3]; simpa using this)
    clear BE9 KBp09 KBp19 KBp29
    go_wp2_with fail
    refine (box.sz_any x0 y0 wh0 _ xss0 (1048576) _ (H0.out.below BE10.out) (by omega) (by omega)).mono ?_
    rintro e wz11 ⟨rfl, hb⟩
    have BE12 := Lib.hid (below_tr BE10.out hb)
    have KBp012 := Lib.hid (KBp010.out.below hb)
    have KBp112 := Lib.hid (KBp110.out.below hb)
    have KBp212 := Lib.hid (KBp210.out.below hb)
    have KBp312 := Lib.hid (KBp310.out.below hb)
    have ZZ12 : Hid (w.heap.size + 1 + 1 + 1 + 1 ≤ wz11.heap.size) := Lib.hid (by have := (hb).size; simpa using this)
    clear BE10 KBp010 KBp110 KBp210 KBp310
    obtain ⟨p0c0, p0c1, p0c2, p0c3, p0c4⟩ := four_cells KBp012.out
    obtain ⟨p1c0, p1c1, p1c2, p1c3, p1c4⟩ := four_cells KBp112.out
    obtain ⟨p2c0, p2c1, p2c2, p2c3⟩ := scene.three_cells KBp212.out
    obtain ⟨p3c0, p3c1, p3c2, p3c3⟩ := scene.three_cells KBp312.out
    clear hb
    go_wp2_with fail
    refine (box.sz_any x1 y1 wh1 _ xss1 (rws.sz xss0 (1048576)) _ (H1.out.below BE12.out) (by omega) (by omega)).mono ?_
    rintro e wz13 ⟨rfl, hb⟩
    clear p0c0 p0c1 p0c2 p0c3 p0c4 p1c0 p1c1 p1c2 p1c3 p1c4 p2c0 p2c1 p2c2 p2c3 p3c0 p3c1 p3c2 p3c3
    have BE14 := Lib.hid (below_tr BE12.out hb)
    have KBp014 := Lib.hid (KBp012.out.below hb)
    have KBp114 := Lib.hid (KBp112.out.below hb)
    have KBp214 := Lib.hid (KBp212.out.below hb)
    have KBp314 := Lib.hid (KBp312.out.below hb)
    have ZZ14 : Hid (wz11.heap.size ≤ wz13.heap.size) := Lib.hid (by have := (hb).size; simpa using this)
    clear BE12 KBp012 KBp112 KBp212 KBp312
    obtain ⟨p0c0, p0c1, p0c2, p0c3, p0c4⟩ := four_cells KBp014.out
    obtain ⟨p1c0, p1c1, p1c2, p1c3, p1c4⟩ := four_cells KBp114.out
    obtain ⟨p2c0, p2c1, p2c2, p2c3⟩ := scene.three_cells KBp214.out
    obtain ⟨p3c0, p3c1, p3c2, p3c3⟩ := scene.three_cells KBp314.out
    clear hb
    go_wp2_with fail
    go_ret
    exact ⟨rfl, BE14.out⟩
  have hq1 := rws.sz_bound hs1
  have hn1 : rws.total xss1 ≤ 1048576 := by omega
  by_cases hs2 : rule.sz ss2 xss2 yss2 (rws.sz xss1 (rws.sz xss0 (1048576))) < 0
  · skip
    go_enter Try.func8, Try.ntmps8
    have BE0 := Lib.hid (Below.refl w.heap.size w)
    have BE15 := Lib.hid (below_al BE0.out (.cells #[.int .i64 x0, .int .i64 y0, .int .i64 wh0, .slice va0 vn0 vc0] 46))
    have KBp015 := Lib.hid (Blk.new w 46 #[.int .i64 x0, .int .i64 y0, .int .i64 wh0, .slice va0 vn0 vc0])
    clear BE0
    have BE16 := Lib.hid (below_al BE15.out (.cells #[.int .i64 x1, .int .i64 y1, .int .i64 wh1, .slice va1 vn1 vc1] 46))
    have KBp016 := Lib.hid (KBp015.out.alloc (.cells #[.int .i64 x1, .int .i64 y1, .int .i64 wh1, .slice va1 vn1 vc1] 46))
    have KBp116 : Hid (Blk ((w.alloc (.cells #[.int .i64 x0, .int .i64 y0, .int .i64 wh0, .slice va0 vn0 vc0] 46)).alloc (.cells #[.int .i64 x1, .int .i64 y1, .int .i64 wh1, .slice va1 vn1 vc1] 46)) (w.heap.size + 1) 46 #[.int .i64 x1, .int .i64 y1, .int .i64 wh1, .slice va1 vn1 vc1]) := Lib.hid (by have := Blk.new (w.alloc (.cells #[.int .i64 x0, .int .i64 y0, .int .i64 wh0, .slice va0 vn0 vc0] 46)) 46 #[.int .i64 x1, .int .i64 y1, .int .i64 wh1, .slice va1 vn1 vc1]; simpa using this)
    clear BE15 KBp015
    have BE17 := Lib.hid (below_al BE16.out (.cells #[.slice wa2 wn2 wc2, .slice va2 vn2 vc2, .slice na2 nn2 nc2] 25))
    have KBp017 := Lib.hid (KBp016.out.alloc (.cells #[.slice wa2 wn2 wc2, .slice va2 vn2 vc2, .slice na2 nn2 nc2] 25))
    have KBp117 := Lib.hid (KBp116.out.alloc (.cells #[.slice wa2 wn2 wc2, .slice va2 vn2 vc2, .slice na2 nn2 nc2] 25))
    have KBp217 : Hid (Blk (((w.alloc (.cells #[.int .i64 x0, .int .i64 y0, .int .i64 wh0, .slice va0 vn0 vc0] 46)).alloc (.cells #[.int .i64 x1, .int .i64 y1, .int .i64 wh1, .slice va1 vn1 vc1] 46)).alloc (.cells #[.slice wa2 wn2 wc2, .slice va2 vn2 vc2, .slice na2 nn2 nc2] 25)) (w.heap.size + 1 + 1) 25 #[.slice wa2 wn2 wc2, .slice va2 vn2 vc2, .slice na2 nn2 nc2]) := Lib.hid (by have := Blk.new ((w.alloc (.cells #[.int .i64 x0, .int .i64 y0, .int .i64 wh0, .slice va0 vn0 vc0] 46)).alloc (.cells #[.int .i64 x1, .int .i64 y1, .int .i64 wh1, .slice va1 vn1 vc1] 46)) 25 #[.slice wa2 wn2 wc2, .slice va2 vn2 vc2, .slice na2 nn2 nc2]; simpa using this)
    clear BE16 KBp016 KBp116
    have BE18 := Lib.hid (below_al BE17.out (.cells #[.slice wa3 wn3 wc3, .slice va3 vn3 vc3, .slice na3 nn3 nc3] 25))
    have KBp018 := Lib.hid (KBp017.out.alloc (.cells #[.slice wa3 wn3 wc3, .slice va3 vn3 vc3, .slice na3 nn3 nc3] 25))
    have KBp118 := Lib.hid (KBp117.out.alloc (.cells #[.slice wa3 wn3 wc3, .slice va3 vn3 vc3, .slice na3 nn3 nc3] 25))
    have KBp218 := Lib.hid (KBp217.out.alloc (.cells #[.slice wa3 wn3 wc3, .slice va3 vn3 vc3, .slice na3 nn3 nc3] 25))
    have KBp318 : Hid (Blk ((((w.alloc (.cells #[.int .i64 x0, .int .i64 y0, .int .i64 wh0, .slice va0 vn0 vc0] 46)).alloc (.cells #[.int .i64 x1, .int .i64 y1, .int .i64 wh1, .slice va1 vn1 vc1] 46)).alloc (.cells #[.slice wa2 wn2 wc2, .slice va2 vn2 vc2, .slice na2 nn2 nc2] 25)).alloc (.cells #[.slice wa3 wn3 wc3, .slice va3 vn3 vc3, .slice na3 nn3 nc3] 25)) (w.heap.size + 1 + 1 + 1) 25 #[.slice wa3 wn3 wc3, .slice va3 vn3 vc3, .slice na3 nn3 nc3]) := Lib.hid (by have := Blk.new (((w.alloc (.cells #[.int .i64 x0, .int .i64 y0, .int .i64 wh0, .slice va0 vn0 vc0] 46)).alloc (.cells #[.int .i64 x1, .int .i64 y1, .int .i64 wh1, .slice va1 vn1 vc1] 46)).alloc (.cells #[.slice wa2 wn2 wc2, .slice va2 vn2 vc2, .slice na2 nn2 nc2] 25)) 25 #[.slice wa3 wn3 wc3, .slice va3 vn3 vc3, .slice na3 nn3 nc3]; simpa using this)
    clear BE17 KBp017 KBp117 KBp217
    go_wp2_with fail
    refine (box.sz_any x0 y0 wh0 _ xss0 (1048576) _ (H0.out.below BE18.out) (by omega) (by omega)).mono ?_
    rintro e wz19 ⟨rfl, hb⟩
    have BE20 := Lib.hid (below_tr BE18.out hb)
    have KBp020 := Lib.hid (KBp018.out.below hb)
    have KBp120 := Lib.hid (KBp118.out.below hb)
    have KBp220 := Lib.hid (KBp218.out.below hb)
    have KBp320 := Lib.hid (KBp318.out.below hb)
    have ZZ20 : Hid (w.heap.size + 1 + 1 + 1 + 1 ≤ wz19.heap.size) := Lib.hid (by have := (hb).size; simpa using this)
    clear BE18 KBp018 KBp118 KBp218 KBp318
    obtain ⟨p0c0, p0c1, p0c2, p0c3, p0c4⟩ := four_cells KBp020.out
    obtain ⟨p1c0, p1c1, p1c2, p1c3, p1c4⟩ := four_cells KBp120.out
    obtain ⟨p2c0, p2c1, p2c2, p2c3⟩ := scene.three_cells KBp220.out
    obtain ⟨p3c0, p3c1, p3c2, p3c3⟩ := scene.three_cells KBp320.out
    clear hb
    go_wp2_with fail
    refine (box.sz_any x1 y1 wh1 _ xss1 (rws.sz xss0 (1048576)) _ (H1.out.below BE20.out) (by omega) (by omega)).mono ?_
    rintro e wz21 ⟨rfl, hb⟩
    clear p0c0 p0c1 p0c2 p0c3 p0c4 p1c0 p1c1 p1c2 p1c3 p1c4 p2c0 p2c1 p2c2 p2c3 p3c0 p3c1 p3c2 p3c3
    have BE22 := Lib.hid (below_tr BE20.out hb)
    have KBp022 := Lib.hid (KBp020.out.below hb)
    have KBp122 := Lib.hid (KBp120.out.below hb)
    have KBp222 := Lib.hid (KBp220.out.below hb)
    have KBp322 := Lib.hid (KBp320.out.below hb)
    have ZZ22 : Hid (wz19.heap.size ≤ wz21.heap.size) := Lib.hid (by have := (hb).size; simpa using this)
    clear BE20 KBp020 KBp120 KBp220 KBp320
    obtain ⟨p0c0, p0c1, p0c2, p0c3, p0c4⟩ := four_cells KBp022.out
    obtain ⟨p1c0, p1c1, p1c2, p1c3, p1c4⟩ := four_cells KBp122.out
    obtain ⟨p2c0, p2c1, p2c2, p2c3⟩ := scene.three_cells KBp222.out
    obtain ⟨p3c0, p3c1, p3c2, p3c3⟩ := scene.three_cells KBp322.out
    clear hb
    go_wp2_with fail
    refine (rule.sz_any _ ss2 _ xss2 _ yss2 (rws.sz xss1 (rws.sz xss0 (1048576))) _ (H2.out.below BE22.out) (by omega) (by omega)).mono ?_
    rintro e wz23 ⟨rfl, hb⟩
    clear p0c0 p0c1 p0c2 p0c3 p0c4 p1c0 p1c1 p1c2 p1c3 p1c4 p2c0 p2c1 p2c2 p2c3 p3c0 p3c1 p3c2 p3c3
    have BE24 := Lib.hid (below_tr BE22.out hb)
    have KBp024 := Lib.hid (KBp022.out.below hb)
    have KBp124 := Lib.hid (KBp122.out.below hb)
    have KBp224 := Lib.hid (KBp222.out.below hb)
    have KBp324 := Lib.hid (KBp322.out.below hb)
    have ZZ24 : Hid (wz21.heap.size ≤ wz23.heap.size) := Lib.hid (by have := (hb).size; simpa using this)
    clear BE22 KBp022 KBp122 KBp222 KBp322
    obtain ⟨p0c0, p0c1, p0c2, p0c3, p0c4⟩ := four_cells KBp024.out
    obtain ⟨p1c0, p1c1, p1c2, p1c3, p1c4⟩ := four_cells KBp124.out
    obtain ⟨p2c0, p2c1, p2c2, p2c3⟩ := scene.three_cells KBp224.out
    obtain ⟨p3c0, p3c1, p3c2, p3c3⟩ := scene.three_cells KBp324.out
    clear hb
    go_wp2_with fail
    go_ret
    exact ⟨rfl, BE24.out⟩
  have hq2 := rule.sz_bound hs2
  have hn2 : ss2.length ≤ 1048576 := by omega
  have hm2 : rws.total xss2 ≤ 1048576 := by omega
  have hk2 : rws.total yss2 ≤ 1048576 := by omega
  by_cases hs3 : rule.sz ss3 xss3 yss3 (rule.sz ss2 xss2 yss2 (rws.sz xss1 (rws.sz xss0 (1048576)))) < 0
  · skip
    go_enter Try.func8, Try.ntmps8
    have BE0 := Lib.hid (Below.refl w.heap.size w)
    have BE25 := Lib.hid (below_al BE0.out (.cells #[.int .i64 x0, .int .i64 y0, .int .i64 wh0, .slice va0 vn0 vc0] 46))
    have KBp025 := Lib.hid (Blk.new w 46 #[.int .i64 x0, .int .i64 y0, .int .i64 wh0, .slice va0 vn0 vc0])
    clear BE0
    have BE26 := Lib.hid (below_al BE25.out (.cells #[.int .i64 x1, .int .i64 y1, .int .i64 wh1, .slice va1 vn1 vc1] 46))
    have KBp026 := Lib.hid (KBp025.out.alloc (.cells #[.int .i64 x1, .int .i64 y1, .int .i64 wh1, .slice va1 vn1 vc1] 46))
    have KBp126 : Hid (Blk ((w.alloc (.cells #[.int .i64 x0, .int .i64 y0, .int .i64 wh0, .slice va0 vn0 vc0] 46)).alloc (.cells #[.int .i64 x1, .int .i64 y1, .int .i64 wh1, .slice va1 vn1 vc1] 46)) (w.heap.size + 1) 46 #[.int .i64 x1, .int .i64 y1, .int .i64 wh1, .slice va1 vn1 vc1]) := Lib.hid (by have := Blk.new (w.alloc (.cells #[.int .i64 x0, .int .i64 y0, .int .i64 wh0, .slice va0 vn0 vc0] 46)) 46 #[.int .i64 x1, .int .i64 y1, .int .i64 wh1, .slice va1 vn1 vc1]; simpa using this)
    clear BE25 KBp025
    have BE27 := Lib.hid (below_al BE26.out (.cells #[.slice wa2 wn2 wc2, .slice va2 vn2 vc2, .slice na2 nn2 nc2] 25))
    have KBp027 := Lib.hid (KBp026.out.alloc (.cells #[.slice wa2 wn2 wc2, .slice va2 vn2 vc2, .slice na2 nn2 nc2] 25))
    have KBp127 := Lib.hid (KBp126.out.alloc (.cells #[.slice wa2 wn2 wc2, .slice va2 vn2 vc2, .slice na2 nn2 nc2] 25))
    have KBp227 : Hid (Blk (((w.alloc (.cells #[.int .i64 x0, .int .i64 y0, .int .i64 wh0, .slice va0 vn0 vc0] 46)).alloc (.cells #[.int .i64 x1, .int .i64 y1, .int .i64 wh1, .slice va1 vn1 vc1] 46)).alloc (.cells #[.slice wa2 wn2 wc2, .slice va2 vn2 vc2, .slice na2 nn2 nc2] 25)) (w.heap.size + 1 + 1) 25 #[.slice wa2 wn2 wc2, .slice va2 vn2 vc2, .slice na2 nn2 nc2]) := Lib.hid (by have := Blk.new ((w.alloc (.cells #[.int .i64 x0, .int .i64 y0, .int .i64 wh0, .slice va0 vn0 vc0] 46)).alloc (.cells #[.int .i64 x1, .int .i64 y1, .int .i64 wh1, .slice va1 vn1 vc1] 46)) 25 #[.slice wa2 wn2 wc2, .slice va2 vn2 vc2, .slice na2 nn2 nc2]; simpa using this)
    clear BE26 KBp026 KBp126
    have BE28 := Lib.hid (below_al BE27.out (.cells #[.slice wa3 wn3 wc3, .slice va3 vn3 vc3, .slice na3 nn3 nc3] 25))
    have KBp028 := Lib.hid (KBp027.out.alloc (.cells #[.slice wa3 wn3 wc3, .slice va3 vn3 vc3, .slice na3 nn3 nc3] 25))
    have KBp128 := Lib.hid (KBp127.out.alloc (.cells #[.slice wa3 wn3 wc3, .slice va3 vn3 vc3, .slice na3 nn3 nc3] 25))
    have KBp228 := Lib.hid (KBp227.out.alloc (.cells #[.slice wa3 wn3 wc3, .slice va3 vn3 vc3, .slice na3 nn3 nc3] 25))
    have KBp328 : Hid (Blk ((((w.alloc (.cells #[.int .i64 x0, .int .i64 y0, .int .i64 wh0, .slice va0 vn0 vc0] 46)).alloc (.cells #[.int .i64 x1, .int .i64 y1, .int .i64 wh1, .slice va1 vn1 vc1] 46)).alloc (.cells #[.slice wa2 wn2 wc2, .slice va2 vn2 vc2, .slice na2 nn2 nc2] 25)).alloc (.cells #[.slice wa3 wn3 wc3, .slice va3 vn3 vc3, .slice na3 nn3 nc3] 25)) (w.heap.size + 1 + 1 + 1) 25 #[.slice wa3 wn3 wc3, .slice va3 vn3 vc3, .slice na3 nn3 nc3]) := Lib.hid (by have := Blk.new (((w.alloc (.cells #[.int .i64 x0, .int .i64 y0, .int .i64 wh0, .slice va0 vn0 vc0] 46)).alloc (.cells #[.int .i64 x1, .int .i64 y1, .int .i64 wh1, .slice va1 vn1 vc1] 46)).alloc (.cells #[.slice wa2 wn2 wc2, .slice va2 vn2 vc2, .slice na2 nn2 nc2] 25)) 25 #[.slice wa3 wn3 wc3, .slice va3 vn3 vc3, .slice na3 nn3 nc3]; simpa using this)
    clear BE27 KBp027 KBp127 KBp227
    go_wp2_with fail
    refine (box.sz_any x0 y0 wh0 _ xss0 (1048576) _ (H0.out.below BE28.out) (by omega) (by omega)).mono ?_
    rintro e wz29 ⟨rfl, hb⟩
    have BE30 := Lib.hid (below_tr BE28.out hb)
    have KBp030 := Lib.hid (KBp028.out.below hb)
    have KBp130 := Lib.hid (KBp128.out.below hb)
    have KBp230 := Lib.hid (KBp228.out.below hb)
    have KBp330 := Lib.hid (KBp328.out.below hb)
    have ZZ30 : Hid (w.heap.size + 1 + 1 + 1 + 1 ≤ wz29.heap.size) := Lib.hid (by have := (hb).size; simpa using this)
    clear BE28 KBp028 KBp128 KBp228 KBp328
    obtain ⟨p0c0, p0c1, p0c2, p0c3, p0c4⟩ := four_cells KBp030.out
    obtain ⟨p1c0, p1c1, p1c2, p1c3, p1c4⟩ := four_cells KBp130.out
    obtain ⟨p2c0, p2c1, p2c2, p2c3⟩ := scene.three_cells KBp230.out
    obtain ⟨p3c0, p3c1, p3c2, p3c3⟩ := scene.three_cells KBp330.out
    clear hb
    go_wp2_with fail
    refine (box.sz_any x1 y1 wh1 _ xss1 (rws.sz xss0 (1048576)) _ (H1.out.below BE30.out) (by omega) (by omega)).mono ?_
    rintro e wz31 ⟨rfl, hb⟩
    clear p0c0 p0c1 p0c2 p0c3 p0c4 p1c0 p1c1 p1c2 p1c3 p1c4 p2c0 p2c1 p2c2 p2c3 p3c0 p3c1 p3c2 p3c3
    have BE32 := Lib.hid (below_tr BE30.out hb)
    have KBp032 := Lib.hid (KBp030.out.below hb)
    have KBp132 := Lib.hid (KBp130.out.below hb)
    have KBp232 := Lib.hid (KBp230.out.below hb)
    have KBp332 := Lib.hid (KBp330.out.below hb)
    have ZZ32 : Hid (wz29.heap.size ≤ wz31.heap.size) := Lib.hid (by have := (hb).size; simpa using this)
    clear BE30 KBp030 KBp130 KBp230 KBp330
    obtain ⟨p0c0, p0c1, p0c2, p0c3, p0c4⟩ := four_cells KBp032.out
    obtain ⟨p1c0, p1c1, p1c2, p1c3, p1c4⟩ := four_cells KBp132.out
    obtain ⟨p2c0, p2c1, p2c2, p2c3⟩ := scene.three_cells KBp232.out
    obtain ⟨p3c0, p3c1, p3c2, p3c3⟩ := scene.three_cells KBp332.out
    clear hb
    go_wp2_with fail
    refine (rule.sz_any _ ss2 _ xss2 _ yss2 (rws.sz xss1 (rws.sz xss0 (1048576))) _ (H2.out.below BE32.out) (by omega) (by omega)).mono ?_
    rintro e wz33 ⟨rfl, hb⟩
    clear p0c0 p0c1 p0c2 p0c3 p0c4 p1c0 p1c1 p1c2 p1c3 p1c4 p2c0 p2c1 p2c2 p2c3 p3c0 p3c1 p3c2 p3c3
    have BE34 := Lib.hid (below_tr BE32.out hb)
    have KBp034 := Lib.hid (KBp032.out.below hb)
    have KBp134 := Lib.hid (KBp132.out.below hb)
    have KBp234 := Lib.hid (KBp232.out.below hb)
    have KBp334 := Lib.hid (KBp332.out.below hb)
    have ZZ34 : Hid (wz31.heap.size ≤ wz33.heap.size) := Lib.hid (by have := (hb).size; simpa using this)
    clear BE32 KBp032 KBp132 KBp232 KBp332
    obtain ⟨p0c0, p0c1, p0c2, p0c3, p0c4⟩ := four_cells KBp034.out
    obtain ⟨p1c0, p1c1, p1c2, p1c3, p1c4⟩ := four_cells KBp134.out
    obtain ⟨p2c0, p2c1, p2c2, p2c3⟩ := scene.three_cells KBp234.out
    obtain ⟨p3c0, p3c1, p3c2, p3c3⟩ := scene.three_cells KBp334.out
    clear hb
    go_wp2_with fail
    refine (rule.sz_any _ ss3 _ xss3 _ yss3 (rule.sz ss2 xss2 yss2 (rws.sz xss1 (rws.sz xss0 (1048576)))) _ (H3.out.below BE34.out) (by omega) (by omega)).mono ?_
    rintro e wz35 ⟨rfl, hb⟩
    clear p0c0 p0c1 p0c2 p0c3 p0c4 p1c0 p1c1 p1c2 p1c3 p1c4 p2c0 p2c1 p2c2 p2c3 p3c0 p3c1 p3c2 p3c3
    have BE36 := Lib.hid (below_tr BE34.out hb)
    have KBp036 := Lib.hid (KBp034.out.below hb)
    have KBp136 := Lib.hid (KBp134.out.below hb)
    have KBp236 := Lib.hid (KBp234.out.below hb)
    have KBp336 := Lib.hid (KBp334.out.below hb)
    have ZZ36 : Hid (wz33.heap.size ≤ wz35.heap.size) := Lib.hid (by have := (hb).size; simpa using this)
    clear BE34 KBp034 KBp134 KBp234 KBp334
    obtain ⟨p0c0, p0c1, p0c2, p0c3, p0c4⟩ := four_cells KBp036.out
    obtain ⟨p1c0, p1c1, p1c2, p1c3, p1c4⟩ := four_cells KBp136.out
    obtain ⟨p2c0, p2c1, p2c2, p2c3⟩ := scene.three_cells KBp236.out
    obtain ⟨p3c0, p3c1, p3c2, p3c3⟩ := scene.three_cells KBp336.out
    clear hb
    go_wp2_with fail
    go_ret
    exact ⟨rfl, BE36.out⟩
  have hq3 := rule.sz_bound hs3
  have hn3 : ss3.length ≤ 1048576 := by omega
  have hm3 : rws.total xss3 ≤ 1048576 := by omega
  have hk3 : rws.total yss3 ≤ 1048576 := by omega
  go_enter Try.func8, Try.ntmps8
  have BE0 := Lib.hid (Below.refl w.heap.size w)
  have BE37 := Lib.hid (below_al BE0.out (.cells #[.int .i64 x0, .int .i64 y0, .int .i64 wh0, .slice va0 vn0 vc0] 46))
  have KBp037 := Lib.hid (Blk.new w 46 #[.int .i64 x0, .int .i64 y0, .int .i64 wh0, .slice va0 vn0 vc0])
  clear BE0
  have BE38 := Lib.hid (below_al BE37.out (.cells #[.int .i64 x1, .int .i64 y1, .int .i64 wh1, .slice va1 vn1 vc1] 46))
  have KBp038 := Lib.hid (KBp037.out.alloc (.cells #[.int .i64 x1, .int .i64 y1, .int .i64 wh1, .slice va1 vn1 vc1] 46))
  have KBp138 : Hid (Blk ((w.alloc (.cells #[.int .i64 x0, .int .i64 y0, .int .i64 wh0, .slice va0 vn0 vc0] 46)).alloc (.cells #[.int .i64 x1, .int .i64 y1, .int .i64 wh1, .slice va1 vn1 vc1] 46)) (w.heap.size + 1) 46 #[.int .i64 x1, .int .i64 y1, .int .i64 wh1, .slice va1 vn1 vc1]) := Lib.hid (by have := Blk.new (w.alloc (.cells #[.int .i64 x0, .int .i64 y0, .int .i64 wh0, .slice va0 vn0 vc0] 46)) 46 #[.int .i64 x1, .int .i64 y1, .int .i64 wh1, .slice va1 vn1 vc1]; simpa using this)
  clear BE37 KBp037
  have BE39 := Lib.hid (below_al BE38.out (.cells #[.slice wa2 wn2 wc2, .slice va2 vn2 vc2, .slice na2 nn2 nc2] 25))
  have KBp039 := Lib.hid (KBp038.out.alloc (.cells #[.slice wa2 wn2 wc2, .slice va2 vn2 vc2, .slice na2 nn2 nc2] 25))
  have KBp139 := Lib.hid (KBp138.out.alloc (.cells #[.slice wa2 wn2 wc2, .slice va2 vn2 vc2, .slice na2 nn2 nc2] 25))
  have KBp239 : Hid (Blk (((w.alloc (.cells #[.int .i64 x0, .int .i64 y0, .int .i64 wh0, .slice va0 vn0 vc0] 46)).alloc (.cells #[.int .i64 x1, .int .i64 y1, .int .i64 wh1, .slice va1 vn1 vc1] 46)).alloc (.cells #[.slice wa2 wn2 wc2, .slice va2 vn2 vc2, .slice na2 nn2 nc2] 25)) (w.heap.size + 1 + 1) 25 #[.slice wa2 wn2 wc2, .slice va2 vn2 vc2, .slice na2 nn2 nc2]) := Lib.hid (by have := Blk.new ((w.alloc (.cells #[.int .i64 x0, .int .i64 y0, .int .i64 wh0, .slice va0 vn0 vc0] 46)).alloc (.cells #[.int .i64 x1, .int .i64 y1, .int .i64 wh1, .slice va1 vn1 vc1] 46)) 25 #[.slice wa2 wn2 wc2, .slice va2 vn2 vc2, .slice na2 nn2 nc2]; simpa using this)
  clear BE38 KBp038 KBp138
  have BE40 := Lib.hid (below_al BE39.out (.cells #[.slice wa3 wn3 wc3, .slice va3 vn3 vc3, .slice na3 nn3 nc3] 25))
  have KBp040 := Lib.hid (KBp039.out.alloc (.cells #[.slice wa3 wn3 wc3, .slice va3 vn3 vc3, .slice na3 nn3 nc3] 25))
  have KBp140 := Lib.hid (KBp139.out.alloc (.cells #[.slice wa3 wn3 wc3, .slice va3 vn3 vc3, .slice na3 nn3 nc3] 25))
  have KBp240 := Lib.hid (KBp239.out.alloc (.cells #[.slice wa3 wn3 wc3, .slice va3 vn3 vc3, .slice na3 nn3 nc3] 25))
  have KBp340 : Hid (Blk ((((w.alloc (.cells #[.int .i64 x0, .int .i64 y0, .int .i64 wh0, .slice va0 vn0 vc0] 46)).alloc (.cells #[.int .i64 x1, .int .i64 y1, .int .i64 wh1, .slice va1 vn1 vc1] 46)).alloc (.cells #[.slice wa2 wn2 wc2, .slice va2 vn2 vc2, .slice na2 nn2 nc2] 25)).alloc (.cells #[.slice wa3 wn3 wc3, .slice va3 vn3 vc3, .slice na3 nn3 nc3] 25)) (w.heap.size + 1 + 1 + 1) 25 #[.slice wa3 wn3 wc3, .slice va3 vn3 vc3, .slice na3 nn3 nc3]) := Lib.hid (by have := Blk.new (((w.alloc (.cells #[.int .i64 x0, .int .i64 y0, .int .i64 wh0, .slice va0 vn0 vc0] 46)).alloc (.cells #[.int .i64 x1, .int .i64 y1, .int .i64 wh1, .slice va1 vn1 vc1] 46)).alloc (.cells #[.slice wa2 wn2 wc2, .slice va2 vn2 vc2, .slice na2 nn2 nc2] 25)) 25 #[.slice wa3 wn3 wc3, .slice va3 vn3 vc3, .slice na3 nn3 nc3]; simpa using this)
  clear BE39 KBp039 KBp139 KBp239
  go_wp2_with fail
  refine (box.sz_any x0 y0 wh0 _ xss0 (1048576) _ (H0.out.below BE40.out) (by omega) (by omega)).mono ?_
  rintro e wz41 ⟨rfl, hb⟩
  have BE42 := Lib.hid (below_tr BE40.out hb)
  have KBp042 := Lib.hid (KBp040.out.below hb)
  have KBp142 := Lib.hid (KBp140.out.below hb)
  have KBp242 := Lib.hid (KBp240.out.below hb)
  have KBp342 := Lib.hid (KBp340.out.below hb)
  have ZZ42 : Hid (w.heap.size + 1 + 1 + 1 + 1 ≤ wz41.heap.size) := Lib.hid (by have := (hb).size; simpa using this)
  clear BE40 KBp040 KBp140 KBp240 KBp340
  obtain ⟨p0c0, p0c1, p0c2, p0c3, p0c4⟩ := four_cells KBp042.out
  obtain ⟨p1c0, p1c1, p1c2, p1c3, p1c4⟩ := four_cells KBp142.out
  obtain ⟨p2c0, p2c1, p2c2, p2c3⟩ := scene.three_cells KBp242.out
  obtain ⟨p3c0, p3c1, p3c2, p3c3⟩ := scene.three_cells KBp342.out
  clear hb
  go_wp2_with fail
  refine (box.sz_any x1 y1 wh1 _ xss1 (rws.sz xss0 (1048576)) _ (H1.out.below BE42.out) (by omega) (by omega)).mono ?_
  rintro e wz43 ⟨rfl, hb⟩
  clear p0c0 p0c1 p0c2 p0c3 p0c4 p1c0 p1c1 p1c2 p1c3 p1c4 p2c0 p2c1 p2c2 p2c3 p3c0 p3c1 p3c2 p3c3
  have BE44 := Lib.hid (below_tr BE42.out hb)
  have KBp044 := Lib.hid (KBp042.out.below hb)
  have KBp144 := Lib.hid (KBp142.out.below hb)
  have KBp244 := Lib.hid (KBp242.out.below hb)
  have KBp344 := Lib.hid (KBp342.out.below hb)
  have ZZ44 : Hid (wz41.heap.size ≤ wz43.heap.size) := Lib.hid (by have := (hb).size; simpa using this)
  clear BE42 KBp042 KBp142 KBp242 KBp342
  obtain ⟨p0c0, p0c1, p0c2, p0c3, p0c4⟩ := four_cells KBp044.out
  obtain ⟨p1c0, p1c1, p1c2, p1c3, p1c4⟩ := four_cells KBp144.out
  obtain ⟨p2c0, p2c1, p2c2, p2c3⟩ := scene.three_cells KBp244.out
  obtain ⟨p3c0, p3c1, p3c2, p3c3⟩ := scene.three_cells KBp344.out
  clear hb
  go_wp2_with fail
  refine (rule.sz_any _ ss2 _ xss2 _ yss2 (rws.sz xss1 (rws.sz xss0 (1048576))) _ (H2.out.below BE44.out) (by omega) (by omega)).mono ?_
  rintro e wz45 ⟨rfl, hb⟩
  clear p0c0 p0c1 p0c2 p0c3 p0c4 p1c0 p1c1 p1c2 p1c3 p1c4 p2c0 p2c1 p2c2 p2c3 p3c0 p3c1 p3c2 p3c3
  have BE46 := Lib.hid (below_tr BE44.out hb)
  have KBp046 := Lib.hid (KBp044.out.below hb)
  have KBp146 := Lib.hid (KBp144.out.below hb)
  have KBp246 := Lib.hid (KBp244.out.below hb)
  have KBp346 := Lib.hid (KBp344.out.below hb)
  have ZZ46 : Hid (wz43.heap.size ≤ wz45.heap.size) := Lib.hid (by have := (hb).size; simpa using this)
  clear BE44 KBp044 KBp144 KBp244 KBp344
  obtain ⟨p0c0, p0c1, p0c2, p0c3, p0c4⟩ := four_cells KBp046.out
  obtain ⟨p1c0, p1c1, p1c2, p1c3, p1c4⟩ := four_cells KBp146.out
  obtain ⟨p2c0, p2c1, p2c2, p2c3⟩ := scene.three_cells KBp246.out
  obtain ⟨p3c0, p3c1, p3c2, p3c3⟩ := scene.three_cells KBp346.out
  clear hb
  go_wp2_with fail
  refine (rule.sz_any _ ss3 _ xss3 _ yss3 (rule.sz ss2 xss2 yss2 (rws.sz xss1 (rws.sz xss0 (1048576)))) _ (H3.out.below BE46.out) (by omega) (by omega)).mono ?_
  rintro e wz47 ⟨rfl, hb⟩
  clear p0c0 p0c1 p0c2 p0c3 p0c4 p1c0 p1c1 p1c2 p1c3 p1c4 p2c0 p2c1 p2c2 p2c3 p3c0 p3c1 p3c2 p3c3
  have BE48 := Lib.hid (below_tr BE46.out hb)
  have KBp048 := Lib.hid (KBp046.out.below hb)
  have KBp148 := Lib.hid (KBp146.out.below hb)
  have KBp248 := Lib.hid (KBp246.out.below hb)
  have KBp348 := Lib.hid (KBp346.out.below hb)
  have ZZ48 : Hid (wz45.heap.size ≤ wz47.heap.size) := Lib.hid (by have := (hb).size; simpa using this)
  clear BE46 KBp046 KBp146 KBp246 KBp346
  obtain ⟨p0c0, p0c1, p0c2, p0c3, p0c4⟩ := four_cells KBp048.out
  obtain ⟨p1c0, p1c1, p1c2, p1c3, p1c4⟩ := four_cells KBp148.out
  obtain ⟨p2c0, p2c1, p2c2, p2c3⟩ := scene.three_cells KBp248.out
  obtain ⟨p3c0, p3c1, p3c2, p3c3⟩ := scene.three_cells KBp348.out
  clear hb
  have HA0 := Lib.hid (H0.out.below BE48.out)
  have HA1 := Lib.hid (H1.out.below BE48.out)
  have HA2 := Lib.hid (H2.out.below BE48.out)
  have HA3 := Lib.hid (H3.out.below BE48.out)
  obtain ⟨q, hq⟩ : ∃ q, q = (wrm.res x0 y0 wh0 xss0 x1 y1 wh1 xss1 ss2 xss2 yss2 ss3 xss3 yss3) := ⟨_, rfl⟩
  have HQ := Lib.hid hq
  clear hq
  have ZZaW : Hid (w.heap.size + 1 + 1 + 1 + 1 ≤ wz47.heap.size) := Lib.hid KBp348.out.lt
  go_wp2_with fail
  refine inv.start (by kernel_rfl) (fun l a' W => ∃ (g : Nat) (r s0 s1 s2 s3 s4 s5 s6 s7 s8 s9 s10 s11 s12 s14 : Value), a' = { tmps := #[Value.agg #[Value.int IntKind.i64 x0, Value.int IntKind.i64 y0, Value.int IntKind.i64 wh0, Value.slice va0 vn0 vc0], Value.agg #[Value.int IntKind.i64 x1, Value.int IntKind.i64 y1, Value.int IntKind.i64 wh1, Value.slice va1 vn1 vc1], Value.agg #[Value.slice wa2 wn2 wc2, Value.slice va2 vn2 vc2, Value.slice na2 nn2 nc2], Value.agg #[Value.slice wa3 wn3 wc3, Value.slice va3 vn3 vc3, Value.slice na3 nn3 nc3], Value.pointer (some { block := w.heap.size, off := 0 }), Value.pointer (some { block := w.heap.size + 1, off := 0 }), Value.pointer (some { block := w.heap.size + 1 + 1, off := 0 }), Value.pointer (some { block := w.heap.size + 1 + 1 + 1, off := 0 }), Value.bool false, Value.int IntKind.i64 (rule.sz ss3 xss3 yss3 (rule.sz ss2 xss2 yss2 (rws.sz xss1 (rws.sz xss0 1048576)))), s12, s14, undef, undef, undef, undef, undef, undef, undef, undef, undef, undef, undef, Value.agg #[Value.int IntKind.i64 x0, Value.int IntKind.i64 y0, Value.int IntKind.i64 wh0, Value.slice va0 vn0 vc0], Value.int IntKind.i64 1048576, Value.int IntKind.i64 (rws.sz xss0 1048576), Value.int IntKind.i64 (rws.sz xss0 1048576), Value.bool (decide (rws.sz xss0 1048576 < 0)), Value.agg #[Value.int IntKind.i64 x1, Value.int IntKind.i64 y1, Value.int IntKind.i64 wh1, Value.slice va1 vn1 vc1], Value.int IntKind.i64 (rws.sz xss0 1048576), Value.int IntKind.i64 (rws.sz xss1 (rws.sz xss0 1048576)), Value.int IntKind.i64 (rws.sz xss1 (rws.sz xss0 1048576)), Value.bool (decide (rws.sz xss1 (rws.sz xss0 1048576) < 0)), Value.agg #[Value.slice wa2 wn2 wc2, Value.slice va2 vn2 vc2, Value.slice na2 nn2 nc2], Value.int IntKind.i64 (rws.sz xss1 (rws.sz xss0 1048576)), Value.int IntKind.i64 (rule.sz ss2 xss2 yss2 (rws.sz xss1 (rws.sz xss0 1048576))), Value.int IntKind.i64 (rule.sz ss2 xss2 yss2 (rws.sz xss1 (rws.sz xss0 1048576))), Value.bool (decide (rule.sz ss2 xss2 yss2 (rws.sz xss1 (rws.sz xss0 1048576)) < 0)), Value.agg #[Value.slice wa3 wn3 wc3, Value.slice va3 vn3 vc3, Value.slice na3 nn3 nc3], Value.int IntKind.i64 (rule.sz ss2 xss2 yss2 (rws.sz xss1 (rws.sz xss0 1048576))), Value.int IntKind.i64 (rule.sz ss3 xss3 yss3 (rule.sz ss2 xss2 yss2 (rws.sz xss1 (rws.sz xss0 1048576)))), Value.int IntKind.i64 (rule.sz ss3 xss3 yss3 (rule.sz ss2 xss2 yss2 (rws.sz xss1 (rws.sz xss0 1048576)))), Value.bool (decide (rule.sz ss3 xss3 yss3 (rule.sz ss2 xss2 yss2 (rws.sz xss1 (rws.sz xss0 1048576))) < 0)), s9, s0, s1, s2, s3, s4, s5, s6, s7, s8, s10, s11, undef, undef, undef, undef, undef, undef, undef, undef, undef, undef, undef, undef, undef, undef, undef, undef, undef, undef, undef, undef, undef, undef, undef, undef, undef, undef, undef, undef, undef, undef, undef, undef, undef, undef, undef, undef, undef, undef, undef, undef, undef, undef, undef, undef, undef, undef, undef, undef, undef, undef, undef, undef, undef, undef, undef, undef, undef, undef, undef, undef, undef, undef, undef, undef, undef, undef, undef, undef, undef, undef, undef, undef, undef, undef, undef, undef, undef, undef, undef, undef, undef, undef, undef, undef, undef, undef, undef, undef, undef, undef, undef, undef, undef, undef, undef, undef, undef, undef, undef, undef, undef, undef, undef, undef, undef, undef, undef, undef, undef, undef], defers := [] } ∧ l.size = 15 ∧ JJ wz47 x0 y0 wh0 xss0 x1 y1 wh1 xss1 ss2 xss2 yss2 ss3 xss3 yss3 (.agg #[.int .i64 x0, .int .i64 y0, .int .i64 wh0, .slice va0 vn0 vc0]) (.agg #[.int .i64 x1, .int .i64 y1, .int .i64 wh1, .slice va1 vn1 vc1]) (.agg #[.slice wa2 wn2 wc2, .slice va2 vn2 vc2, .slice na2 nn2 nc2]) (.agg #[.slice wa3 wn3 wc3, .slice va3 vn3 vc3, .slice na3 nn3 nc3]) q (fun k => l.getD k false) g r s0 s1 s2 s3 s4 s5 s6 s7 s8 s9 s10 s11 s12 s14 W) ?_ ?_ ?_
  · refine ⟨0, undef, _, _, _, _, _, _, _, _, _, _, _, _, _, _, rfl, by simp, ?_⟩
    exact ⟨fun h => by simp at h, fun h => by simp at h, fun h => by simp at h, fun h => by simp at h, fun h => by simp at h, fun h => by simp at h, fun h => by simp at h, fun h => by simp at h, fun h => by simp at h, fun h => by simp at h, fun h => by simp at h, fun h => by simp at h, fun h => by simp at h, fun h => by simp at h, fun h => by simp at h, fun h => by simp at h, fun h => by simp at h, fun h => by simp at h, fun h => by simp at h, fun h => by simp at h, fun h => by simp at h, fun h => by simp at h, fun h => by simp at h, below_dr (Below.refl _ _)⟩
  · rintro l a' W i ⟨g, r, s0, s1, s2, s3, s4, s5, s6, s7, s8, s9, s10, s11, s12, s14, rfl, hsz, h⟩ hi
    have hlt : i < 15 := (inv.ready_lt hi).1
    obtain rfl | rfl | rfl | rfl | rfl | rfl | rfl | rfl | rfl | rfl | rfl | rfl | rfl | rfl | rfl : i = 0 ∨ i = 1 ∨ i = 2 ∨ i = 3 ∨ i = 4 ∨ i = 5 ∨ i = 6 ∨ i = 7 ∨ i = 8 ∨ i = 9 ∨ i = 10 ∨ i = 11 ∨ i = 12 ∨ i = 13 ∨ i = 14 := by omega
    · obtain ⟨hun, o, ho, hall⟩ := mem_ready.1 hi
      obtain rfl : _ = o := Option.some.inj ho
      have hoff : l.getD 0 false = false := inv.off l 0 hun
      have hup := inv.upd_eq l 0 hun
      obtain ⟨c0, c1, c2, c3, c4⟩ := four_cells (KBp048.out.below h.fb)
      refine wpOp_step rfl (fun K' hK => ?_)
      have HK := Lib.hid hK
      clear hK hall ho
      go_simp
      refine HK.out _ _ ⟨g, r, _, _, _, _, _, _, _, _, _, _, _, _, _, _, rfl, by simp [hsz], ?_⟩
      rw [hup]
      exact ⟨fun _ => rfl, h.f1, h.f2, h.f3, h.f4, h.f5, h.f6, h.f7, h.f8, h.f9, h.f10, h.f11, h.f12, h.f14, h.d8x1, h.d8x3, h.d8x5, h.d8x7, h.d9x8, h.d10x9, h.d11x9, h.d13x12, h.d13x8, h.fb⟩
    · obtain ⟨hun, o, ho, hall⟩ := mem_ready.1 hi
      obtain rfl : _ = o := Option.some.inj ho
      have hoff : l.getD 1 false = false := inv.off l 1 hun
      have hup := inv.upd_eq l 1 hun
      have d0 : l.getD 0 false = true := hall ⟨0, .data⟩ (by simp) (by decide)
      obtain rfl := h.f0 d0
      refine wpOp_step rfl (fun K' hK => ?_)
      have HK := Lib.hid hK
      clear hK hall ho
      go_simp
      (go_at_call 36; (with_reducible refine (box.to_any x0 y0 wh0 _ xss0 _ (HA0.out.below h.fb) hn0).mono ?_); rintro e W' ⟨u, rfl, hu, hb⟩)
      try go_simp
      refine HK.out _ _ ⟨g, r, _, _, _, _, _, _, _, _, _, _, _, _, _, _, rfl, by simp [hsz], ?_⟩
      rw [hup]
      exact ⟨h.f0, fun _ _ => ⟨u, rfl, hu.rows⟩, h.f2, fun h3 h4 => (h.f3 h3 h4).imp fun _ k => ⟨k.1, k.2.below hb⟩, h.f4, fun h3 h4 => (h.f5 h3 h4).imp fun _ k => ⟨k.1, k.2.imp fun _ k => k.imp fun _ k => k.imp fun _ k => ⟨k.1, k.2.below hb⟩⟩, h.f6, fun h3 h4 => (h.f7 h3 h4).imp fun _ k => ⟨k.1, k.2.imp fun _ k => k.imp fun _ k => k.imp fun _ k => ⟨k.1, k.2.below hb⟩⟩, fun h4 => no (h.d8x1 h4) hoff, h.f9, h.f10, h.f11, fun h8 => ⟨(h.f12 h8).1, (h.f12 h8).2.1, (h.f12 h8).2.2.below hb⟩, h.f14, fun _ => rfl, h.d8x3, h.d8x5, h.d8x7, h.d9x8, h.d10x9, h.d11x9, h.d13x12, h.d13x8, below_tr h.fb hb⟩
    · obtain ⟨hun, o, ho, hall⟩ := mem_ready.1 hi
      obtain rfl : _ = o := Option.some.inj ho
      have hoff : l.getD 2 false = false := inv.off l 2 hun
      have hup := inv.upd_eq l 2 hun
      obtain ⟨c0, c1, c2, c3, c4⟩ := four_cells (KBp148.out.below h.fb)
      refine wpOp_step rfl (fun K' hK => ?_)
      have HK := Lib.hid hK
      clear hK hall ho
      go_simp
      refine HK.out _ _ ⟨g, r, _, _, _, _, _, _, _, _, _, _, _, _, _, _, rfl, by simp [hsz], ?_⟩
      rw [hup]
      exact ⟨h.f0, h.f1, fun _ => rfl, h.f3, h.f4, h.f5, h.f6, h.f7, h.f8, h.f9, h.f10, h.f11, h.f12, h.f14, h.d8x1, h.d8x3, h.d8x5, h.d8x7, h.d9x8, h.d10x9, h.d11x9, h.d13x12, h.d13x8, h.fb⟩
    · obtain ⟨hun, o, ho, hall⟩ := mem_ready.1 hi
      obtain rfl : _ = o := Option.some.inj ho
      have hoff : l.getD 3 false = false := inv.off l 3 hun
      have hup := inv.upd_eq l 3 hun
      have d2 : l.getD 2 false = true := hall ⟨2, .data⟩ (by simp) (by decide)
      obtain rfl := h.f2 d2
      refine wpOp_step rfl (fun K' hK => ?_)
      have HK := Lib.hid hK
      clear hK hall ho
      go_simp
      (go_at_call 36; (with_reducible refine (box.to_any x1 y1 wh1 _ xss1 _ (HA1.out.below h.fb) hn1).mono ?_); rintro e W' ⟨u, rfl, hu, hb⟩)
      try go_simp
      refine HK.out _ _ ⟨g, r, _, _, _, _, _, _, _, _, _, _, _, _, _, _, rfl, by simp [hsz], ?_⟩
      rw [hup]
      exact ⟨h.f0, fun h3 h4 => (h.f1 h3 h4).imp fun _ k => ⟨k.1, k.2.below hb⟩, h.f2, fun _ _ => ⟨u, rfl, hu.rows⟩, h.f4, fun h3 h4 => (h.f5 h3 h4).imp fun _ k => ⟨k.1, k.2.imp fun _ k => k.imp fun _ k => k.imp fun _ k => ⟨k.1, k.2.below hb⟩⟩, h.f6, fun h3 h4 => (h.f7 h3 h4).imp fun _ k => ⟨k.1, k.2.imp fun _ k => k.imp fun _ k => k.imp fun _ k => ⟨k.1, k.2.below hb⟩⟩, fun h4 => no (h.d8x3 h4) hoff, h.f9, h.f10, h.f11, fun h8 => ⟨(h.f12 h8).1, (h.f12 h8).2.1, (h.f12 h8).2.2.below hb⟩, h.f14, h.d8x1, fun _ => rfl, h.d8x5, h.d8x7, h.d9x8, h.d10x9, h.d11x9, h.d13x12, h.d13x8, below_tr h.fb hb⟩
    · obtain ⟨hun, o, ho, hall⟩ := mem_ready.1 hi
      obtain rfl : _ = o := Option.some.inj ho
      have hoff : l.getD 4 false = false := inv.off l 4 hun
      have hup := inv.upd_eq l 4 hun
      obtain ⟨c0, c1, c2, c3⟩ := scene.three_cells (KBp248.out.below h.fb)
      refine wpOp_step rfl (fun K' hK => ?_)
      have HK := Lib.hid hK
      clear hK hall ho
      go_simp
      refine HK.out _ _ ⟨g, r, _, _, _, _, _, _, _, _, _, _, _, _, _, _, rfl, by simp [hsz], ?_⟩
      rw [hup]
      exact ⟨h.f0, h.f1, h.f2, h.f3, fun _ => rfl, h.f5, h.f6, h.f7, h.f8, h.f9, h.f10, h.f11, h.f12, h.f14, h.d8x1, h.d8x3, h.d8x5, h.d8x7, h.d9x8, h.d10x9, h.d11x9, h.d13x12, h.d13x8, h.fb⟩
    · obtain ⟨hun, o, ho, hall⟩ := mem_ready.1 hi
      obtain rfl : _ = o := Option.some.inj ho
      have hoff : l.getD 5 false = false := inv.off l 5 hun
      have hup := inv.upd_eq l 5 hun
      have d4 : l.getD 4 false = true := hall ⟨4, .data⟩ (by simp) (by decide)
      obtain rfl := h.f4 d4
      refine wpOp_step rfl (fun K' hK => ?_)
      have HK := Lib.hid hK
      clear hK hall ho
      go_simp
      (go_at_call 17; (with_reducible refine (rule.to_any _ ss2 _ xss2 _ yss2 _ (HA2.out.below h.fb) hn2 hm2 hk2).mono ?_); rintro e W' ⟨ua, ub, uc, rfl, hu, hb⟩)
      try go_simp
      refine HK.out _ _ ⟨g, r, _, _, _, _, _, _, _, _, _, _, _, _, _, _, rfl, by simp [hsz], ?_⟩
      rw [hup]
      exact ⟨h.f0, fun h3 h4 => (h.f1 h3 h4).imp fun _ k => ⟨k.1, k.2.below hb⟩, h.f2, fun h3 h4 => (h.f3 h3 h4).imp fun _ k => ⟨k.1, k.2.below hb⟩, h.f4, fun _ _ => ⟨_, rfl, ua, ub, uc, rfl, hu.view⟩, h.f6, fun h3 h4 => (h.f7 h3 h4).imp fun _ k => ⟨k.1, k.2.imp fun _ k => k.imp fun _ k => k.imp fun _ k => ⟨k.1, k.2.below hb⟩⟩, fun h4 => no (h.d8x5 h4) hoff, h.f9, h.f10, h.f11, fun h8 => ⟨(h.f12 h8).1, (h.f12 h8).2.1, (h.f12 h8).2.2.below hb⟩, h.f14, h.d8x1, h.d8x3, fun _ => rfl, h.d8x7, h.d9x8, h.d10x9, h.d11x9, h.d13x12, h.d13x8, below_tr h.fb hb⟩
    · obtain ⟨hun, o, ho, hall⟩ := mem_ready.1 hi
      obtain rfl : _ = o := Option.some.inj ho
      have hoff : l.getD 6 false = false := inv.off l 6 hun
      have hup := inv.upd_eq l 6 hun
      obtain ⟨c0, c1, c2, c3⟩ := scene.three_cells (KBp348.out.below h.fb)
      refine wpOp_step rfl (fun K' hK => ?_)
      have HK := Lib.hid hK
      clear hK hall ho
      go_simp
      refine HK.out _ _ ⟨g, r, _, _, _, _, _, _, _, _, _, _, _, _, _, _, rfl, by simp [hsz], ?_⟩
      rw [hup]
      exact ⟨h.f0, h.f1, h.f2, h.f3, h.f4, h.f5, fun _ => rfl, h.f7, h.f8, h.f9, h.f10, h.f11, h.f12, h.f14, h.d8x1, h.d8x3, h.d8x5, h.d8x7, h.d9x8, h.d10x9, h.d11x9, h.d13x12, h.d13x8, h.fb⟩
    · obtain ⟨hun, o, ho, hall⟩ := mem_ready.1 hi
      obtain rfl : _ = o := Option.some.inj ho
      have hoff : l.getD 7 false = false := inv.off l 7 hun
      have hup := inv.upd_eq l 7 hun
      have d6 : l.getD 6 false = true := hall ⟨6, .data⟩ (by simp) (by decide)
      obtain rfl := h.f6 d6
      refine wpOp_step rfl (fun K' hK => ?_)
      have HK := Lib.hid hK
      clear hK hall ho
      go_simp
      (go_at_call 17; (with_reducible refine (rule.to_any _ ss3 _ xss3 _ yss3 _ (HA3.out.below h.fb) hn3 hm3 hk3).mono ?_); rintro e W' ⟨ua, ub, uc, rfl, hu, hb⟩)
      try go_simp
      refine HK.out _ _ ⟨g, r, _, _, _, _, _, _, _, _, _, _, _, _, _, _, rfl, by simp [hsz], ?_⟩
      rw [hup]
      exact ⟨h.f0, fun h3 h4 => (h.f1 h3 h4).imp fun _ k => ⟨k.1, k.2.below hb⟩, h.f2, fun h3 h4 => (h.f3 h3 h4).imp fun _ k => ⟨k.1, k.2.below hb⟩, h.f4, fun h3 h4 => (h.f5 h3 h4).imp fun _ k => ⟨k.1, k.2.imp fun _ k => k.imp fun _ k => k.imp fun _ k => ⟨k.1, k.2.below hb⟩⟩, h.f6, fun _ _ => ⟨_, rfl, ua, ub, uc, rfl, hu.view⟩, fun h4 => no (h.d8x7 h4) hoff, h.f9, h.f10, h.f11, fun h8 => ⟨(h.f12 h8).1, (h.f12 h8).2.1, (h.f12 h8).2.2.below hb⟩, h.f14, h.d8x1, h.d8x3, h.d8x5, fun _ => rfl, h.d9x8, h.d10x9, h.d11x9, h.d13x12, h.d13x8, below_tr h.fb hb⟩
    · obtain ⟨hun, o, ho, hall⟩ := mem_ready.1 hi
      obtain rfl : _ = o := Option.some.inj ho
      have hoff : l.getD 8 false = false := inv.off l 8 hun
      have hup := inv.upd_eq l 8 hun
      have d1 : l.getD 1 false = true := hall ⟨1, .data⟩ (by simp) (by decide)
      have d3 : l.getD 3 false = true := hall ⟨3, .data⟩ (by simp) (by decide)
      have d5 : l.getD 5 false = true := hall ⟨5, .data⟩ (by simp) (by decide)
      have d7 : l.getD 7 false = true := hall ⟨7, .data⟩ (by simp) (by decide)
      obtain ⟨u0, rfl, hu0⟩ := h.f1 d1 hoff
      obtain ⟨u1, rfl, hu1⟩ := h.f3 d3 hoff
      obtain ⟨_, rfl, p2a, p2b, p2c, rfl, hu2⟩ := h.f5 d5 hoff
      obtain ⟨_, rfl, p3a, p3b, p3c, rfl, hu3⟩ := h.f7 d7 hoff
      refine wpOp_step rfl (fun K' hK => ?_)
      have HK := Lib.hid hK
      clear hK hall ho
      go_simp
      (go_at_call 35; (with_reducible refine (wis.spec_low x0 y0 wh0 _ xss0 x1 y1 wh1 _ xss1 _ ss2 _ xss2 _ yss2 _ ss3 _ xss3 _ yss3 _ hu0 hu1 hn0 hn1 hu2 hu3).mono ?_); rintro e W' ⟨r', rfl, hr, hb⟩)
      try go_simp
      rw [← HQ.out] at hr
      refine HK.out _ _ ⟨g, r', _, _, _, _, _, _, _, _, _, _, _, _, _, _, rfl, by simp [hsz], ?_⟩
      rw [hup]
      have e9 : l.getD 13 false = false := off_of h.d13x8 hoff
      have k8 : l.getD 12 false = true → Blk W' g 48 (cel (l.getD 13 false) q r') := fun h8 => by (have k := (h.f12 h8).2.2.below hb); (rw [cel_off e9] at k); (rw [cel_off e9]); (exact k)
      exact ⟨h.f0, fun _ h4 => no (b := true) rfl h4, h.f2, fun _ h4 => no (b := true) rfl h4, h.f4, fun _ h4 => no (b := true) rfl h4, h.f6, fun _ h4 => no (b := true) rfl h4, fun _ => ⟨by rw [HQ.out], hr.rows, fun h8 W'' hw => (hr.low (hw.mono (fun p hp => by have h' := (h.f12 h8).2.2.lt; have e1 : p.block = g := hp; show p.block < _; omega))).rows⟩, fun h5 => no (h.d9x8 h5) hoff, fun h6 => no (h.d9x8 (h.d10x9 h6)) hoff, h.f11, fun h8 => ⟨(h.f12 h8).1, (h.f12 h8).2.1, k8 h8⟩, h.f14, fun _ => d1, fun _ => d3, fun _ => d5, fun _ => d7, fun _ => rfl, h.d10x9, h.d11x9, h.d13x12, fun _ => rfl, below_tr h.fb hb⟩
    · obtain ⟨hun, o, ho, hall⟩ := mem_ready.1 hi
      obtain rfl : _ = o := Option.some.inj ho
      have hoff : l.getD 9 false = false := inv.off l 9 hun
      have hup := inv.upd_eq l 9 hun
      have d8 : l.getD 8 false = true := hall ⟨8, .data⟩ (by simp) (by decide)
      obtain rfl := (h.f8 d8).1
      refine wpOp_step rfl (fun K' hK => ?_)
      have HK := Lib.hid hK
      clear hK hall ho
      go_simp
      refine HK.out _ _ ⟨g, r, _, _, _, _, _, _, _, _, _, _, _, _, _, _, rfl, by simp [hsz], ?_⟩
      rw [hup]
      exact ⟨h.f0, h.f1, h.f2, h.f3, h.f4, h.f5, h.f6, h.f7, h.f8, fun _ => rfl, h.f10, h.f11, h.f12, h.f14, h.d8x1, h.d8x3, h.d8x5, h.d8x7, fun _ => d8, fun _ => rfl, fun _ => rfl, h.d13x12, h.d13x8, h.fb⟩
    · obtain ⟨hun, o, ho, hall⟩ := mem_ready.1 hi
      obtain rfl : _ = o := Option.some.inj ho
      have hoff : l.getD 10 false = false := inv.off l 10 hun
      have hup := inv.upd_eq l 10 hun
      have d9 : l.getD 9 false = true := hall ⟨9, .data⟩ (by simp) (by decide)
      obtain rfl := h.f9 d9
      refine wpOp_step rfl (fun K' hK => ?_)
      have HK := Lib.hid hK
      clear hK hall ho
      go_simp
      refine HK.out _ _ ⟨g, r, _, _, _, _, _, _, _, _, _, _, _, _, _, _, rfl, by simp [hsz], ?_⟩
      rw [hup]
      exact ⟨h.f0, h.f1, h.f2, h.f3, h.f4, h.f5, h.f6, h.f7, h.f8, h.f9, fun _ => rfl, h.f11, h.f12, h.f14, h.d8x1, h.d8x3, h.d8x5, h.d8x7, h.d9x8, fun _ => d9, h.d11x9, h.d13x12, h.d13x8, h.fb⟩
    · obtain ⟨hun, o, ho, hall⟩ := mem_ready.1 hi
      obtain rfl : _ = o := Option.some.inj ho
      have hoff : l.getD 11 false = false := inv.off l 11 hun
      have hup := inv.upd_eq l 11 hun
      have d9 : l.getD 9 false = true := hall ⟨9, .data⟩ (by simp) (by decide)
      obtain rfl := h.f9 d9
      refine wpOp_step rfl (fun K' hK => ?_)
      have HK := Lib.hid hK
      clear hK hall ho
      go_simp
      refine HK.out _ _ ⟨g, r, _, _, _, _, _, _, _, _, _, _, _, _, _, _, rfl, by simp [hsz], ?_⟩
      rw [hup]
      exact ⟨h.f0, h.f1, h.f2, h.f3, h.f4, h.f5, h.f6, h.f7, h.f8, h.f9, h.f10, fun _ => rfl, h.f12, h.f14, h.d8x1, h.d8x3, h.d8x5, h.d8x7, h.d9x8, h.d10x9, fun _ => d9, h.d13x12, h.d13x8, h.fb⟩
    · obtain ⟨hun, o, ho, hall⟩ := mem_ready.1 hi
      obtain rfl : _ = o := Option.some.inj ho
      have hoff : l.getD 12 false = false := inv.off l 12 hun
      have hup := inv.upd_eq l 12 hun
      refine wpOp_step rfl (fun K' hK => ?_)
      have HK := Lib.hid hK
      clear hK hall ho
      go_simp
      refine HK.out _ (W.alloc (.cells #[.int .i64 0, .int .i64 0, .int .i64 0, .slice none 0 0] 48)) ⟨W.heap.size, r, _, _, _, _, _, _, _, _, _, _, _, _, _, _, rfl, by simp [hsz], ?_⟩
      rw [hup]
      have e9 : l.getD 13 false = false := off_of h.d13x12 hoff
      have al := (below_al (Below.refl _ W) (.cells #[.int .i64 0, .int .i64 0, .int .i64 0, .slice none 0 0] 48))
      have k8 : Blk (W.alloc (.cells #[.int .i64 0, .int .i64 0, .int .i64 0, .slice none 0 0] 48)) W.heap.size 48 (cel (l.getD 13 false) q r) := by rw [cel_off e9]; exact Blk.new W _ _
      exact ⟨h.f0, fun h1 h4 => (h.f1 h1 h4).imp fun _ k => ⟨k.1, k.2.below al⟩, h.f2, fun h1 h4 => (h.f3 h1 h4).imp fun _ k => ⟨k.1, k.2.below al⟩, h.f4, fun h1 h4 => (h.f5 h1 h4).imp fun _ k => ⟨k.1, k.2.imp fun _ k => k.imp fun _ k => k.imp fun _ k => ⟨k.1, k.2.below al⟩⟩, h.f6, fun h1 h4 => (h.f7 h1 h4).imp fun _ k => ⟨k.1, k.2.imp fun _ k => k.imp fun _ k => k.imp fun _ k => ⟨k.1, k.2.below al⟩⟩, fun h4 => ⟨(h.f8 h4).1, (h.f8 h4).2.1.below al, fun _ W'' hw => (h.f8 h4).2.1.below (al.trans (hw.below (B := W.heap.size) (fun p hp => Nat.le_of_eq hp.symm)))⟩, h.f9, h.f10, h.f11, fun _ => ⟨rfl, h.fb.size, k8⟩, h.f14, h.d8x1, h.d8x3, h.d8x5, h.d8x7, h.d9x8, h.d10x9, h.d11x9, fun _ => rfl, h.d13x8, below_tr h.fb al⟩
    · obtain ⟨hun, o, ho, hall⟩ := mem_ready.1 hi
      obtain rfl : _ = o := Option.some.inj ho
      have hoff : l.getD 13 false = false := inv.off l 13 hun
      have hup := inv.upd_eq l 13 hun
      have d8 : l.getD 8 false = true := hall ⟨8, .chain⟩ (by simp) (by decide)
      have d10 : l.getD 10 false = true := hall ⟨10, .data⟩ (by simp) (by decide)
      have d12 : l.getD 12 false = true := hall ⟨12, .data⟩ (by simp) (by decide)
      obtain ⟨ra, rn, rc, rfl⟩ := (h.f8 d8).2.1.shape
      obtain rfl := h.f10 d10
      obtain ⟨e6, hg, hk⟩ := h.f12 d12
      subst e6
      have hk : Blk W g 48 (cel (l.getD 13 false) q (.slice ra rn rc)) := hk
      rw [cel_off hoff] at hk
      unfold zer at hk
      obtain ⟨c0, c1, c2, c3, c4⟩ := four_cells hk
      have rf : ∀ k, W.frozen? ⟨g, k, none⟩ = false := fun k => Joins.unfrozen_of_block hk k
      refine wpOp_step rfl (fun K' hK => ?_)
      have HK := Lib.hid hK
      clear hK hall ho
      go_simp
      refine HK.out _ (set4 W g (.int .i64 q.x) (.int .i64 q.y) (.int .i64 q.wh) (.slice ra rn rc)) ⟨g, (.slice ra rn rc), _, _, _, _, _, _, _, _, _, _, _, _, _, _, rfl, by simp [hsz], ?_⟩
      rw [hup]
      exact ⟨h.f0, fun _ h4 => no d8 h4, h.f2, fun _ h4 => no d8 h4, h.f4, fun _ h4 => no d8 h4, h.f6, fun _ h4 => no d8 h4, fun _ => ⟨(h.f8 d8).1, (h.f8 d8).2.2 d12 _ (set4_wrote W g (.int .i64 q.x) (.int .i64 q.y) (.int .i64 q.wh) (.slice ra rn rc)), fun _ W'' hw => (h.f8 d8).2.2 d12 _ ((set4_wrote W g (.int .i64 q.x) (.int .i64 q.y) (.int .i64 q.wh) (.slice ra rn rc)).trans hw)⟩, h.f9, h.f10, h.f11, fun _ => ⟨rfl, hg, set4_same _ _ _ _ hk⟩, h.f14, h.d8x1, h.d8x3, h.d8x5, h.d8x7, h.d9x8, h.d10x9, h.d11x9, fun _ => d12, fun _ => d8, set4_below _ _ _ _ h.fb hg⟩
    · obtain ⟨hun, o, ho, hall⟩ := mem_ready.1 hi
      obtain rfl : _ = o := Option.some.inj ho
      have hoff : l.getD 14 false = false := inv.off l 14 hun
      have hup := inv.upd_eq l 14 hun
      have d11 : l.getD 11 false = true := hall ⟨11, .data⟩ (by simp) (by decide)
      obtain rfl := h.f11 d11
      refine wpOp_step rfl (fun K' hK => ?_)
      have HK := Lib.hid hK
      clear hK hall ho
      go_simp
      refine HK.out _ _ ⟨g, r, _, _, _, _, _, _, _, _, _, _, _, _, _, _, rfl, by simp [hsz], ?_⟩
      rw [hup]
      exact ⟨h.f0, h.f1, h.f2, h.f3, h.f4, h.f5, h.f6, h.f7, h.f8, h.f9, h.f10, h.f11, h.f12, fun _ => rfl, h.d8x1, h.d8x3, h.d8x5, h.d8x7, h.d9x8, h.d10x9, h.d11x9, h.d13x12, h.d13x8, h.fb⟩
  · rintro l a' W ⟨g, r, s0, s1, s2, s3, s4, s5, s6, s7, s8, s9, s10, s11, s12, s14, rfl, hsz, h⟩ hr
    have hup : ∀ i, i < 15 → l.getD i false = true := inv.all_upm (by kernel_rfl) hsz hr
    obtain rfl := h.f0 (hup 0 (by omega))
    obtain rfl := h.f2 (hup 2 (by omega))
    obtain rfl := h.f4 (hup 4 (by omega))
    obtain rfl := h.f6 (hup 6 (by omega))
    obtain rfl := h.f9 (hup 9 (by omega))
    obtain rfl := h.f10 (hup 10 (by omega))
    obtain rfl := h.f11 (hup 11 (by omega))
    obtain rfl := h.f14 (hup 14 (by omega))
    obtain ⟨e32, huW, _⟩ := h.f8 (hup 8 (by omega))
    subst e32
    obtain ⟨e6, hgb, hk⟩ := h.f12 (hup 12 (by omega))
    subst e6
    have hk : Blk W g 48 (cel (l.getD 13 false) q r) := hk
    rw [cel_on (hup 13 (by omega))] at hk
    have hbt := h.fb
    clear h hup hr hsz HA0 HA1 HA2 HA3
    obtain ⟨Wa, Wn, Wc, rfl⟩ := huW.shape
    obtain rfl := HQ.out
    clear HQ
    clear p0c0 p0c1 p0c2 p0c3 p0c4 p1c0 p1c1 p1c2 p1c3 p1c4 p2c0 p2c1 p2c2 p2c3 p3c0 p3c1 p3c2 p3c3
    have BE49 := Lib.hid (below_tr BE48.out hbt)
    have KBp049 := Lib.hid (KBp048.out.below hbt)
    have KBp149 := Lib.hid (KBp148.out.below hbt)
    have KBp249 := Lib.hid (KBp248.out.below hbt)
    have KBp349 := Lib.hid (KBp348.out.below hbt)
    have ZZ49 : Hid (wz47.heap.size ≤ W.heap.size) := Lib.hid (by have := (hbt).size; simpa using this)
    clear BE48 KBp048 KBp148 KBp248 KBp348
    obtain ⟨p0c0, p0c1, p0c2, p0c3, p0c4⟩ := four_cells KBp049.out
    obtain ⟨p1c0, p1c1, p1c2, p1c3, p1c4⟩ := four_cells KBp149.out
    obtain ⟨p2c0, p2c1, p2c2, p2c3⟩ := scene.three_cells KBp249.out
    obtain ⟨p3c0, p3c1, p3c2, p3c3⟩ := scene.three_cells KBp349.out
    clear hbt hgb
    have VWW := Lib.hid huW
    have HBW := Lib.hid (Below.refl W.heap.size W)
    clear huW
    have ZZgW : Hid (g + 1 ≤ W.heap.size) := Lib.hid hk.lt
    have KBbW0 := Lib.hid hk
    clear hk
    obtain ⟨bWc0, bWc1, bWc2, bWc3, bWc4⟩ := four_cells KBbW0.out
    go_wp2_with fail
    refine (box.to_any x0 y0 wh0 _ xss0 _ (H0.out.below BE49.out) hn0).mono ?_
    rintro e wc50 ⟨ux0, rfl, hu, hb⟩
    obtain ⟨x0a, x0n, x0c, rfl⟩ := hu.rows.shape
    clear p0c0 p0c1 p0c2 p0c3 p0c4 p1c0 p1c1 p1c2 p1c3 p1c4 p2c0 p2c1 p2c2 p2c3 p3c0 p3c1 p3c2 p3c3 bWc0 bWc1 bWc2 bWc3 bWc4
    have BE51 := Lib.hid (below_tr BE49.out hb)
    have HBW51 := Lib.hid (below_tr HBW.out hb)
    have KBp051 := Lib.hid (KBp049.out.below hb)
    have KBp151 := Lib.hid (KBp149.out.below hb)
    have KBp251 := Lib.hid (KBp249.out.below hb)
    have KBp351 := Lib.hid (KBp349.out.below hb)
    have KBbW51 := Lib.hid (KBbW0.out.below hb)
    have ZZ51 : Hid (W.heap.size ≤ wc50.heap.size) := Lib.hid (by have := (hb).size; simpa using this)
    clear BE49 HBW KBp049 KBp149 KBp249 KBp349 KBbW0
    obtain ⟨p0c0, p0c1, p0c2, p0c3, p0c4⟩ := four_cells KBp051.out
    obtain ⟨p1c0, p1c1, p1c2, p1c3, p1c4⟩ := four_cells KBp151.out
    obtain ⟨p2c0, p2c1, p2c2, p2c3⟩ := scene.three_cells KBp251.out
    obtain ⟨p3c0, p3c1, p3c2, p3c3⟩ := scene.three_cells KBp351.out
    obtain ⟨bWc0, bWc1, bWc2, bWc3, bWc4⟩ := four_cells KBbW51.out
    have OWx0 := Lib.hid (hu.mono (B' := W.heap.size) (by simp) (Nat.le_refl _))
    clear hu hb
    go_wp2_with fail
    have BE52 := Lib.hid (below_al BE51.out (.cells #[.int .i64 x0, .int .i64 y0, .int .i64 wh0, .slice x0a x0n x0c] 48))
    have HBW52 := Lib.hid (below_al HBW51.out (.cells #[.int .i64 x0, .int .i64 y0, .int .i64 wh0, .slice x0a x0n x0c] 48))
    have OWx052 := Lib.hid (OWx0.out.keep (below_al (Below.refl _ _) (.cells #[.int .i64 x0, .int .i64 y0, .int .i64 wh0, .slice x0a x0n x0c] 48)))
    have KBp052 := Lib.hid (KBp051.out.alloc (.cells #[.int .i64 x0, .int .i64 y0, .int .i64 wh0, .slice x0a x0n x0c] 48))
    have KBp152 := Lib.hid (KBp151.out.alloc (.cells #[.int .i64 x0, .int .i64 y0, .int .i64 wh0, .slice x0a x0n x0c] 48))
    have KBp252 := Lib.hid (KBp251.out.alloc (.cells #[.int .i64 x0, .int .i64 y0, .int .i64 wh0, .slice x0a x0n x0c] 48))
    have KBp352 := Lib.hid (KBp351.out.alloc (.cells #[.int .i64 x0, .int .i64 y0, .int .i64 wh0, .slice x0a x0n x0c] 48))
    have KBbW52 := Lib.hid (KBbW51.out.alloc (.cells #[.int .i64 x0, .int .i64 y0, .int .i64 wh0, .slice x0a x0n x0c] 48))
    have KBbx052 := Lib.hid (Blk.new wc50 48 #[.int .i64 x0, .int .i64 y0, .int .i64 wh0, .slice x0a x0n x0c])
    clear BE51 HBW51 OWx0 KBp051 KBp151 KBp251 KBp351 KBbW51
    go_wp2_with fail
    refine (box.to_any x1 y1 wh1 _ xss1 _ (H1.out.below BE52.out) hn1).mono ?_
    rintro e wc53 ⟨ux1, rfl, hu, hb⟩
    obtain ⟨x1a, x1n, x1c, rfl⟩ := hu.rows.shape
    clear p0c0 p0c1 p0c2 p0c3 p0c4 p1c0 p1c1 p1c2 p1c3 p1c4 p2c0 p2c1 p2c2 p2c3 p3c0 p3c1 p3c2 p3c3 bWc0 bWc1 bWc2 bWc3 bWc4
    have BE54 := Lib.hid (below_tr BE52.out hb)
    have HBW54 := Lib.hid (below_tr HBW52.out hb)
    have OWx054 := Lib.hid (OWx052.out.keep hb)
    have KBp054 := Lib.hid (KBp052.out.below hb)
    have KBp154 := Lib.hid (KBp152.out.below hb)
    have KBp254 := Lib.hid (KBp252.out.below hb)
    have KBp354 := Lib.hid (KBp352.out.below hb)
    have KBbW54 := Lib.hid (KBbW52.out.below hb)
    have KBbx054 := Lib.hid (KBbx052.out.below hb)
    have ZZ54 : Hid (wc50.heap.size + 1 ≤ wc53.heap.size) := Lib.hid (by have := (hb).size; simpa using this)
    clear BE52 HBW52 OWx052 KBp052 KBp152 KBp252 KBp352 KBbW52 KBbx052
    obtain ⟨p0c0, p0c1, p0c2, p0c3, p0c4⟩ := four_cells KBp054.out
    obtain ⟨p1c0, p1c1, p1c2, p1c3, p1c4⟩ := four_cells KBp154.out
    obtain ⟨p2c0, p2c1, p2c2, p2c3⟩ := scene.three_cells KBp254.out
    obtain ⟨p3c0, p3c1, p3c2, p3c3⟩ := scene.three_cells KBp354.out
    obtain ⟨bWc0, bWc1, bWc2, bWc3, bWc4⟩ := four_cells KBbW54.out
    obtain ⟨bx0c0, bx0c1, bx0c2, bx0c3, bx0c4⟩ := four_cells KBbx054.out
    have OWx1 := Lib.hid (hu.mono (B' := wc50.heap.size + 1) (by simp) (Nat.le_refl _))
    clear hu hb
    go_wp2_with fail
    have BE55 := Lib.hid (below_al BE54.out (.cells #[.int .i64 x1, .int .i64 y1, .int .i64 wh1, .slice x1a x1n x1c] 48))
    have HBW55 := Lib.hid (below_al HBW54.out (.cells #[.int .i64 x1, .int .i64 y1, .int .i64 wh1, .slice x1a x1n x1c] 48))
    have OWx055 := Lib.hid (OWx054.out.keep (below_al (Below.refl _ _) (.cells #[.int .i64 x1, .int .i64 y1, .int .i64 wh1, .slice x1a x1n x1c] 48)))
    have OWx155 := Lib.hid (OWx1.out.keep (below_al (Below.refl _ _) (.cells #[.int .i64 x1, .int .i64 y1, .int .i64 wh1, .slice x1a x1n x1c] 48)))
    have KBp055 := Lib.hid (KBp054.out.alloc (.cells #[.int .i64 x1, .int .i64 y1, .int .i64 wh1, .slice x1a x1n x1c] 48))
    have KBp155 := Lib.hid (KBp154.out.alloc (.cells #[.int .i64 x1, .int .i64 y1, .int .i64 wh1, .slice x1a x1n x1c] 48))
    have KBp255 := Lib.hid (KBp254.out.alloc (.cells #[.int .i64 x1, .int .i64 y1, .int .i64 wh1, .slice x1a x1n x1c] 48))
    have KBp355 := Lib.hid (KBp354.out.alloc (.cells #[.int .i64 x1, .int .i64 y1, .int .i64 wh1, .slice x1a x1n x1c] 48))
    have KBbW55 := Lib.hid (KBbW54.out.alloc (.cells #[.int .i64 x1, .int .i64 y1, .int .i64 wh1, .slice x1a x1n x1c] 48))
    have KBbx055 := Lib.hid (KBbx054.out.alloc (.cells #[.int .i64 x1, .int .i64 y1, .int .i64 wh1, .slice x1a x1n x1c] 48))
    have KBbx155 := Lib.hid (Blk.new wc53 48 #[.int .i64 x1, .int .i64 y1, .int .i64 wh1, .slice x1a x1n x1c])
    clear BE54 HBW54 OWx054 OWx1 KBp054 KBp154 KBp254 KBp354 KBbW54 KBbx054
    go_wp2_with fail
    refine (rule.to_any _ ss2 _ xss2 _ yss2 _ (H2.out.below BE55.out) hn2 hm2 hk2).mono ?_
    rintro e wc56 ⟨vx2, ux2, nx2, rfl, hu, hb⟩
    obtain ⟨x2a, x2n, x2c, x2d, x2m, x2e, x2f, x2o, x2g, rfl, rfl, rfl⟩ := hu.view.shape
    clear p0c0 p0c1 p0c2 p0c3 p0c4 p1c0 p1c1 p1c2 p1c3 p1c4 p2c0 p2c1 p2c2 p2c3 p3c0 p3c1 p3c2 p3c3 bWc0 bWc1 bWc2 bWc3 bWc4 bx0c0 bx0c1 bx0c2 bx0c3 bx0c4
    have BE57 := Lib.hid (below_tr BE55.out hb)
    have HBW57 := Lib.hid (below_tr HBW55.out hb)
    have OWx057 := Lib.hid (OWx055.out.keep hb)
    have OWx157 := Lib.hid (OWx155.out.keep hb)
    have KBp057 := Lib.hid (KBp055.out.below hb)
    have KBp157 := Lib.hid (KBp155.out.below hb)
    have KBp257 := Lib.hid (KBp255.out.below hb)
    have KBp357 := Lib.hid (KBp355.out.below hb)
    have KBbW57 := Lib.hid (KBbW55.out.below hb)
    have KBbx057 := Lib.hid (KBbx055.out.below hb)
    have KBbx157 := Lib.hid (KBbx155.out.below hb)
    have ZZ57 : Hid (wc53.heap.size + 1 ≤ wc56.heap.size) := Lib.hid (by have := (hb).size; simpa using this)
    clear BE55 HBW55 OWx055 OWx155 KBp055 KBp155 KBp255 KBp355 KBbW55 KBbx055 KBbx155
    obtain ⟨p0c0, p0c1, p0c2, p0c3, p0c4⟩ := four_cells KBp057.out
    obtain ⟨p1c0, p1c1, p1c2, p1c3, p1c4⟩ := four_cells KBp157.out
    obtain ⟨p2c0, p2c1, p2c2, p2c3⟩ := scene.three_cells KBp257.out
    obtain ⟨p3c0, p3c1, p3c2, p3c3⟩ := scene.three_cells KBp357.out
    obtain ⟨bWc0, bWc1, bWc2, bWc3, bWc4⟩ := four_cells KBbW57.out
    obtain ⟨bx0c0, bx0c1, bx0c2, bx0c3, bx0c4⟩ := four_cells KBbx057.out
    obtain ⟨bx1c0, bx1c1, bx1c2, bx1c3, bx1c4⟩ := four_cells KBbx157.out
    have OWx2 := Lib.hid (hu.mono (B' := wc53.heap.size + 1) (by simp) (Nat.le_refl _))
    clear hu hb
    go_wp2_with fail
    have BE58 := Lib.hid (below_al BE57.out (.cells #[.slice x2a x2n x2c, .slice x2d x2m x2e, .slice x2f x2o x2g] 28))
    have HBW58 := Lib.hid (below_al HBW57.out (.cells #[.slice x2a x2n x2c, .slice x2d x2m x2e, .slice x2f x2o x2g] 28))
    have OWx058 := Lib.hid (OWx057.out.keep (below_al (Below.refl _ _) (.cells #[.slice x2a x2n x2c, .slice x2d x2m x2e, .slice x2f x2o x2g] 28)))
    have OWx158 := Lib.hid (OWx157.out.keep (below_al (Below.refl _ _) (.cells #[.slice x2a x2n x2c, .slice x2d x2m x2e, .slice x2f x2o x2g] 28)))
    have OWx258 := Lib.hid (OWx2.out.keep (below_al (Below.refl _ _) (.cells #[.slice x2a x2n x2c, .slice x2d x2m x2e, .slice x2f x2o x2g] 28)))
    have KBp058 := Lib.hid (KBp057.out.alloc (.cells #[.slice x2a x2n x2c, .slice x2d x2m x2e, .slice x2f x2o x2g] 28))
    have KBp158 := Lib.hid (KBp157.out.alloc (.cells #[.slice x2a x2n x2c, .slice x2d x2m x2e, .slice x2f x2o x2g] 28))
    have KBp258 := Lib.hid (KBp257.out.alloc (.cells #[.slice x2a x2n x2c, .slice x2d x2m x2e, .slice x2f x2o x2g] 28))
    have KBp358 := Lib.hid (KBp357.out.alloc (.cells #[.slice x2a x2n x2c, .slice x2d x2m x2e, .slice x2f x2o x2g] 28))
    have KBbW58 := Lib.hid (KBbW57.out.alloc (.cells #[.slice x2a x2n x2c, .slice x2d x2m x2e, .slice x2f x2o x2g] 28))
    have KBbx058 := Lib.hid (KBbx057.out.alloc (.cells #[.slice x2a x2n x2c, .slice x2d x2m x2e, .slice x2f x2o x2g] 28))
    have KBbx158 := Lib.hid (KBbx157.out.alloc (.cells #[.slice x2a x2n x2c, .slice x2d x2m x2e, .slice x2f x2o x2g] 28))
    have KBbx258 := Lib.hid (Blk.new wc56 28 #[.slice x2a x2n x2c, .slice x2d x2m x2e, .slice x2f x2o x2g])
    clear BE57 HBW57 OWx057 OWx157 OWx2 KBp057 KBp157 KBp257 KBp357 KBbW57 KBbx057 KBbx157
    go_wp2_with fail
    refine (rule.to_any _ ss3 _ xss3 _ yss3 _ (H3.out.below BE58.out) hn3 hm3 hk3).mono ?_
    rintro e wc59 ⟨vx3, ux3, nx3, rfl, hu, hb⟩
    obtain ⟨x3a, x3n, x3c, x3d, x3m, x3e, x3f, x3o, x3g, rfl, rfl, rfl⟩ := hu.view.shape
    clear p0c0 p0c1 p0c2 p0c3 p0c4 p1c0 p1c1 p1c2 p1c3 p1c4 p2c0 p2c1 p2c2 p2c3 p3c0 p3c1 p3c2 p3c3 bWc0 bWc1 bWc2 bWc3 bWc4 bx0c0 bx0c1 bx0c2 bx0c3 bx0c4 bx1c0 bx1c1 bx1c2 bx1c3 bx1c4
    have BE60 := Lib.hid (below_tr BE58.out hb)
    have HBW60 := Lib.hid (below_tr HBW58.out hb)
    have OWx060 := Lib.hid (OWx058.out.keep hb)
    have OWx160 := Lib.hid (OWx158.out.keep hb)
    have OWx260 := Lib.hid (OWx258.out.keep hb)
    have KBp060 := Lib.hid (KBp058.out.below hb)
    have KBp160 := Lib.hid (KBp158.out.below hb)
    have KBp260 := Lib.hid (KBp258.out.below hb)
    have KBp360 := Lib.hid (KBp358.out.below hb)
    have KBbW60 := Lib.hid (KBbW58.out.below hb)
    have KBbx060 := Lib.hid (KBbx058.out.below hb)
    have KBbx160 := Lib.hid (KBbx158.out.below hb)
    have KBbx260 := Lib.hid (KBbx258.out.below hb)
    have ZZ60 : Hid (wc56.heap.size + 1 ≤ wc59.heap.size) := Lib.hid (by have := (hb).size; simpa using this)
    clear BE58 HBW58 OWx058 OWx158 OWx258 KBp058 KBp158 KBp258 KBp358 KBbW58 KBbx058 KBbx158 KBbx258
    obtain ⟨p0c0, p0c1, p0c2, p0c3, p0c4⟩ := four_cells KBp060.out
    obtain ⟨p1c0, p1c1, p1c2, p1c3, p1c4⟩ := four_cells KBp160.out
    obtain ⟨p2c0, p2c1, p2c2, p2c3⟩ := scene.three_cells KBp260.out
    obtain ⟨p3c0, p3c1, p3c2, p3c3⟩ := scene.three_cells KBp360.out
    obtain ⟨bWc0, bWc1, bWc2, bWc3, bWc4⟩ := four_cells KBbW60.out
    obtain ⟨bx0c0, bx0c1, bx0c2, bx0c3, bx0c4⟩ := four_cells KBbx060.out
    obtain ⟨bx1c0, bx1c1, bx1c2, bx1c3, bx1c4⟩ := four_cells KBbx160.out
    obtain ⟨bx2c0, bx2c1, bx2c2, bx2c3⟩ := scene.three_cells KBbx260.out
    have OWx3 := Lib.hid (hu.mono (B' := wc56.heap.size + 1) (by simp) (Nat.le_refl _))
    clear hu hb
    go_wp2_with fail
    have BE61 := Lib.hid (below_al BE60.out (.cells #[.slice x3a x3n x3c, .slice x3d x3m x3e, .slice x3f x3o x3g] 28))
    have HBW61 := Lib.hid (below_al HBW60.out (.cells #[.slice x3a x3n x3c, .slice x3d x3m x3e, .slice x3f x3o x3g] 28))
    have OWx061 := Lib.hid (OWx060.out.keep (below_al (Below.refl _ _) (.cells #[.slice x3a x3n x3c, .slice x3d x3m x3e, .slice x3f x3o x3g] 28)))
    have OWx161 := Lib.hid (OWx160.out.keep (below_al (Below.refl _ _) (.cells #[.slice x3a x3n x3c, .slice x3d x3m x3e, .slice x3f x3o x3g] 28)))
    have OWx261 := Lib.hid (OWx260.out.keep (below_al (Below.refl _ _) (.cells #[.slice x3a x3n x3c, .slice x3d x3m x3e, .slice x3f x3o x3g] 28)))
    have OWx361 := Lib.hid (OWx3.out.keep (below_al (Below.refl _ _) (.cells #[.slice x3a x3n x3c, .slice x3d x3m x3e, .slice x3f x3o x3g] 28)))
    have KBp061 := Lib.hid (KBp060.out.alloc (.cells #[.slice x3a x3n x3c, .slice x3d x3m x3e, .slice x3f x3o x3g] 28))
    have KBp161 := Lib.hid (KBp160.out.alloc (.cells #[.slice x3a x3n x3c, .slice x3d x3m x3e, .slice x3f x3o x3g] 28))
    have KBp261 := Lib.hid (KBp260.out.alloc (.cells #[.slice x3a x3n x3c, .slice x3d x3m x3e, .slice x3f x3o x3g] 28))
    have KBp361 := Lib.hid (KBp360.out.alloc (.cells #[.slice x3a x3n x3c, .slice x3d x3m x3e, .slice x3f x3o x3g] 28))
    have KBbW61 := Lib.hid (KBbW60.out.alloc (.cells #[.slice x3a x3n x3c, .slice x3d x3m x3e, .slice x3f x3o x3g] 28))
    have KBbx061 := Lib.hid (KBbx060.out.alloc (.cells #[.slice x3a x3n x3c, .slice x3d x3m x3e, .slice x3f x3o x3g] 28))
    have KBbx161 := Lib.hid (KBbx160.out.alloc (.cells #[.slice x3a x3n x3c, .slice x3d x3m x3e, .slice x3f x3o x3g] 28))
    have KBbx261 := Lib.hid (KBbx260.out.alloc (.cells #[.slice x3a x3n x3c, .slice x3d x3m x3e, .slice x3f x3o x3g] 28))
    have KBbx361 := Lib.hid (Blk.new wc59 28 #[.slice x3a x3n x3c, .slice x3d x3m x3e, .slice x3f x3o x3g])
    clear BE60 HBW60 OWx060 OWx160 OWx260 OWx3 KBp060 KBp160 KBp260 KBp360 KBbW60 KBbx060 KBbx160 KBbx260
    go_wp2_with fail
    refine (wir.impl_any x0 y0 wh0 (.slice x0a x0n x0c) xss0 x1 y1 wh1 (.slice x1a x1n x1c) xss1 (.slice x2a x2n x2c) ss2 (.slice x2d x2m x2e) xss2 (.slice x2f x2o x2g) yss2 (.slice x3a x3n x3c) ss3 (.slice x3d x3m x3e) xss3 (.slice x3f x3o x3g) yss3 _ OWx061.out.rows OWx161.out.rows hn0 hn1 OWx261.out.view OWx361.out.view).mono ?_
    rintro e wf62 ⟨uG, rfl, hu, hb⟩
    obtain ⟨Ga, Gn, Gc, rfl⟩ := hu.rows.shape
    clear p0c0 p0c1 p0c2 p0c3 p0c4 p1c0 p1c1 p1c2 p1c3 p1c4 p2c0 p2c1 p2c2 p2c3 p3c0 p3c1 p3c2 p3c3 bWc0 bWc1 bWc2 bWc3 bWc4 bx0c0 bx0c1 bx0c2 bx0c3 bx0c4 bx1c0 bx1c1 bx1c2 bx1c3 bx1c4 bx2c0 bx2c1 bx2c2 bx2c3
    have BE63 := Lib.hid (below_tr BE61.out hb)
    have HBW63 := Lib.hid (below_tr HBW61.out hb)
    have OWx063 := Lib.hid (OWx061.out.keep hb)
    have OWx163 := Lib.hid (OWx161.out.keep hb)
    have OWx263 := Lib.hid (OWx261.out.keep hb)
    have OWx363 := Lib.hid (OWx361.out.keep hb)
    have KBp063 := Lib.hid (KBp061.out.below hb)
    have KBp163 := Lib.hid (KBp161.out.below hb)
    have KBp263 := Lib.hid (KBp261.out.below hb)
    have KBp363 := Lib.hid (KBp361.out.below hb)
    have KBbW63 := Lib.hid (KBbW61.out.below hb)
    have KBbx063 := Lib.hid (KBbx061.out.below hb)
    have KBbx163 := Lib.hid (KBbx161.out.below hb)
    have KBbx263 := Lib.hid (KBbx261.out.below hb)
    have KBbx363 := Lib.hid (KBbx361.out.below hb)
    have ZZ63 : Hid (wc59.heap.size + 1 ≤ wf62.heap.size) := Lib.hid (by have := (hb).size; simpa using this)
    clear BE61 HBW61 OWx061 OWx161 OWx261 OWx361 KBp061 KBp161 KBp261 KBp361 KBbW61 KBbx061 KBbx161 KBbx261 KBbx361
    obtain ⟨p0c0, p0c1, p0c2, p0c3, p0c4⟩ := four_cells KBp063.out
    obtain ⟨p1c0, p1c1, p1c2, p1c3, p1c4⟩ := four_cells KBp163.out
    obtain ⟨p2c0, p2c1, p2c2, p2c3⟩ := scene.three_cells KBp263.out
    obtain ⟨p3c0, p3c1, p3c2, p3c3⟩ := scene.three_cells KBp363.out
    obtain ⟨bWc0, bWc1, bWc2, bWc3, bWc4⟩ := four_cells KBbW63.out
    obtain ⟨bx0c0, bx0c1, bx0c2, bx0c3, bx0c4⟩ := four_cells KBbx063.out
    obtain ⟨bx1c0, bx1c1, bx1c2, bx1c3, bx1c4⟩ := four_cells KBbx163.out
    obtain ⟨bx2c0, bx2c1, bx2c2, bx2c3⟩ := scene.three_cells KBbx263.out
    obtain ⟨bx3c0, bx3c1, bx3c2, bx3c3⟩ := scene.three_cells KBbx363.out
    have OWG := Lib.hid (hu.mono (B' := wc59.heap.size + 1) (by simp) (Nat.le_refl _))
    clear hu hb
    go_wp2_with fail
    have BE64 := Lib.hid (below_al BE63.out (.cells #[.int .i64 ((wrm.res x0 y0 wh0 xss0 x1 y1 wh1 xss1 ss2 xss2 yss2 ss3 xss3 yss3).x), .int .i64 ((wrm.res x0 y0 wh0 xss0 x1 y1 wh1 xss1 ss2 xss2 yss2 ss3 xss3 yss3).y), .int .i64 ((wrm.res x0 y0 wh0 xss0 x1 y1 wh1 xss1 ss2 xss2 yss2 ss3 xss3 yss3).wh), .slice Ga Gn Gc] 48))
    have HBW64 := Lib.hid (below_al HBW63.out (.cells #[.int .i64 ((wrm.res x0 y0 wh0 xss0 x1 y1 wh1 xss1 ss2 xss2 yss2 ss3 xss3 yss3).x), .int .i64 ((wrm.res x0 y0 wh0 xss0 x1 y1 wh1 xss1 ss2 xss2 yss2 ss3 xss3 yss3).y), .int .i64 ((wrm.res x0 y0 wh0 xss0 x1 y1 wh1 xss1 ss2 xss2 yss2 ss3 xss3 yss3).wh), .slice Ga Gn Gc] 48))
    have OWx064 := Lib.hid (OWx063.out.keep (below_al (Below.refl _ _) (.cells #[.int .i64 ((wrm.res x0 y0 wh0 xss0 x1 y1 wh1 xss1 ss2 xss2 yss2 ss3 xss3 yss3).x), .int .i64 ((wrm.res x0 y0 wh0 xss0 x1 y1 wh1 xss1 ss2 xss2 yss2 ss3 xss3 yss3).y), .int .i64 ((wrm.res x0 y0 wh0 xss0 x1 y1 wh1 xss1 ss2 xss2 yss2 ss3 xss3 yss3).wh), .slice Ga Gn Gc] 48)))
    have OWx164 := Lib.hid (OWx163.out.keep (below_al (Below.refl _ _) (.cells #[.int .i64 ((wrm.res x0 y0 wh0 xss0 x1 y1 wh1 xss1 ss2 xss2 yss2 ss3 xss3 yss3).x), .int .i64 ((wrm.res x0 y0 wh0 xss0 x1 y1 wh1 xss1 ss2 xss2 yss2 ss3 xss3 yss3).y), .int .i64 ((wrm.res x0 y0 wh0 xss0 x1 y1 wh1 xss1 ss2 xss2 yss2 ss3 xss3 yss3).wh), .slice Ga Gn Gc] 48)))
    have OWx264 := Lib.hid (OWx263.out.keep (below_al (Below.refl _ _) (.cells #[.int .i64 ((wrm.res x0 y0 wh0 xss0 x1 y1 wh1 xss1 ss2 xss2 yss2 ss3 xss3 yss3).x), .int .i64 ((wrm.res x0 y0 wh0 xss0 x1 y1 wh1 xss1 ss2 xss2 yss2 ss3 xss3 yss3).y), .int .i64 ((wrm.res x0 y0 wh0 xss0 x1 y1 wh1 xss1 ss2 xss2 yss2 ss3 xss3 yss3).wh), .slice Ga Gn Gc] 48)))
    have OWx364 := Lib.hid (OWx363.out.keep (below_al (Below.refl _ _) (.cells #[.int .i64 ((wrm.res x0 y0 wh0 xss0 x1 y1 wh1 xss1 ss2 xss2 yss2 ss3 xss3 yss3).x), .int .i64 ((wrm.res x0 y0 wh0 xss0 x1 y1 wh1 xss1 ss2 xss2 yss2 ss3 xss3 yss3).y), .int .i64 ((wrm.res x0 y0 wh0 xss0 x1 y1 wh1 xss1 ss2 xss2 yss2 ss3 xss3 yss3).wh), .slice Ga Gn Gc] 48)))
    have OWG64 := Lib.hid (OWG.out.keep (below_al (Below.refl _ _) (.cells #[.int .i64 ((wrm.res x0 y0 wh0 xss0 x1 y1 wh1 xss1 ss2 xss2 yss2 ss3 xss3 yss3).x), .int .i64 ((wrm.res x0 y0 wh0 xss0 x1 y1 wh1 xss1 ss2 xss2 yss2 ss3 xss3 yss3).y), .int .i64 ((wrm.res x0 y0 wh0 xss0 x1 y1 wh1 xss1 ss2 xss2 yss2 ss3 xss3 yss3).wh), .slice Ga Gn Gc] 48)))
    have KBp064 := Lib.hid (KBp063.out.alloc (.cells #[.int .i64 ((wrm.res x0 y0 wh0 xss0 x1 y1 wh1 xss1 ss2 xss2 yss2 ss3 xss3 yss3).x), .int .i64 ((wrm.res x0 y0 wh0 xss0 x1 y1 wh1 xss1 ss2 xss2 yss2 ss3 xss3 yss3).y), .int .i64 ((wrm.res x0 y0 wh0 xss0 x1 y1 wh1 xss1 ss2 xss2 yss2 ss3 xss3 yss3).wh), .slice Ga Gn Gc] 48))
    have KBp164 := Lib.hid (KBp163.out.alloc (.cells #[.int .i64 ((wrm.res x0 y0 wh0 xss0 x1 y1 wh1 xss1 ss2 xss2 yss2 ss3 xss3 yss3).x), .int .i64 ((wrm.res x0 y0 wh0 xss0 x1 y1 wh1 xss1 ss2 xss2 yss2 ss3 xss3 yss3).y), .int .i64 ((wrm.res x0 y0 wh0 xss0 x1 y1 wh1 xss1 ss2 xss2 yss2 ss3 xss3 yss3).wh), .slice Ga Gn Gc] 48))
    have KBp264 := Lib.hid (KBp263.out.alloc (.cells #[.int .i64 ((wrm.res x0 y0 wh0 xss0 x1 y1 wh1 xss1 ss2 xss2 yss2 ss3 xss3 yss3).x), .int .i64 ((wrm.res x0 y0 wh0 xss0 x1 y1 wh1 xss1 ss2 xss2 yss2 ss3 xss3 yss3).y), .int .i64 ((wrm.res x0 y0 wh0 xss0 x1 y1 wh1 xss1 ss2 xss2 yss2 ss3 xss3 yss3).wh), .slice Ga Gn Gc] 48))
    have KBp364 := Lib.hid (KBp363.out.alloc (.cells #[.int .i64 ((wrm.res x0 y0 wh0 xss0 x1 y1 wh1 xss1 ss2 xss2 yss2 ss3 xss3 yss3).x), .int .i64 ((wrm.res x0 y0 wh0 xss0 x1 y1 wh1 xss1 ss2 xss2 yss2 ss3 xss3 yss3).y), .int .i64 ((wrm.res x0 y0 wh0 xss0 x1 y1 wh1 xss1 ss2 xss2 yss2 ss3 xss3 yss3).wh), .slice Ga Gn Gc] 48))
    have KBbW64 := Lib.hid (KBbW63.out.alloc (.cells #[.int .i64 ((wrm.res x0 y0 wh0 xss0 x1 y1 wh1 xss1 ss2 xss2 yss2 ss3 xss3 yss3).x), .int .i64 ((wrm.res x0 y0 wh0 xss0 x1 y1 wh1 xss1 ss2 xss2 yss2 ss3 xss3 yss3).y), .int .i64 ((wrm.res x0 y0 wh0 xss0 x1 y1 wh1 xss1 ss2 xss2 yss2 ss3 xss3 yss3).wh), .slice Ga Gn Gc] 48))
    have KBbx064 := Lib.hid (KBbx063.out.alloc (.cells #[.int .i64 ((wrm.res x0 y0 wh0 xss0 x1 y1 wh1 xss1 ss2 xss2 yss2 ss3 xss3 yss3).x), .int .i64 ((wrm.res x0 y0 wh0 xss0 x1 y1 wh1 xss1 ss2 xss2 yss2 ss3 xss3 yss3).y), .int .i64 ((wrm.res x0 y0 wh0 xss0 x1 y1 wh1 xss1 ss2 xss2 yss2 ss3 xss3 yss3).wh), .slice Ga Gn Gc] 48))
    have KBbx164 := Lib.hid (KBbx163.out.alloc (.cells #[.int .i64 ((wrm.res x0 y0 wh0 xss0 x1 y1 wh1 xss1 ss2 xss2 yss2 ss3 xss3 yss3).x), .int .i64 ((wrm.res x0 y0 wh0 xss0 x1 y1 wh1 xss1 ss2 xss2 yss2 ss3 xss3 yss3).y), .int .i64 ((wrm.res x0 y0 wh0 xss0 x1 y1 wh1 xss1 ss2 xss2 yss2 ss3 xss3 yss3).wh), .slice Ga Gn Gc] 48))
    have KBbx264 := Lib.hid (KBbx263.out.alloc (.cells #[.int .i64 ((wrm.res x0 y0 wh0 xss0 x1 y1 wh1 xss1 ss2 xss2 yss2 ss3 xss3 yss3).x), .int .i64 ((wrm.res x0 y0 wh0 xss0 x1 y1 wh1 xss1 ss2 xss2 yss2 ss3 xss3 yss3).y), .int .i64 ((wrm.res x0 y0 wh0 xss0 x1 y1 wh1 xss1 ss2 xss2 yss2 ss3 xss3 yss3).wh), .slice Ga Gn Gc] 48))
    have KBbx364 := Lib.hid (KBbx363.out.alloc (.cells #[.int .i64 ((wrm.res x0 y0 wh0 xss0 x1 y1 wh1 xss1 ss2 xss2 yss2 ss3 xss3 yss3).x), .int .i64 ((wrm.res x0 y0 wh0 xss0 x1 y1 wh1 xss1 ss2 xss2 yss2 ss3 xss3 yss3).y), .int .i64 ((wrm.res x0 y0 wh0 xss0 x1 y1 wh1 xss1 ss2 xss2 yss2 ss3 xss3 yss3).wh), .slice Ga Gn Gc] 48))
    have KBbG64 := Lib.hid (Blk.new wf62 48 #[.int .i64 ((wrm.res x0 y0 wh0 xss0 x1 y1 wh1 xss1 ss2 xss2 yss2 ss3 xss3 yss3).x), .int .i64 ((wrm.res x0 y0 wh0 xss0 x1 y1 wh1 xss1 ss2 xss2 yss2 ss3 xss3 yss3).y), .int .i64 ((wrm.res x0 y0 wh0 xss0 x1 y1 wh1 xss1 ss2 xss2 yss2 ss3 xss3 yss3).wh), .slice Ga Gn Gc])
    clear BE63 HBW63 OWx063 OWx163 OWx263 OWx363 OWG KBp063 KBp163 KBp263 KBp363 KBbW63 KBbx063 KBbx163 KBbx263 KBbx363
    have tk0 : (((wrm.res x0 y0 wh0 xss0 x1 y1 wh1 xss1 ss2 xss2 yss2 ss3 xss3 yss3).ok) != ((wrm.res x0 y0 wh0 xss0 x1 y1 wh1 xss1 ss2 xss2 yss2 ss3 xss3 yss3).ok)) = false := bne_self_eq_false _
    go_wp2_with fail
    refine (box.eq_same ((wrm.res x0 y0 wh0 xss0 x1 y1 wh1 xss1 ss2 xss2 yss2 ss3 xss3 yss3).x) ((wrm.res x0 y0 wh0 xss0 x1 y1 wh1 xss1 ss2 xss2 yss2 ss3 xss3 yss3).y) ((wrm.res x0 y0 wh0 xss0 x1 y1 wh1 xss1 ss2 xss2 yss2 ss3 xss3 yss3).wh) _ _ ((wrm.res x0 y0 wh0 xss0 x1 y1 wh1 xss1 ss2 xss2 yss2 ss3 xss3 yss3).rows) _ OWG64.out.rows (VWW.out.below HBW64.out) wrm.tot_res).mono ?_
    rintro e we65 ⟨rfl, hb⟩
    clear p0c0 p0c1 p0c2 p0c3 p0c4 p1c0 p1c1 p1c2 p1c3 p1c4 p2c0 p2c1 p2c2 p2c3 p3c0 p3c1 p3c2 p3c3 bWc0 bWc1 bWc2 bWc3 bWc4 bx0c0 bx0c1 bx0c2 bx0c3 bx0c4 bx1c0 bx1c1 bx1c2 bx1c3 bx1c4 bx2c0 bx2c1 bx2c2 bx2c3 bx3c0 bx3c1 bx3c2 bx3c3
    have BE66 := Lib.hid (below_tr BE64.out hb)
    have HBW66 := Lib.hid (below_tr HBW64.out hb)
    have OWx066 := Lib.hid (OWx064.out.keep hb)
    have OWx166 := Lib.hid (OWx164.out.keep hb)
    have OWx266 := Lib.hid (OWx264.out.keep hb)
    have OWx366 := Lib.hid (OWx364.out.keep hb)
    have OWG66 := Lib.hid (OWG64.out.keep hb)
    have KBp066 := Lib.hid (KBp064.out.below hb)
    have KBp166 := Lib.hid (KBp164.out.below hb)
    have KBp266 := Lib.hid (KBp264.out.below hb)
    have KBp366 := Lib.hid (KBp364.out.below hb)
    have KBbW66 := Lib.hid (KBbW64.out.below hb)
    have KBbx066 := Lib.hid (KBbx064.out.below hb)
    have KBbx166 := Lib.hid (KBbx164.out.below hb)
    have KBbx266 := Lib.hid (KBbx264.out.below hb)
    have KBbx366 := Lib.hid (KBbx364.out.below hb)
    have KBbG66 := Lib.hid (KBbG64.out.below hb)
    have ZZ66 : Hid (wf62.heap.size + 1 ≤ we65.heap.size) := Lib.hid (by have := (hb).size; simpa using this)
    clear BE64 HBW64 OWx064 OWx164 OWx264 OWx364 OWG64 KBp064 KBp164 KBp264 KBp364 KBbW64 KBbx064 KBbx164 KBbx264 KBbx364 KBbG64
    obtain ⟨p0c0, p0c1, p0c2, p0c3, p0c4⟩ := four_cells KBp066.out
    obtain ⟨p1c0, p1c1, p1c2, p1c3, p1c4⟩ := four_cells KBp166.out
    obtain ⟨p2c0, p2c1, p2c2, p2c3⟩ := scene.three_cells KBp266.out
    obtain ⟨p3c0, p3c1, p3c2, p3c3⟩ := scene.three_cells KBp366.out
    obtain ⟨bWc0, bWc1, bWc2, bWc3, bWc4⟩ := four_cells KBbW66.out
    obtain ⟨bx0c0, bx0c1, bx0c2, bx0c3, bx0c4⟩ := four_cells KBbx066.out
    obtain ⟨bx1c0, bx1c1, bx1c2, bx1c3, bx1c4⟩ := four_cells KBbx166.out
    obtain ⟨bx2c0, bx2c1, bx2c2, bx2c3⟩ := scene.three_cells KBbx266.out
    obtain ⟨bx3c0, bx3c1, bx3c2, bx3c3⟩ := scene.three_cells KBbx366.out
    obtain ⟨bGc0, bGc1, bGc2, bGc3, bGc4⟩ := four_cells KBbG66.out
    clear hb
    go_wp2_with fail
    have HA := Lib.hid (H0.out.below BE66.out)
    have HX := Lib.hid (OWx066.out.rows)
    go_region_held3 (fun w' => w'.cell? ⟨w.heap.size, 0, none⟩ = some (.int .i64 x0) ∧ w'.cell? ⟨w.heap.size, 1, none⟩ = some (.int .i64 y0) ∧ w'.cell? ⟨w.heap.size, 2, none⟩ = some (.int .i64 wh0) ∧ w'.cell? ⟨w.heap.size, 3, none⟩ = some (.slice va0 vn0 vc0) ∧ w'.cell? ⟨wc50.heap.size, 0, none⟩ = some (.int .i64 x0) ∧ w'.cell? ⟨wc50.heap.size, 1, none⟩ = some (.int .i64 y0) ∧ w'.cell? ⟨wc50.heap.size, 2, none⟩ = some (.int .i64 wh0) ∧ w'.cell? ⟨wc50.heap.size, 3, none⟩ = some (.slice x0a x0n x0c) ∧ Below we65.heap.size we65 w')
      ((refine held8 p0c0 p0c1 p0c2 p0c3 bx0c0 bx0c1 bx0c2 bx0c3 ?_; repeat (first | exact Below.refl _ _ | assumption | refine below_dr ?_ | refine below_tr ?_ (by assumption))))
      (first | (go_at_call 36; refine (box.to_any x0 y0 wh0 _ xss0 _ (HA.out.below ?_) hn0).mono ?_; (simp [*]); rintro e wq ⟨uqq0, rfl, huq, hbq⟩) | (go_at_call 38; refine (box.eq_same x0 y0 wh0 _ _ xss0 _ (HX.out.below (below_tr (below_dr (Below.refl _ _)) hbq)) huq.rows hn0).mono ?_; rintro e wd67 ⟨rfl, hbr⟩))
    have hbt := below_tr (below_tr (below_dr (Below.refl _ _)) hbq) hbr
    clear HA HX huq hbq hbr
    clear p0c0 p0c1 p0c2 p0c3 p0c4 p1c0 p1c1 p1c2 p1c3 p1c4 p2c0 p2c1 p2c2 p2c3 p3c0 p3c1 p3c2 p3c3 bWc0 bWc1 bWc2 bWc3 bWc4 bx0c0 bx0c1 bx0c2 bx0c3 bx0c4 bx1c0 bx1c1 bx1c2 bx1c3 bx1c4 bx2c0 bx2c1 bx2c2 bx2c3 bx3c0 bx3c1 bx3c2 bx3c3 bGc0 bGc1 bGc2 bGc3 bGc4
    have BE68 := Lib.hid (below_tr BE66.out hbt)
    have HBW68 := Lib.hid (below_tr HBW66.out hbt)
    have OWx068 := Lib.hid (OWx066.out.keep hbt)
    have OWx168 := Lib.hid (OWx166.out.keep hbt)
    have OWx268 := Lib.hid (OWx266.out.keep hbt)
    have OWx368 := Lib.hid (OWx366.out.keep hbt)
    have OWG68 := Lib.hid (OWG66.out.keep hbt)
    have KBp068 := Lib.hid (KBp066.out.below hbt)
    have KBp168 := Lib.hid (KBp166.out.below hbt)
    have KBp268 := Lib.hid (KBp266.out.below hbt)
    have KBp368 := Lib.hid (KBp366.out.below hbt)
    have KBbW68 := Lib.hid (KBbW66.out.below hbt)
    have KBbx068 := Lib.hid (KBbx066.out.below hbt)
    have KBbx168 := Lib.hid (KBbx166.out.below hbt)
    have KBbx268 := Lib.hid (KBbx266.out.below hbt)
    have KBbx368 := Lib.hid (KBbx366.out.below hbt)
    have KBbG68 := Lib.hid (KBbG66.out.below hbt)
    have ZZ68 : Hid (we65.heap.size ≤ wd67.heap.size) := Lib.hid (by have := (hbt).size; simpa using this)
    clear BE66 HBW66 OWx066 OWx166 OWx266 OWx366 OWG66 KBp066 KBp166 KBp266 KBp366 KBbW66 KBbx066 KBbx166 KBbx266 KBbx366 KBbG66
    obtain ⟨p0c0, p0c1, p0c2, p0c3, p0c4⟩ := four_cells KBp068.out
    obtain ⟨p1c0, p1c1, p1c2, p1c3, p1c4⟩ := four_cells KBp168.out
    obtain ⟨p2c0, p2c1, p2c2, p2c3⟩ := scene.three_cells KBp268.out
    obtain ⟨p3c0, p3c1, p3c2, p3c3⟩ := scene.three_cells KBp368.out
    obtain ⟨bWc0, bWc1, bWc2, bWc3, bWc4⟩ := four_cells KBbW68.out
    obtain ⟨bx0c0, bx0c1, bx0c2, bx0c3, bx0c4⟩ := four_cells KBbx068.out
    obtain ⟨bx1c0, bx1c1, bx1c2, bx1c3, bx1c4⟩ := four_cells KBbx168.out
    obtain ⟨bx2c0, bx2c1, bx2c2, bx2c3⟩ := scene.three_cells KBbx268.out
    obtain ⟨bx3c0, bx3c1, bx3c2, bx3c3⟩ := scene.three_cells KBbx368.out
    obtain ⟨bGc0, bGc1, bGc2, bGc3, bGc4⟩ := four_cells KBbG68.out
    clear hbt
    go_wp2_with fail
    have HA := Lib.hid (H1.out.below BE68.out)
    have HX := Lib.hid (OWx168.out.rows)
    go_region_held3 (fun w' => w'.cell? ⟨w.heap.size + 1, 0, none⟩ = some (.int .i64 x1) ∧ w'.cell? ⟨w.heap.size + 1, 1, none⟩ = some (.int .i64 y1) ∧ w'.cell? ⟨w.heap.size + 1, 2, none⟩ = some (.int .i64 wh1) ∧ w'.cell? ⟨w.heap.size + 1, 3, none⟩ = some (.slice va1 vn1 vc1) ∧ w'.cell? ⟨wc53.heap.size, 0, none⟩ = some (.int .i64 x1) ∧ w'.cell? ⟨wc53.heap.size, 1, none⟩ = some (.int .i64 y1) ∧ w'.cell? ⟨wc53.heap.size, 2, none⟩ = some (.int .i64 wh1) ∧ w'.cell? ⟨wc53.heap.size, 3, none⟩ = some (.slice x1a x1n x1c) ∧ Below wd67.heap.size wd67 w')
      ((refine held8 p1c0 p1c1 p1c2 p1c3 bx1c0 bx1c1 bx1c2 bx1c3 ?_; repeat (first | exact Below.refl _ _ | assumption | refine below_dr ?_ | refine below_tr ?_ (by assumption))))
      (first | (go_at_call 36; refine (box.to_any x1 y1 wh1 _ xss1 _ (HA.out.below ?_) hn1).mono ?_; (simp [*]); rintro e wq ⟨uqq1, rfl, huq, hbq⟩) | (go_at_call 38; refine (box.eq_same x1 y1 wh1 _ _ xss1 _ (HX.out.below (below_tr (below_dr (Below.refl _ _)) hbq)) huq.rows hn1).mono ?_; rintro e wd69 ⟨rfl, hbr⟩))
    have hbt := below_tr (below_tr (below_dr (Below.refl _ _)) hbq) hbr
    clear HA HX huq hbq hbr
    clear p0c0 p0c1 p0c2 p0c3 p0c4 p1c0 p1c1 p1c2 p1c3 p1c4 p2c0 p2c1 p2c2 p2c3 p3c0 p3c1 p3c2 p3c3 bWc0 bWc1 bWc2 bWc3 bWc4 bx0c0 bx0c1 bx0c2 bx0c3 bx0c4 bx1c0 bx1c1 bx1c2 bx1c3 bx1c4 bx2c0 bx2c1 bx2c2 bx2c3 bx3c0 bx3c1 bx3c2 bx3c3 bGc0 bGc1 bGc2 bGc3 bGc4
    have BE70 := Lib.hid (below_tr BE68.out hbt)
    have HBW70 := Lib.hid (below_tr HBW68.out hbt)
    have OWx070 := Lib.hid (OWx068.out.keep hbt)
    have OWx170 := Lib.hid (OWx168.out.keep hbt)
    have OWx270 := Lib.hid (OWx268.out.keep hbt)
    have OWx370 := Lib.hid (OWx368.out.keep hbt)
    have OWG70 := Lib.hid (OWG68.out.keep hbt)
    have KBp070 := Lib.hid (KBp068.out.below hbt)
    have KBp170 := Lib.hid (KBp168.out.below hbt)
    have KBp270 := Lib.hid (KBp268.out.below hbt)
    have KBp370 := Lib.hid (KBp368.out.below hbt)
    have KBbW70 := Lib.hid (KBbW68.out.below hbt)
    have KBbx070 := Lib.hid (KBbx068.out.below hbt)
    have KBbx170 := Lib.hid (KBbx168.out.below hbt)
    have KBbx270 := Lib.hid (KBbx268.out.below hbt)
    have KBbx370 := Lib.hid (KBbx368.out.below hbt)
    have KBbG70 := Lib.hid (KBbG68.out.below hbt)
    have ZZ70 : Hid (wd67.heap.size ≤ wd69.heap.size) := Lib.hid (by have := (hbt).size; simpa using this)
    clear BE68 HBW68 OWx068 OWx168 OWx268 OWx368 OWG68 KBp068 KBp168 KBp268 KBp368 KBbW68 KBbx068 KBbx168 KBbx268 KBbx368 KBbG68
    obtain ⟨p0c0, p0c1, p0c2, p0c3, p0c4⟩ := four_cells KBp070.out
    obtain ⟨p1c0, p1c1, p1c2, p1c3, p1c4⟩ := four_cells KBp170.out
    obtain ⟨p2c0, p2c1, p2c2, p2c3⟩ := scene.three_cells KBp270.out
    obtain ⟨p3c0, p3c1, p3c2, p3c3⟩ := scene.three_cells KBp370.out
    obtain ⟨bWc0, bWc1, bWc2, bWc3, bWc4⟩ := four_cells KBbW70.out
    obtain ⟨bx0c0, bx0c1, bx0c2, bx0c3, bx0c4⟩ := four_cells KBbx070.out
    obtain ⟨bx1c0, bx1c1, bx1c2, bx1c3, bx1c4⟩ := four_cells KBbx170.out
    obtain ⟨bx2c0, bx2c1, bx2c2, bx2c3⟩ := scene.three_cells KBbx270.out
    obtain ⟨bx3c0, bx3c1, bx3c2, bx3c3⟩ := scene.three_cells KBbx370.out
    obtain ⟨bGc0, bGc1, bGc2, bGc3, bGc4⟩ := four_cells KBbG70.out
    clear hbt
    go_wp2_with fail
    have HA := Lib.hid (H2.out.below BE70.out)
    have HX := Lib.hid (OWx270.out.view)
    go_region_held3 (fun w' => w'.cell? ⟨w.heap.size + 1 + 1, 0, none⟩ = some (.slice wa2 wn2 wc2) ∧ w'.cell? ⟨w.heap.size + 1 + 1, 1, none⟩ = some (.slice va2 vn2 vc2) ∧ w'.cell? ⟨w.heap.size + 1 + 1, 2, none⟩ = some (.slice na2 nn2 nc2) ∧ w'.cell? ⟨wc56.heap.size, 0, none⟩ = some (.slice x2a x2n x2c) ∧ w'.cell? ⟨wc56.heap.size, 1, none⟩ = some (.slice x2d x2m x2e) ∧ w'.cell? ⟨wc56.heap.size, 2, none⟩ = some (.slice x2f x2o x2g) ∧ Below wd69.heap.size wd69 w')
      ((refine scene.held6c p2c0 p2c1 p2c2 bx2c0 bx2c1 bx2c2 ?_; repeat (first | exact Below.refl _ _ | assumption | refine below_dr ?_ | refine below_tr ?_ (by assumption))))
      (first | (go_at_call 17; refine (rule.to_any _ ss2 _ xss2 _ yss2 _ (HA.out.below ?_) hn2 hm2 hk2).mono ?_; (simp [*]); rintro e wq ⟨vq2, uq2, nq2, rfl, huq, hbq⟩) | (go_at_call 19; refine (rule.eq_same _ _ ss2 _ _ xss2 _ _ yss2 _ (HX.out.below (below_tr (below_dr (Below.refl _ _)) hbq)) huq.view hn2 hm2 hk2).mono ?_; rintro e wd71 ⟨rfl, hbr⟩))
    have hbt := below_tr (below_tr (below_dr (Below.refl _ _)) hbq) hbr
    clear HA HX huq hbq hbr
    clear p0c0 p0c1 p0c2 p0c3 p0c4 p1c0 p1c1 p1c2 p1c3 p1c4 p2c0 p2c1 p2c2 p2c3 p3c0 p3c1 p3c2 p3c3 bWc0 bWc1 bWc2 bWc3 bWc4 bx0c0 bx0c1 bx0c2 bx0c3 bx0c4 bx1c0 bx1c1 bx1c2 bx1c3 bx1c4 bx2c0 bx2c1 bx2c2 bx2c3 bx3c0 bx3c1 bx3c2 bx3c3 bGc0 bGc1 bGc2 bGc3 bGc4
    have BE72 := Lib.hid (below_tr BE70.out hbt)
    have HBW72 := Lib.hid (below_tr HBW70.out hbt)
    have OWx072 := Lib.hid (OWx070.out.keep hbt)
    have OWx172 := Lib.hid (OWx170.out.keep hbt)
    have OWx272 := Lib.hid (OWx270.out.keep hbt)
    have OWx372 := Lib.hid (OWx370.out.keep hbt)
    have OWG72 := Lib.hid (OWG70.out.keep hbt)
    have KBp072 := Lib.hid (KBp070.out.below hbt)
    have KBp172 := Lib.hid (KBp170.out.below hbt)
    have KBp272 := Lib.hid (KBp270.out.below hbt)
    have KBp372 := Lib.hid (KBp370.out.below hbt)
    have KBbW72 := Lib.hid (KBbW70.out.below hbt)
    have KBbx072 := Lib.hid (KBbx070.out.below hbt)
    have KBbx172 := Lib.hid (KBbx170.out.below hbt)
    have KBbx272 := Lib.hid (KBbx270.out.below hbt)
    have KBbx372 := Lib.hid (KBbx370.out.below hbt)
    have KBbG72 := Lib.hid (KBbG70.out.below hbt)
    have ZZ72 : Hid (wd69.heap.size ≤ wd71.heap.size) := Lib.hid (by have := (hbt).size; simpa using this)
    clear BE70 HBW70 OWx070 OWx170 OWx270 OWx370 OWG70 KBp070 KBp170 KBp270 KBp370 KBbW70 KBbx070 KBbx170 KBbx270 KBbx370 KBbG70
    obtain ⟨p0c0, p0c1, p0c2, p0c3, p0c4⟩ := four_cells KBp072.out
    obtain ⟨p1c0, p1c1, p1c2, p1c3, p1c4⟩ := four_cells KBp172.out
    obtain ⟨p2c0, p2c1, p2c2, p2c3⟩ := scene.three_cells KBp272.out
    obtain ⟨p3c0, p3c1, p3c2, p3c3⟩ := scene.three_cells KBp372.out
    obtain ⟨bWc0, bWc1, bWc2, bWc3, bWc4⟩ := four_cells KBbW72.out
    obtain ⟨bx0c0, bx0c1, bx0c2, bx0c3, bx0c4⟩ := four_cells KBbx072.out
    obtain ⟨bx1c0, bx1c1, bx1c2, bx1c3, bx1c4⟩ := four_cells KBbx172.out
    obtain ⟨bx2c0, bx2c1, bx2c2, bx2c3⟩ := scene.three_cells KBbx272.out
    obtain ⟨bx3c0, bx3c1, bx3c2, bx3c3⟩ := scene.three_cells KBbx372.out
    obtain ⟨bGc0, bGc1, bGc2, bGc3, bGc4⟩ := four_cells KBbG72.out
    clear hbt
    go_wp2_with fail
    have HA := Lib.hid (H3.out.below BE72.out)
    have HX := Lib.hid (OWx372.out.view)
    go_region_held3 (fun w' => w'.cell? ⟨w.heap.size + 1 + 1 + 1, 0, none⟩ = some (.slice wa3 wn3 wc3) ∧ w'.cell? ⟨w.heap.size + 1 + 1 + 1, 1, none⟩ = some (.slice va3 vn3 vc3) ∧ w'.cell? ⟨w.heap.size + 1 + 1 + 1, 2, none⟩ = some (.slice na3 nn3 nc3) ∧ w'.cell? ⟨wc59.heap.size, 0, none⟩ = some (.slice x3a x3n x3c) ∧ w'.cell? ⟨wc59.heap.size, 1, none⟩ = some (.slice x3d x3m x3e) ∧ w'.cell? ⟨wc59.heap.size, 2, none⟩ = some (.slice x3f x3o x3g) ∧ Below wd71.heap.size wd71 w')
      ((refine scene.held6c p3c0 p3c1 p3c2 bx3c0 bx3c1 bx3c2 ?_; repeat (first | exact Below.refl _ _ | assumption | refine below_dr ?_ | refine below_tr ?_ (by assumption))))
      (first | (go_at_call 17; refine (rule.to_any _ ss3 _ xss3 _ yss3 _ (HA.out.below ?_) hn3 hm3 hk3).mono ?_; (simp [*]); rintro e wq ⟨vq3, uq3, nq3, rfl, huq, hbq⟩) | (go_at_call 19; refine (rule.eq_same _ _ ss3 _ _ xss3 _ _ yss3 _ (HX.out.below (below_tr (below_dr (Below.refl _ _)) hbq)) huq.view hn3 hm3 hk3).mono ?_; rintro e wd73 ⟨rfl, hbr⟩))
    have hbt := below_tr (below_tr (below_dr (Below.refl _ _)) hbq) hbr
    clear HA HX huq hbq hbr
    clear p0c0 p0c1 p0c2 p0c3 p0c4 p1c0 p1c1 p1c2 p1c3 p1c4 p2c0 p2c1 p2c2 p2c3 p3c0 p3c1 p3c2 p3c3 bWc0 bWc1 bWc2 bWc3 bWc4 bx0c0 bx0c1 bx0c2 bx0c3 bx0c4 bx1c0 bx1c1 bx1c2 bx1c3 bx1c4 bx2c0 bx2c1 bx2c2 bx2c3 bx3c0 bx3c1 bx3c2 bx3c3 bGc0 bGc1 bGc2 bGc3 bGc4
    have BE74 := Lib.hid (below_tr BE72.out hbt)
    have HBW74 := Lib.hid (below_tr HBW72.out hbt)
    have OWx074 := Lib.hid (OWx072.out.keep hbt)
    have OWx174 := Lib.hid (OWx172.out.keep hbt)
    have OWx274 := Lib.hid (OWx272.out.keep hbt)
    have OWx374 := Lib.hid (OWx372.out.keep hbt)
    have OWG74 := Lib.hid (OWG72.out.keep hbt)
    have KBp074 := Lib.hid (KBp072.out.below hbt)
    have KBp174 := Lib.hid (KBp172.out.below hbt)
    have KBp274 := Lib.hid (KBp272.out.below hbt)
    have KBp374 := Lib.hid (KBp372.out.below hbt)
    have KBbW74 := Lib.hid (KBbW72.out.below hbt)
    have KBbx074 := Lib.hid (KBbx072.out.below hbt)
    have KBbx174 := Lib.hid (KBbx172.out.below hbt)
    have KBbx274 := Lib.hid (KBbx272.out.below hbt)
    have KBbx374 := Lib.hid (KBbx372.out.below hbt)
    have KBbG74 := Lib.hid (KBbG72.out.below hbt)
    have ZZ74 : Hid (wd71.heap.size ≤ wd73.heap.size) := Lib.hid (by have := (hbt).size; simpa using this)
    clear BE72 HBW72 OWx072 OWx172 OWx272 OWx372 OWG72 KBp072 KBp172 KBp272 KBp372 KBbW72 KBbx072 KBbx172 KBbx272 KBbx372 KBbG72
    obtain ⟨p0c0, p0c1, p0c2, p0c3, p0c4⟩ := four_cells KBp074.out
    obtain ⟨p1c0, p1c1, p1c2, p1c3, p1c4⟩ := four_cells KBp174.out
    obtain ⟨p2c0, p2c1, p2c2, p2c3⟩ := scene.three_cells KBp274.out
    obtain ⟨p3c0, p3c1, p3c2, p3c3⟩ := scene.three_cells KBp374.out
    obtain ⟨bWc0, bWc1, bWc2, bWc3, bWc4⟩ := four_cells KBbW74.out
    obtain ⟨bx0c0, bx0c1, bx0c2, bx0c3, bx0c4⟩ := four_cells KBbx074.out
    obtain ⟨bx1c0, bx1c1, bx1c2, bx1c3, bx1c4⟩ := four_cells KBbx174.out
    obtain ⟨bx2c0, bx2c1, bx2c2, bx2c3⟩ := scene.three_cells KBbx274.out
    obtain ⟨bx3c0, bx3c1, bx3c2, bx3c3⟩ := scene.three_cells KBbx374.out
    obtain ⟨bGc0, bGc1, bGc2, bGc3, bGc4⟩ := four_cells KBbG74.out
    clear hbt
    have bl0 := rws.before_le xss0 xss0.length
    go_wp2_with fail
    refine (box.mark_any x0 y0 wh0 _ xss0 (1) (W.heap.size) (wc50.heap.size) _ OWx074.out hn0 (by omega) (by omega)).mono ?_
    rintro e wm75 ⟨rfl, hi, S, wl76, hb, hw, hs⟩
    clear OWx074
    clear p0c0 p0c1 p0c2 p0c3 p0c4 p1c0 p1c1 p1c2 p1c3 p1c4 p2c0 p2c1 p2c2 p2c3 p3c0 p3c1 p3c2 p3c3 bWc0 bWc1 bWc2 bWc3 bWc4 bx0c0 bx0c1 bx0c2 bx0c3 bx0c4 bx1c0 bx1c1 bx1c2 bx1c3 bx1c4 bx2c0 bx2c1 bx2c2 bx2c3 bx3c0 bx3c1 bx3c2 bx3c3 bGc0 bGc1 bGc2 bGc3 bGc4
    have BE77 := Lib.hid (below_tr BE74.out hb)
    have HBW77 := Lib.hid (below_tr HBW74.out hb)
    have OWx177 := Lib.hid (OWx174.out.keep hb)
    have OWx277 := Lib.hid (OWx274.out.keep hb)
    have OWx377 := Lib.hid (OWx374.out.keep hb)
    have OWG77 := Lib.hid (OWG74.out.keep hb)
    have KBp077 := Lib.hid (KBp074.out.below hb)
    have KBp177 := Lib.hid (KBp174.out.below hb)
    have KBp277 := Lib.hid (KBp274.out.below hb)
    have KBp377 := Lib.hid (KBp374.out.below hb)
    have KBbW77 := Lib.hid (KBbW74.out.below hb)
    have KBbx077 := Lib.hid (KBbx074.out.below hb)
    have KBbx177 := Lib.hid (KBbx174.out.below hb)
    have KBbx277 := Lib.hid (KBbx274.out.below hb)
    have KBbx377 := Lib.hid (KBbx374.out.below hb)
    have KBbG77 := Lib.hid (KBbG74.out.below hb)
    have ZZ77 : Hid (wd73.heap.size ≤ wl76.heap.size) := Lib.hid (by have := (hb).size; simpa using this)
    clear BE74 HBW74 OWx174 OWx274 OWx374 OWG74 KBp074 KBp174 KBp274 KBp374 KBbW74 KBbx074 KBbx174 KBbx274 KBbx374 KBbG74
    obtain ⟨p0c0, p0c1, p0c2, p0c3, p0c4⟩ := four_cells KBp077.out
    obtain ⟨p1c0, p1c1, p1c2, p1c3, p1c4⟩ := four_cells KBp177.out
    obtain ⟨p2c0, p2c1, p2c2, p2c3⟩ := scene.three_cells KBp277.out
    obtain ⟨p3c0, p3c1, p3c2, p3c3⟩ := scene.three_cells KBp377.out
    obtain ⟨bWc0, bWc1, bWc2, bWc3, bWc4⟩ := four_cells KBbW77.out
    obtain ⟨bx0c0, bx0c1, bx0c2, bx0c3, bx0c4⟩ := four_cells KBbx077.out
    obtain ⟨bx1c0, bx1c1, bx1c2, bx1c3, bx1c4⟩ := four_cells KBbx177.out
    obtain ⟨bx2c0, bx2c1, bx2c2, bx2c3⟩ := scene.three_cells KBbx277.out
    obtain ⟨bx3c0, bx3c1, bx3c2, bx3c3⟩ := scene.three_cells KBbx377.out
    obtain ⟨bGc0, bGc1, bGc2, bGc3, bGc4⟩ := four_cells KBbG77.out
    clear p0c0 p0c1 p0c2 p0c3 p0c4 p1c0 p1c1 p1c2 p1c3 p1c4 p2c0 p2c1 p2c2 p2c3 p3c0 p3c1 p3c2 p3c3 bWc0 bWc1 bWc2 bWc3 bWc4 bx0c0 bx0c1 bx0c2 bx0c3 bx0c4 bx1c0 bx1c1 bx1c2 bx1c3 bx1c4 bx2c0 bx2c1 bx2c2 bx2c3 bx3c0 bx3c1 bx3c2 bx3c3 bGc0 bGc1 bGc2 bGc3 bGc4
    have BE78 := Lib.hid (BE77.out.trans (hw.below (fun p hp => by have := (hs p hp).1; have := ZZ42.out; have := ZZ44.out; have := ZZ46.out; have := ZZ48.out; have := ZZaW.out; have := ZZ49.out; have := ZZgW.out; have := ZZ51.out; have := ZZ54.out; have := ZZ57.out; have := ZZ60.out; have := ZZ63.out; have := ZZ66.out; have := ZZ68.out; have := ZZ70.out; have := ZZ72.out; have := ZZ74.out; have := ZZ77.out; omega)))
    have HBW78 := Lib.hid (HBW77.out.trans (hw.below (fun p hp => by have := (hs p hp).1; have := ZZ42.out; have := ZZ44.out; have := ZZ46.out; have := ZZ48.out; have := ZZaW.out; have := ZZ49.out; have := ZZgW.out; have := ZZ51.out; have := ZZ54.out; have := ZZ57.out; have := ZZ60.out; have := ZZ63.out; have := ZZ66.out; have := ZZ68.out; have := ZZ70.out; have := ZZ72.out; have := ZZ74.out; have := ZZ77.out; omega)))
    have OWx178 := Lib.hid (OWx177.out.wrote hw (fun p hp => by have := hs p hp; have := ZZ42.out; have := ZZ44.out; have := ZZ46.out; have := ZZ48.out; have := ZZaW.out; have := ZZ49.out; have := ZZgW.out; have := ZZ51.out; have := ZZ54.out; have := ZZ57.out; have := ZZ60.out; have := ZZ63.out; have := ZZ66.out; have := ZZ68.out; have := ZZ70.out; have := ZZ72.out; have := ZZ74.out; have := ZZ77.out; omega))
    have OWx278 := Lib.hid (OWx277.out.wrote hw (fun p hp => by have := hs p hp; have := ZZ42.out; have := ZZ44.out; have := ZZ46.out; have := ZZ48.out; have := ZZaW.out; have := ZZ49.out; have := ZZgW.out; have := ZZ51.out; have := ZZ54.out; have := ZZ57.out; have := ZZ60.out; have := ZZ63.out; have := ZZ66.out; have := ZZ68.out; have := ZZ70.out; have := ZZ72.out; have := ZZ74.out; have := ZZ77.out; omega))
    have OWx378 := Lib.hid (OWx377.out.wrote hw (fun p hp => by have := hs p hp; have := ZZ42.out; have := ZZ44.out; have := ZZ46.out; have := ZZ48.out; have := ZZaW.out; have := ZZ49.out; have := ZZgW.out; have := ZZ51.out; have := ZZ54.out; have := ZZ57.out; have := ZZ60.out; have := ZZ63.out; have := ZZ66.out; have := ZZ68.out; have := ZZ70.out; have := ZZ72.out; have := ZZ74.out; have := ZZ77.out; omega))
    have OWG78 := Lib.hid (OWG77.out.wrote hw (fun p hp => by have := hs p hp; have := ZZ42.out; have := ZZ44.out; have := ZZ46.out; have := ZZ48.out; have := ZZaW.out; have := ZZ49.out; have := ZZgW.out; have := ZZ51.out; have := ZZ54.out; have := ZZ57.out; have := ZZ60.out; have := ZZ63.out; have := ZZ66.out; have := ZZ68.out; have := ZZ70.out; have := ZZ72.out; have := ZZ74.out; have := ZZ77.out; omega))
    have KBp078 := Lib.hid (KBp077.out.wrote hw (fun p hp e => by have := hs p hp; have := ZZ42.out; have := ZZ44.out; have := ZZ46.out; have := ZZ48.out; have := ZZaW.out; have := ZZ49.out; have := ZZgW.out; have := ZZ51.out; have := ZZ54.out; have := ZZ57.out; have := ZZ60.out; have := ZZ63.out; have := ZZ66.out; have := ZZ68.out; have := ZZ70.out; have := ZZ72.out; have := ZZ74.out; have := ZZ77.out; omega))
    have KBp178 := Lib.hid (KBp177.out.wrote hw (fun p hp e => by have := hs p hp; have := ZZ42.out; have := ZZ44.out; have := ZZ46.out; have := ZZ48.out; have := ZZaW.out; have := ZZ49.out; have := ZZgW.out; have := ZZ51.out; have := ZZ54.out; have := ZZ57.out; have := ZZ60.out; have := ZZ63.out; have := ZZ66.out; have := ZZ68.out; have := ZZ70.out; have := ZZ72.out; have := ZZ74.out; have := ZZ77.out; omega))
    have KBp278 := Lib.hid (KBp277.out.wrote hw (fun p hp e => by have := hs p hp; have := ZZ42.out; have := ZZ44.out; have := ZZ46.out; have := ZZ48.out; have := ZZaW.out; have := ZZ49.out; have := ZZgW.out; have := ZZ51.out; have := ZZ54.out; have := ZZ57.out; have := ZZ60.out; have := ZZ63.out; have := ZZ66.out; have := ZZ68.out; have := ZZ70.out; have := ZZ72.out; have := ZZ74.out; have := ZZ77.out; omega))
    have KBp378 := Lib.hid (KBp377.out.wrote hw (fun p hp e => by have := hs p hp; have := ZZ42.out; have := ZZ44.out; have := ZZ46.out; have := ZZ48.out; have := ZZaW.out; have := ZZ49.out; have := ZZgW.out; have := ZZ51.out; have := ZZ54.out; have := ZZ57.out; have := ZZ60.out; have := ZZ63.out; have := ZZ66.out; have := ZZ68.out; have := ZZ70.out; have := ZZ72.out; have := ZZ74.out; have := ZZ77.out; omega))
    have KBbW78 := Lib.hid (KBbW77.out.wrote hw (fun p hp e => by have := hs p hp; have := ZZ42.out; have := ZZ44.out; have := ZZ46.out; have := ZZ48.out; have := ZZaW.out; have := ZZ49.out; have := ZZgW.out; have := ZZ51.out; have := ZZ54.out; have := ZZ57.out; have := ZZ60.out; have := ZZ63.out; have := ZZ66.out; have := ZZ68.out; have := ZZ70.out; have := ZZ72.out; have := ZZ74.out; have := ZZ77.out; omega))
    have KBbx078 := Lib.hid (KBbx077.out.wrote hw (fun p hp e => by have := hs p hp; have := ZZ42.out; have := ZZ44.out; have := ZZ46.out; have := ZZ48.out; have := ZZaW.out; have := ZZ49.out; have := ZZgW.out; have := ZZ51.out; have := ZZ54.out; have := ZZ57.out; have := ZZ60.out; have := ZZ63.out; have := ZZ66.out; have := ZZ68.out; have := ZZ70.out; have := ZZ72.out; have := ZZ74.out; have := ZZ77.out; omega))
    have KBbx178 := Lib.hid (KBbx177.out.wrote hw (fun p hp e => by have := hs p hp; have := ZZ42.out; have := ZZ44.out; have := ZZ46.out; have := ZZ48.out; have := ZZaW.out; have := ZZ49.out; have := ZZgW.out; have := ZZ51.out; have := ZZ54.out; have := ZZ57.out; have := ZZ60.out; have := ZZ63.out; have := ZZ66.out; have := ZZ68.out; have := ZZ70.out; have := ZZ72.out; have := ZZ74.out; have := ZZ77.out; omega))
    have KBbx278 := Lib.hid (KBbx277.out.wrote hw (fun p hp e => by have := hs p hp; have := ZZ42.out; have := ZZ44.out; have := ZZ46.out; have := ZZ48.out; have := ZZaW.out; have := ZZ49.out; have := ZZgW.out; have := ZZ51.out; have := ZZ54.out; have := ZZ57.out; have := ZZ60.out; have := ZZ63.out; have := ZZ66.out; have := ZZ68.out; have := ZZ70.out; have := ZZ72.out; have := ZZ74.out; have := ZZ77.out; omega))
    have KBbx378 := Lib.hid (KBbx377.out.wrote hw (fun p hp e => by have := hs p hp; have := ZZ42.out; have := ZZ44.out; have := ZZ46.out; have := ZZ48.out; have := ZZaW.out; have := ZZ49.out; have := ZZgW.out; have := ZZ51.out; have := ZZ54.out; have := ZZ57.out; have := ZZ60.out; have := ZZ63.out; have := ZZ66.out; have := ZZ68.out; have := ZZ70.out; have := ZZ72.out; have := ZZ74.out; have := ZZ77.out; omega))
    have KBbG78 := Lib.hid (KBbG77.out.wrote hw (fun p hp e => by have := hs p hp; have := ZZ42.out; have := ZZ44.out; have := ZZ46.out; have := ZZ48.out; have := ZZaW.out; have := ZZ49.out; have := ZZgW.out; have := ZZ51.out; have := ZZ54.out; have := ZZ57.out; have := ZZ60.out; have := ZZ63.out; have := ZZ66.out; have := ZZ68.out; have := ZZ70.out; have := ZZ72.out; have := ZZ74.out; have := ZZ77.out; omega))
    have ZZ78 : Hid (wl76.heap.size ≤ wm75.heap.size) := Lib.hid (by have := hw.size; omega)
    clear BE77 HBW77 OWx177 OWx277 OWx377 OWG77 KBp077 KBp177 KBp277 KBp377 KBbW77 KBbx077 KBbx177 KBbx277 KBbx377 KBbG77
    obtain ⟨p0c0, p0c1, p0c2, p0c3, p0c4⟩ := four_cells KBp078.out
    obtain ⟨p1c0, p1c1, p1c2, p1c3, p1c4⟩ := four_cells KBp178.out
    obtain ⟨p2c0, p2c1, p2c2, p2c3⟩ := scene.three_cells KBp278.out
    obtain ⟨p3c0, p3c1, p3c2, p3c3⟩ := scene.three_cells KBp378.out
    obtain ⟨bWc0, bWc1, bWc2, bWc3, bWc4⟩ := four_cells KBbW78.out
    obtain ⟨bx0c0, bx0c1, bx0c2, bx0c3, bx0c4⟩ := four_cells KBbx078.out
    obtain ⟨bx1c0, bx1c1, bx1c2, bx1c3, bx1c4⟩ := four_cells KBbx178.out
    obtain ⟨bx2c0, bx2c1, bx2c2, bx2c3⟩ := scene.three_cells KBbx278.out
    obtain ⟨bx3c0, bx3c1, bx3c2, bx3c3⟩ := scene.three_cells KBbx378.out
    obtain ⟨bGc0, bGc1, bGc2, bGc3, bGc4⟩ := four_cells KBbG78.out
    clear hb
    clear hw hs
    clear hi
    have bl1 := rws.before_le xss1 xss1.length
    go_wp2_with fail
    refine (box.mark_any x1 y1 wh1 _ xss1 (1 + (rws.before xss0 xss0.length : Int)) (wc50.heap.size + 1) (wc53.heap.size) _ OWx178.out hn1 (by omega) (by omega)).mono ?_
    rintro e wm79 ⟨rfl, hi, S, wl80, hb, hw, hs⟩
    clear OWx178
    clear p0c0 p0c1 p0c2 p0c3 p0c4 p1c0 p1c1 p1c2 p1c3 p1c4 p2c0 p2c1 p2c2 p2c3 p3c0 p3c1 p3c2 p3c3 bWc0 bWc1 bWc2 bWc3 bWc4 bx0c0 bx0c1 bx0c2 bx0c3 bx0c4 bx1c0 bx1c1 bx1c2 bx1c3 bx1c4 bx2c0 bx2c1 bx2c2 bx2c3 bx3c0 bx3c1 bx3c2 bx3c3 bGc0 bGc1 bGc2 bGc3 bGc4
    have BE81 := Lib.hid (below_tr BE78.out hb)
    have HBW81 := Lib.hid (below_tr HBW78.out hb)
    have OWx281 := Lib.hid (OWx278.out.keep hb)
    have OWx381 := Lib.hid (OWx378.out.keep hb)
    have OWG81 := Lib.hid (OWG78.out.keep hb)
    have KBp081 := Lib.hid (KBp078.out.below hb)
    have KBp181 := Lib.hid (KBp178.out.below hb)
    have KBp281 := Lib.hid (KBp278.out.below hb)
    have KBp381 := Lib.hid (KBp378.out.below hb)
    have KBbW81 := Lib.hid (KBbW78.out.below hb)
    have KBbx081 := Lib.hid (KBbx078.out.below hb)
    have KBbx181 := Lib.hid (KBbx178.out.below hb)
    have KBbx281 := Lib.hid (KBbx278.out.below hb)
    have KBbx381 := Lib.hid (KBbx378.out.below hb)
    have KBbG81 := Lib.hid (KBbG78.out.below hb)
    have ZZ81 : Hid (wm75.heap.size ≤ wl80.heap.size) := Lib.hid (by have := (hb).size; simpa using this)
    clear BE78 HBW78 OWx278 OWx378 OWG78 KBp078 KBp178 KBp278 KBp378 KBbW78 KBbx078 KBbx178 KBbx278 KBbx378 KBbG78
    obtain ⟨p0c0, p0c1, p0c2, p0c3, p0c4⟩ := four_cells KBp081.out
    obtain ⟨p1c0, p1c1, p1c2, p1c3, p1c4⟩ := four_cells KBp181.out
    obtain ⟨p2c0, p2c1, p2c2, p2c3⟩ := scene.three_cells KBp281.out
    obtain ⟨p3c0, p3c1, p3c2, p3c3⟩ := scene.three_cells KBp381.out
    obtain ⟨bWc0, bWc1, bWc2, bWc3, bWc4⟩ := four_cells KBbW81.out
    obtain ⟨bx0c0, bx0c1, bx0c2, bx0c3, bx0c4⟩ := four_cells KBbx081.out
    obtain ⟨bx1c0, bx1c1, bx1c2, bx1c3, bx1c4⟩ := four_cells KBbx181.out
    obtain ⟨bx2c0, bx2c1, bx2c2, bx2c3⟩ := scene.three_cells KBbx281.out
    obtain ⟨bx3c0, bx3c1, bx3c2, bx3c3⟩ := scene.three_cells KBbx381.out
    obtain ⟨bGc0, bGc1, bGc2, bGc3, bGc4⟩ := four_cells KBbG81.out
    clear p0c0 p0c1 p0c2 p0c3 p0c4 p1c0 p1c1 p1c2 p1c3 p1c4 p2c0 p2c1 p2c2 p2c3 p3c0 p3c1 p3c2 p3c3 bWc0 bWc1 bWc2 bWc3 bWc4 bx0c0 bx0c1 bx0c2 bx0c3 bx0c4 bx1c0 bx1c1 bx1c2 bx1c3 bx1c4 bx2c0 bx2c1 bx2c2 bx2c3 bx3c0 bx3c1 bx3c2 bx3c3 bGc0 bGc1 bGc2 bGc3 bGc4
    have BE82 := Lib.hid (BE81.out.trans (hw.below (fun p hp => by have := (hs p hp).1; have := ZZ42.out; have := ZZ44.out; have := ZZ46.out; have := ZZ48.out; have := ZZaW.out; have := ZZ49.out; have := ZZgW.out; have := ZZ51.out; have := ZZ54.out; have := ZZ57.out; have := ZZ60.out; have := ZZ63.out; have := ZZ66.out; have := ZZ68.out; have := ZZ70.out; have := ZZ72.out; have := ZZ74.out; have := ZZ77.out; have := ZZ78.out; have := ZZ81.out; omega)))
    have HBW82 := Lib.hid (HBW81.out.trans (hw.below (fun p hp => by have := (hs p hp).1; have := ZZ42.out; have := ZZ44.out; have := ZZ46.out; have := ZZ48.out; have := ZZaW.out; have := ZZ49.out; have := ZZgW.out; have := ZZ51.out; have := ZZ54.out; have := ZZ57.out; have := ZZ60.out; have := ZZ63.out; have := ZZ66.out; have := ZZ68.out; have := ZZ70.out; have := ZZ72.out; have := ZZ74.out; have := ZZ77.out; have := ZZ78.out; have := ZZ81.out; omega)))
    have OWx282 := Lib.hid (OWx281.out.wrote hw (fun p hp => by have := hs p hp; have := ZZ42.out; have := ZZ44.out; have := ZZ46.out; have := ZZ48.out; have := ZZaW.out; have := ZZ49.out; have := ZZgW.out; have := ZZ51.out; have := ZZ54.out; have := ZZ57.out; have := ZZ60.out; have := ZZ63.out; have := ZZ66.out; have := ZZ68.out; have := ZZ70.out; have := ZZ72.out; have := ZZ74.out; have := ZZ77.out; have := ZZ78.out; have := ZZ81.out; omega))
    have OWx382 := Lib.hid (OWx381.out.wrote hw (fun p hp => by have := hs p hp; have := ZZ42.out; have := ZZ44.out; have := ZZ46.out; have := ZZ48.out; have := ZZaW.out; have := ZZ49.out; have := ZZgW.out; have := ZZ51.out; have := ZZ54.out; have := ZZ57.out; have := ZZ60.out; have := ZZ63.out; have := ZZ66.out; have := ZZ68.out; have := ZZ70.out; have := ZZ72.out; have := ZZ74.out; have := ZZ77.out; have := ZZ78.out; have := ZZ81.out; omega))
    have OWG82 := Lib.hid (OWG81.out.wrote hw (fun p hp => by have := hs p hp; have := ZZ42.out; have := ZZ44.out; have := ZZ46.out; have := ZZ48.out; have := ZZaW.out; have := ZZ49.out; have := ZZgW.out; have := ZZ51.out; have := ZZ54.out; have := ZZ57.out; have := ZZ60.out; have := ZZ63.out; have := ZZ66.out; have := ZZ68.out; have := ZZ70.out; have := ZZ72.out; have := ZZ74.out; have := ZZ77.out; have := ZZ78.out; have := ZZ81.out; omega))
    have KBp082 := Lib.hid (KBp081.out.wrote hw (fun p hp e => by have := hs p hp; have := ZZ42.out; have := ZZ44.out; have := ZZ46.out; have := ZZ48.out; have := ZZaW.out; have := ZZ49.out; have := ZZgW.out; have := ZZ51.out; have := ZZ54.out; have := ZZ57.out; have := ZZ60.out; have := ZZ63.out; have := ZZ66.out; have := ZZ68.out; have := ZZ70.out; have := ZZ72.out; have := ZZ74.out; have := ZZ77.out; have := ZZ78.out; have := ZZ81.out; omega))
    have KBp182 := Lib.hid (KBp181.out.wrote hw (fun p hp e => by have := hs p hp; have := ZZ42.out; have := ZZ44.out; have := ZZ46.out; have := ZZ48.out; have := ZZaW.out; have := ZZ49.out; have := ZZgW.out; have := ZZ51.out; have := ZZ54.out; have := ZZ57.out; have := ZZ60.out; have := ZZ63.out; have := ZZ66.out; have := ZZ68.out; have := ZZ70.out; have := ZZ72.out; have := ZZ74.out; have := ZZ77.out; have := ZZ78.out; have := ZZ81.out; omega))
    have KBp282 := Lib.hid (KBp281.out.wrote hw (fun p hp e => by have := hs p hp; have := ZZ42.out; have := ZZ44.out; have := ZZ46.out; have := ZZ48.out; have := ZZaW.out; have := ZZ49.out; have := ZZgW.out; have := ZZ51.out; have := ZZ54.out; have := ZZ57.out; have := ZZ60.out; have := ZZ63.out; have := ZZ66.out; have := ZZ68.out; have := ZZ70.out; have := ZZ72.out; have := ZZ74.out; have := ZZ77.out; have := ZZ78.out; have := ZZ81.out; omega))
    have KBp382 := Lib.hid (KBp381.out.wrote hw (fun p hp e => by have := hs p hp; have := ZZ42.out; have := ZZ44.out; have := ZZ46.out; have := ZZ48.out; have := ZZaW.out; have := ZZ49.out; have := ZZgW.out; have := ZZ51.out; have := ZZ54.out; have := ZZ57.out; have := ZZ60.out; have := ZZ63.out; have := ZZ66.out; have := ZZ68.out; have := ZZ70.out; have := ZZ72.out; have := ZZ74.out; have := ZZ77.out; have := ZZ78.out; have := ZZ81.out; omega))
    have KBbW82 := Lib.hid (KBbW81.out.wrote hw (fun p hp e => by have := hs p hp; have := ZZ42.out; have := ZZ44.out; have := ZZ46.out; have := ZZ48.out; have := ZZaW.out; have := ZZ49.out; have := ZZgW.out; have := ZZ51.out; have := ZZ54.out; have := ZZ57.out; have := ZZ60.out; have := ZZ63.out; have := ZZ66.out; have := ZZ68.out; have := ZZ70.out; have := ZZ72.out; have := ZZ74.out; have := ZZ77.out; have := ZZ78.out; have := ZZ81.out; omega))
    have KBbx082 := Lib.hid (KBbx081.out.wrote hw (fun p hp e => by have := hs p hp; have := ZZ42.out; have := ZZ44.out; have := ZZ46.out; have := ZZ48.out; have := ZZaW.out; have := ZZ49.out; have := ZZgW.out; have := ZZ51.out; have := ZZ54.out; have := ZZ57.out; have := ZZ60.out; have := ZZ63.out; have := ZZ66.out; have := ZZ68.out; have := ZZ70.out; have := ZZ72.out; have := ZZ74.out; have := ZZ77.out; have := ZZ78.out; have := ZZ81.out; omega))
    have KBbx182 := Lib.hid (KBbx181.out.wrote hw (fun p hp e => by have := hs p hp; have := ZZ42.out; have := ZZ44.out; have := ZZ46.out; have := ZZ48.out; have := ZZaW.out; have := ZZ49.out; have := ZZgW.out; have := ZZ51.out; have := ZZ54.out; have := ZZ57.out; have := ZZ60.out; have := ZZ63.out; have := ZZ66.out; have := ZZ68.out; have := ZZ70.out; have := ZZ72.out; have := ZZ74.out; have := ZZ77.out; have := ZZ78.out; have := ZZ81.out; omega))
    have KBbx282 := Lib.hid (KBbx281.out.wrote hw (fun p hp e => by have := hs p hp; have := ZZ42.out; have := ZZ44.out; have := ZZ46.out; have := ZZ48.out; have := ZZaW.out; have := ZZ49.out; have := ZZgW.out; have := ZZ51.out; have := ZZ54.out; have := ZZ57.out; have := ZZ60.out; have := ZZ63.out; have := ZZ66.out; have := ZZ68.out; have := ZZ70.out; have := ZZ72.out; have := ZZ74.out; have := ZZ77.out; have := ZZ78.out; have := ZZ81.out; omega))
    have KBbx382 := Lib.hid (KBbx381.out.wrote hw (fun p hp e => by have := hs p hp; have := ZZ42.out; have := ZZ44.out; have := ZZ46.out; have := ZZ48.out; have := ZZaW.out; have := ZZ49.out; have := ZZgW.out; have := ZZ51.out; have := ZZ54.out; have := ZZ57.out; have := ZZ60.out; have := ZZ63.out; have := ZZ66.out; have := ZZ68.out; have := ZZ70.out; have := ZZ72.out; have := ZZ74.out; have := ZZ77.out; have := ZZ78.out; have := ZZ81.out; omega))
    have KBbG82 := Lib.hid (KBbG81.out.wrote hw (fun p hp e => by have := hs p hp; have := ZZ42.out; have := ZZ44.out; have := ZZ46.out; have := ZZ48.out; have := ZZaW.out; have := ZZ49.out; have := ZZgW.out; have := ZZ51.out; have := ZZ54.out; have := ZZ57.out; have := ZZ60.out; have := ZZ63.out; have := ZZ66.out; have := ZZ68.out; have := ZZ70.out; have := ZZ72.out; have := ZZ74.out; have := ZZ77.out; have := ZZ78.out; have := ZZ81.out; omega))
    have ZZ82 : Hid (wl80.heap.size ≤ wm79.heap.size) := Lib.hid (by have := hw.size; omega)
    clear BE81 HBW81 OWx281 OWx381 OWG81 KBp081 KBp181 KBp281 KBp381 KBbW81 KBbx081 KBbx181 KBbx281 KBbx381 KBbG81
    obtain ⟨p0c0, p0c1, p0c2, p0c3, p0c4⟩ := four_cells KBp082.out
    obtain ⟨p1c0, p1c1, p1c2, p1c3, p1c4⟩ := four_cells KBp182.out
    obtain ⟨p2c0, p2c1, p2c2, p2c3⟩ := scene.three_cells KBp282.out
    obtain ⟨p3c0, p3c1, p3c2, p3c3⟩ := scene.three_cells KBp382.out
    obtain ⟨bWc0, bWc1, bWc2, bWc3, bWc4⟩ := four_cells KBbW82.out
    obtain ⟨bx0c0, bx0c1, bx0c2, bx0c3, bx0c4⟩ := four_cells KBbx082.out
    obtain ⟨bx1c0, bx1c1, bx1c2, bx1c3, bx1c4⟩ := four_cells KBbx182.out
    obtain ⟨bx2c0, bx2c1, bx2c2, bx2c3⟩ := scene.three_cells KBbx282.out
    obtain ⟨bx3c0, bx3c1, bx3c2, bx3c3⟩ := scene.three_cells KBbx382.out
    obtain ⟨bGc0, bGc1, bGc2, bGc3, bGc4⟩ := four_cells KBbG82.out
    clear hb
    clear hw hs
    clear hi
    have bm2 := rws.before_le yss2 yss2.length
    have bl2 := rws.before_le xss2 xss2.length
    go_wp2_with fail
    refine (rule.mark_any _ ss2 _ xss2 _ yss2 (1 + (rws.before xss0 xss0.length : Int) + (rws.before xss1 xss1.length : Int)) (wc53.heap.size + 1) (wc56.heap.size) _ OWx282.out (by have := ZZ42.out; have := ZZ44.out; have := ZZ46.out; have := ZZ48.out; have := ZZaW.out; have := ZZ49.out; have := ZZgW.out; have := ZZ51.out; have := ZZ54.out; have := ZZ57.out; have := ZZ60.out; have := ZZ63.out; have := ZZ66.out; have := ZZ68.out; have := ZZ70.out; have := ZZ72.out; have := ZZ74.out; have := ZZ77.out; have := ZZ78.out; have := ZZ81.out; have := ZZ82.out; omega) hn2 hm2 hk2 (by omega) (by omega)).mono ?_
    rintro e wm83 ⟨rfl, hi, S, wl84, hb, hw, hs⟩
    clear OWx282
    clear p0c0 p0c1 p0c2 p0c3 p0c4 p1c0 p1c1 p1c2 p1c3 p1c4 p2c0 p2c1 p2c2 p2c3 p3c0 p3c1 p3c2 p3c3 bWc0 bWc1 bWc2 bWc3 bWc4 bx0c0 bx0c1 bx0c2 bx0c3 bx0c4 bx1c0 bx1c1 bx1c2 bx1c3 bx1c4 bx2c0 bx2c1 bx2c2 bx2c3 bx3c0 bx3c1 bx3c2 bx3c3 bGc0 bGc1 bGc2 bGc3 bGc4
    have BE85 := Lib.hid (below_tr BE82.out hb)
    have HBW85 := Lib.hid (below_tr HBW82.out hb)
    have OWx385 := Lib.hid (OWx382.out.keep hb)
    have OWG85 := Lib.hid (OWG82.out.keep hb)
    have KBp085 := Lib.hid (KBp082.out.below hb)
    have KBp185 := Lib.hid (KBp182.out.below hb)
    have KBp285 := Lib.hid (KBp282.out.below hb)
    have KBp385 := Lib.hid (KBp382.out.below hb)
    have KBbW85 := Lib.hid (KBbW82.out.below hb)
    have KBbx085 := Lib.hid (KBbx082.out.below hb)
    have KBbx185 := Lib.hid (KBbx182.out.below hb)
    have KBbx285 := Lib.hid (KBbx282.out.below hb)
    have KBbx385 := Lib.hid (KBbx382.out.below hb)
    have KBbG85 := Lib.hid (KBbG82.out.below hb)
    have ZZ85 : Hid (wm79.heap.size ≤ wl84.heap.size) := Lib.hid (by have := (hb).size; simpa using this)
    clear BE82 HBW82 OWx382 OWG82 KBp082 KBp182 KBp282 KBp382 KBbW82 KBbx082 KBbx182 KBbx282 KBbx382 KBbG82
    obtain ⟨p0c0, p0c1, p0c2, p0c3, p0c4⟩ := four_cells KBp085.out
    obtain ⟨p1c0, p1c1, p1c2, p1c3, p1c4⟩ := four_cells KBp185.out
    obtain ⟨p2c0, p2c1, p2c2, p2c3⟩ := scene.three_cells KBp285.out
    obtain ⟨p3c0, p3c1, p3c2, p3c3⟩ := scene.three_cells KBp385.out
    obtain ⟨bWc0, bWc1, bWc2, bWc3, bWc4⟩ := four_cells KBbW85.out
    obtain ⟨bx0c0, bx0c1, bx0c2, bx0c3, bx0c4⟩ := four_cells KBbx085.out
    obtain ⟨bx1c0, bx1c1, bx1c2, bx1c3, bx1c4⟩ := four_cells KBbx185.out
    obtain ⟨bx2c0, bx2c1, bx2c2, bx2c3⟩ := scene.three_cells KBbx285.out
    obtain ⟨bx3c0, bx3c1, bx3c2, bx3c3⟩ := scene.three_cells KBbx385.out
    obtain ⟨bGc0, bGc1, bGc2, bGc3, bGc4⟩ := four_cells KBbG85.out
    clear p0c0 p0c1 p0c2 p0c3 p0c4 p1c0 p1c1 p1c2 p1c3 p1c4 p2c0 p2c1 p2c2 p2c3 p3c0 p3c1 p3c2 p3c3 bWc0 bWc1 bWc2 bWc3 bWc4 bx0c0 bx0c1 bx0c2 bx0c3 bx0c4 bx1c0 bx1c1 bx1c2 bx1c3 bx1c4 bx2c0 bx2c1 bx2c2 bx2c3 bx3c0 bx3c1 bx3c2 bx3c3 bGc0 bGc1 bGc2 bGc3 bGc4
    have BE86 := Lib.hid (BE85.out.trans (hw.below (fun p hp => by have := (hs p hp).1; have := ZZ42.out; have := ZZ44.out; have := ZZ46.out; have := ZZ48.out; have := ZZaW.out; have := ZZ49.out; have := ZZgW.out; have := ZZ51.out; have := ZZ54.out; have := ZZ57.out; have := ZZ60.out; have := ZZ63.out; have := ZZ66.out; have := ZZ68.out; have := ZZ70.out; have := ZZ72.out; have := ZZ74.out; have := ZZ77.out; have := ZZ78.out; have := ZZ81.out; have := ZZ82.out; have := ZZ85.out; omega)))
    have HBW86 := Lib.hid (HBW85.out.trans (hw.below (fun p hp => by have := (hs p hp).1; have := ZZ42.out; have := ZZ44.out; have := ZZ46.out; have := ZZ48.out; have := ZZaW.out; have := ZZ49.out; have := ZZgW.out; have := ZZ51.out; have := ZZ54.out; have := ZZ57.out; have := ZZ60.out; have := ZZ63.out; have := ZZ66.out; have := ZZ68.out; have := ZZ70.out; have := ZZ72.out; have := ZZ74.out; have := ZZ77.out; have := ZZ78.out; have := ZZ81.out; have := ZZ82.out; have := ZZ85.out; omega)))
    have OWx386 := Lib.hid (OWx385.out.wrote hw (fun p hp => by have := hs p hp; have := ZZ42.out; have := ZZ44.out; have := ZZ46.out; have := ZZ48.out; have := ZZaW.out; have := ZZ49.out; have := ZZgW.out; have := ZZ51.out; have := ZZ54.out; have := ZZ57.out; have := ZZ60.out; have := ZZ63.out; have := ZZ66.out; have := ZZ68.out; have := ZZ70.out; have := ZZ72.out; have := ZZ74.out; have := ZZ77.out; have := ZZ78.out; have := ZZ81.out; have := ZZ82.out; have := ZZ85.out; omega))
    have OWG86 := Lib.hid (OWG85.out.wrote hw (fun p hp => by have := hs p hp; have := ZZ42.out; have := ZZ44.out; have := ZZ46.out; have := ZZ48.out; have := ZZaW.out; have := ZZ49.out; have := ZZgW.out; have := ZZ51.out; have := ZZ54.out; have := ZZ57.out; have := ZZ60.out; have := ZZ63.out; have := ZZ66.out; have := ZZ68.out; have := ZZ70.out; have := ZZ72.out; have := ZZ74.out; have := ZZ77.out; have := ZZ78.out; have := ZZ81.out; have := ZZ82.out; have := ZZ85.out; omega))
    have KBp086 := Lib.hid (KBp085.out.wrote hw (fun p hp e => by have := hs p hp; have := ZZ42.out; have := ZZ44.out; have := ZZ46.out; have := ZZ48.out; have := ZZaW.out; have := ZZ49.out; have := ZZgW.out; have := ZZ51.out; have := ZZ54.out; have := ZZ57.out; have := ZZ60.out; have := ZZ63.out; have := ZZ66.out; have := ZZ68.out; have := ZZ70.out; have := ZZ72.out; have := ZZ74.out; have := ZZ77.out; have := ZZ78.out; have := ZZ81.out; have := ZZ82.out; have := ZZ85.out; omega))
    have KBp186 := Lib.hid (KBp185.out.wrote hw (fun p hp e => by have := hs p hp; have := ZZ42.out; have := ZZ44.out; have := ZZ46.out; have := ZZ48.out; have := ZZaW.out; have := ZZ49.out; have := ZZgW.out; have := ZZ51.out; have := ZZ54.out; have := ZZ57.out; have := ZZ60.out; have := ZZ63.out; have := ZZ66.out; have := ZZ68.out; have := ZZ70.out; have := ZZ72.out; have := ZZ74.out; have := ZZ77.out; have := ZZ78.out; have := ZZ81.out; have := ZZ82.out; have := ZZ85.out; omega))
    have KBp286 := Lib.hid (KBp285.out.wrote hw (fun p hp e => by have := hs p hp; have := ZZ42.out; have := ZZ44.out; have := ZZ46.out; have := ZZ48.out; have := ZZaW.out; have := ZZ49.out; have := ZZgW.out; have := ZZ51.out; have := ZZ54.out; have := ZZ57.out; have := ZZ60.out; have := ZZ63.out; have := ZZ66.out; have := ZZ68.out; have := ZZ70.out; have := ZZ72.out; have := ZZ74.out; have := ZZ77.out; have := ZZ78.out; have := ZZ81.out; have := ZZ82.out; have := ZZ85.out; omega))
    have KBp386 := Lib.hid (KBp385.out.wrote hw (fun p hp e => by have := hs p hp; have := ZZ42.out; have := ZZ44.out; have := ZZ46.out; have := ZZ48.out; have := ZZaW.out; have := ZZ49.out; have := ZZgW.out; have := ZZ51.out; have := ZZ54.out; have := ZZ57.out; have := ZZ60.out; have := ZZ63.out; have := ZZ66.out; have := ZZ68.out; have := ZZ70.out; have := ZZ72.out; have := ZZ74.out; have := ZZ77.out; have := ZZ78.out; have := ZZ81.out; have := ZZ82.out; have := ZZ85.out; omega))
    have KBbW86 := Lib.hid (KBbW85.out.wrote hw (fun p hp e => by have := hs p hp; have := ZZ42.out; have := ZZ44.out; have := ZZ46.out; have := ZZ48.out; have := ZZaW.out; have := ZZ49.out; have := ZZgW.out; have := ZZ51.out; have := ZZ54.out; have := ZZ57.out; have := ZZ60.out; have := ZZ63.out; have := ZZ66.out; have := ZZ68.out; have := ZZ70.out; have := ZZ72.out; have := ZZ74.out; have := ZZ77.out; have := ZZ78.out; have := ZZ81.out; have := ZZ82.out; have := ZZ85.out; omega))
    have KBbx086 := Lib.hid (KBbx085.out.wrote hw (fun p hp e => by have := hs p hp; have := ZZ42.out; have := ZZ44.out; have := ZZ46.out; have := ZZ48.out; have := ZZaW.out; have := ZZ49.out; have := ZZgW.out; have := ZZ51.out; have := ZZ54.out; have := ZZ57.out; have := ZZ60.out; have := ZZ63.out; have := ZZ66.out; have := ZZ68.out; have := ZZ70.out; have := ZZ72.out; have := ZZ74.out; have := ZZ77.out; have := ZZ78.out; have := ZZ81.out; have := ZZ82.out; have := ZZ85.out; omega))
    have KBbx186 := Lib.hid (KBbx185.out.wrote hw (fun p hp e => by have := hs p hp; have := ZZ42.out; have := ZZ44.out; have := ZZ46.out; have := ZZ48.out; have := ZZaW.out; have := ZZ49.out; have := ZZgW.out; have := ZZ51.out; have := ZZ54.out; have := ZZ57.out; have := ZZ60.out; have := ZZ63.out; have := ZZ66.out; have := ZZ68.out; have := ZZ70.out; have := ZZ72.out; have := ZZ74.out; have := ZZ77.out; have := ZZ78.out; have := ZZ81.out; have := ZZ82.out; have := ZZ85.out; omega))
    have KBbx286 := Lib.hid (KBbx285.out.wrote hw (fun p hp e => by have := hs p hp; have := ZZ42.out; have := ZZ44.out; have := ZZ46.out; have := ZZ48.out; have := ZZaW.out; have := ZZ49.out; have := ZZgW.out; have := ZZ51.out; have := ZZ54.out; have := ZZ57.out; have := ZZ60.out; have := ZZ63.out; have := ZZ66.out; have := ZZ68.out; have := ZZ70.out; have := ZZ72.out; have := ZZ74.out; have := ZZ77.out; have := ZZ78.out; have := ZZ81.out; have := ZZ82.out; have := ZZ85.out; omega))
    have KBbx386 := Lib.hid (KBbx385.out.wrote hw (fun p hp e => by have := hs p hp; have := ZZ42.out; have := ZZ44.out; have := ZZ46.out; have := ZZ48.out; have := ZZaW.out; have := ZZ49.out; have := ZZgW.out; have := ZZ51.out; have := ZZ54.out; have := ZZ57.out; have := ZZ60.out; have := ZZ63.out; have := ZZ66.out; have := ZZ68.out; have := ZZ70.out; have := ZZ72.out; have := ZZ74.out; have := ZZ77.out; have := ZZ78.out; have := ZZ81.out; have := ZZ82.out; have := ZZ85.out; omega))
    have KBbG86 := Lib.hid (KBbG85.out.wrote hw (fun p hp e => by have := hs p hp; have := ZZ42.out; have := ZZ44.out; have := ZZ46.out; have := ZZ48.out; have := ZZaW.out; have := ZZ49.out; have := ZZgW.out; have := ZZ51.out; have := ZZ54.out; have := ZZ57.out; have := ZZ60.out; have := ZZ63.out; have := ZZ66.out; have := ZZ68.out; have := ZZ70.out; have := ZZ72.out; have := ZZ74.out; have := ZZ77.out; have := ZZ78.out; have := ZZ81.out; have := ZZ82.out; have := ZZ85.out; omega))
    have ZZ86 : Hid (wl84.heap.size ≤ wm83.heap.size) := Lib.hid (by have := hw.size; omega)
    clear BE85 HBW85 OWx385 OWG85 KBp085 KBp185 KBp285 KBp385 KBbW85 KBbx085 KBbx185 KBbx285 KBbx385 KBbG85
    obtain ⟨p0c0, p0c1, p0c2, p0c3, p0c4⟩ := four_cells KBp086.out
    obtain ⟨p1c0, p1c1, p1c2, p1c3, p1c4⟩ := four_cells KBp186.out
    obtain ⟨p2c0, p2c1, p2c2, p2c3⟩ := scene.three_cells KBp286.out
    obtain ⟨p3c0, p3c1, p3c2, p3c3⟩ := scene.three_cells KBp386.out
    obtain ⟨bWc0, bWc1, bWc2, bWc3, bWc4⟩ := four_cells KBbW86.out
    obtain ⟨bx0c0, bx0c1, bx0c2, bx0c3, bx0c4⟩ := four_cells KBbx086.out
    obtain ⟨bx1c0, bx1c1, bx1c2, bx1c3, bx1c4⟩ := four_cells KBbx186.out
    obtain ⟨bx2c0, bx2c1, bx2c2, bx2c3⟩ := scene.three_cells KBbx286.out
    obtain ⟨bx3c0, bx3c1, bx3c2, bx3c3⟩ := scene.three_cells KBbx386.out
    obtain ⟨bGc0, bGc1, bGc2, bGc3, bGc4⟩ := four_cells KBbG86.out
    clear hb
    clear hw hs
    clear hi
    have bm3 := rws.before_le yss3 yss3.length
    have bl3 := rws.before_le xss3 xss3.length
    go_wp2_with fail
    refine (rule.mark_any _ ss3 _ xss3 _ yss3 (1 + (rws.before xss0 xss0.length : Int) + (rws.before xss1 xss1.length : Int) + (ss2.length : Int) + (rws.before xss2 xss2.length : Int) + (rws.before yss2 yss2.length : Int)) (wc56.heap.size + 1) (wc59.heap.size) _ OWx386.out (by have := ZZ42.out; have := ZZ44.out; have := ZZ46.out; have := ZZ48.out; have := ZZaW.out; have := ZZ49.out; have := ZZgW.out; have := ZZ51.out; have := ZZ54.out; have := ZZ57.out; have := ZZ60.out; have := ZZ63.out; have := ZZ66.out; have := ZZ68.out; have := ZZ70.out; have := ZZ72.out; have := ZZ74.out; have := ZZ77.out; have := ZZ78.out; have := ZZ81.out; have := ZZ82.out; have := ZZ85.out; have := ZZ86.out; omega) hn3 hm3 hk3 (by omega) (by omega)).mono ?_
    rintro e wm87 ⟨rfl, hi, S, wl88, hb, hw, hs⟩
    clear OWx386
    clear p0c0 p0c1 p0c2 p0c3 p0c4 p1c0 p1c1 p1c2 p1c3 p1c4 p2c0 p2c1 p2c2 p2c3 p3c0 p3c1 p3c2 p3c3 bWc0 bWc1 bWc2 bWc3 bWc4 bx0c0 bx0c1 bx0c2 bx0c3 bx0c4 bx1c0 bx1c1 bx1c2 bx1c3 bx1c4 bx2c0 bx2c1 bx2c2 bx2c3 bx3c0 bx3c1 bx3c2 bx3c3 bGc0 bGc1 bGc2 bGc3 bGc4
    have BE89 := Lib.hid (below_tr BE86.out hb)
    have HBW89 := Lib.hid (below_tr HBW86.out hb)
    have OWG89 := Lib.hid (OWG86.out.keep hb)
    have KBp089 := Lib.hid (KBp086.out.below hb)
    have KBp189 := Lib.hid (KBp186.out.below hb)
    have KBp289 := Lib.hid (KBp286.out.below hb)
    have KBp389 := Lib.hid (KBp386.out.below hb)
    have KBbW89 := Lib.hid (KBbW86.out.below hb)
    have KBbx089 := Lib.hid (KBbx086.out.below hb)
    have KBbx189 := Lib.hid (KBbx186.out.below hb)
    have KBbx289 := Lib.hid (KBbx286.out.below hb)
    have KBbx389 := Lib.hid (KBbx386.out.below hb)
    have KBbG89 := Lib.hid (KBbG86.out.below hb)
    have ZZ89 : Hid (wm83.heap.size ≤ wl88.heap.size) := Lib.hid (by have := (hb).size; simpa using this)
    clear BE86 HBW86 OWG86 KBp086 KBp186 KBp286 KBp386 KBbW86 KBbx086 KBbx186 KBbx286 KBbx386 KBbG86
    obtain ⟨p0c0, p0c1, p0c2, p0c3, p0c4⟩ := four_cells KBp089.out
    obtain ⟨p1c0, p1c1, p1c2, p1c3, p1c4⟩ := four_cells KBp189.out
    obtain ⟨p2c0, p2c1, p2c2, p2c3⟩ := scene.three_cells KBp289.out
    obtain ⟨p3c0, p3c1, p3c2, p3c3⟩ := scene.three_cells KBp389.out
    obtain ⟨bWc0, bWc1, bWc2, bWc3, bWc4⟩ := four_cells KBbW89.out
    obtain ⟨bx0c0, bx0c1, bx0c2, bx0c3, bx0c4⟩ := four_cells KBbx089.out
    obtain ⟨bx1c0, bx1c1, bx1c2, bx1c3, bx1c4⟩ := four_cells KBbx189.out
    obtain ⟨bx2c0, bx2c1, bx2c2, bx2c3⟩ := scene.three_cells KBbx289.out
    obtain ⟨bx3c0, bx3c1, bx3c2, bx3c3⟩ := scene.three_cells KBbx389.out
    obtain ⟨bGc0, bGc1, bGc2, bGc3, bGc4⟩ := four_cells KBbG89.out
    clear p0c0 p0c1 p0c2 p0c3 p0c4 p1c0 p1c1 p1c2 p1c3 p1c4 p2c0 p2c1 p2c2 p2c3 p3c0 p3c1 p3c2 p3c3 bWc0 bWc1 bWc2 bWc3 bWc4 bx0c0 bx0c1 bx0c2 bx0c3 bx0c4 bx1c0 bx1c1 bx1c2 bx1c3 bx1c4 bx2c0 bx2c1 bx2c2 bx2c3 bx3c0 bx3c1 bx3c2 bx3c3 bGc0 bGc1 bGc2 bGc3 bGc4
    have BE90 := Lib.hid (BE89.out.trans (hw.below (fun p hp => by have := (hs p hp).1; have := ZZ42.out; have := ZZ44.out; have := ZZ46.out; have := ZZ48.out; have := ZZaW.out; have := ZZ49.out; have := ZZgW.out; have := ZZ51.out; have := ZZ54.out; have := ZZ57.out; have := ZZ60.out; have := ZZ63.out; have := ZZ66.out; have := ZZ68.out; have := ZZ70.out; have := ZZ72.out; have := ZZ74.out; have := ZZ77.out; have := ZZ78.out; have := ZZ81.out; have := ZZ82.out; have := ZZ85.out; have := ZZ86.out; have := ZZ89.out; omega)))
    have HBW90 := Lib.hid (HBW89.out.trans (hw.below (fun p hp => by have := (hs p hp).1; have := ZZ42.out; have := ZZ44.out; have := ZZ46.out; have := ZZ48.out; have := ZZaW.out; have := ZZ49.out; have := ZZgW.out; have := ZZ51.out; have := ZZ54.out; have := ZZ57.out; have := ZZ60.out; have := ZZ63.out; have := ZZ66.out; have := ZZ68.out; have := ZZ70.out; have := ZZ72.out; have := ZZ74.out; have := ZZ77.out; have := ZZ78.out; have := ZZ81.out; have := ZZ82.out; have := ZZ85.out; have := ZZ86.out; have := ZZ89.out; omega)))
    have OWG90 := Lib.hid (OWG89.out.wrote hw (fun p hp => by have := hs p hp; have := ZZ42.out; have := ZZ44.out; have := ZZ46.out; have := ZZ48.out; have := ZZaW.out; have := ZZ49.out; have := ZZgW.out; have := ZZ51.out; have := ZZ54.out; have := ZZ57.out; have := ZZ60.out; have := ZZ63.out; have := ZZ66.out; have := ZZ68.out; have := ZZ70.out; have := ZZ72.out; have := ZZ74.out; have := ZZ77.out; have := ZZ78.out; have := ZZ81.out; have := ZZ82.out; have := ZZ85.out; have := ZZ86.out; have := ZZ89.out; omega))
    have KBp090 := Lib.hid (KBp089.out.wrote hw (fun p hp e => by have := hs p hp; have := ZZ42.out; have := ZZ44.out; have := ZZ46.out; have := ZZ48.out; have := ZZaW.out; have := ZZ49.out; have := ZZgW.out; have := ZZ51.out; have := ZZ54.out; have := ZZ57.out; have := ZZ60.out; have := ZZ63.out; have := ZZ66.out; have := ZZ68.out; have := ZZ70.out; have := ZZ72.out; have := ZZ74.out; have := ZZ77.out; have := ZZ78.out; have := ZZ81.out; have := ZZ82.out; have := ZZ85.out; have := ZZ86.out; have := ZZ89.out; omega))
    have KBp190 := Lib.hid (KBp189.out.wrote hw (fun p hp e => by have := hs p hp; have := ZZ42.out; have := ZZ44.out; have := ZZ46.out; have := ZZ48.out; have := ZZaW.out; have := ZZ49.out; have := ZZgW.out; have := ZZ51.out; have := ZZ54.out; have := ZZ57.out; have := ZZ60.out; have := ZZ63.out; have := ZZ66.out; have := ZZ68.out; have := ZZ70.out; have := ZZ72.out; have := ZZ74.out; have := ZZ77.out; have := ZZ78.out; have := ZZ81.out; have := ZZ82.out; have := ZZ85.out; have := ZZ86.out; have := ZZ89.out; omega))
    have KBp290 := Lib.hid (KBp289.out.wrote hw (fun p hp e => by have := hs p hp; have := ZZ42.out; have := ZZ44.out; have := ZZ46.out; have := ZZ48.out; have := ZZaW.out; have := ZZ49.out; have := ZZgW.out; have := ZZ51.out; have := ZZ54.out; have := ZZ57.out; have := ZZ60.out; have := ZZ63.out; have := ZZ66.out; have := ZZ68.out; have := ZZ70.out; have := ZZ72.out; have := ZZ74.out; have := ZZ77.out; have := ZZ78.out; have := ZZ81.out; have := ZZ82.out; have := ZZ85.out; have := ZZ86.out; have := ZZ89.out; omega))
    have KBp390 := Lib.hid (KBp389.out.wrote hw (fun p hp e => by have := hs p hp; have := ZZ42.out; have := ZZ44.out; have := ZZ46.out; have := ZZ48.out; have := ZZaW.out; have := ZZ49.out; have := ZZgW.out; have := ZZ51.out; have := ZZ54.out; have := ZZ57.out; have := ZZ60.out; have := ZZ63.out; have := ZZ66.out; have := ZZ68.out; have := ZZ70.out; have := ZZ72.out; have := ZZ74.out; have := ZZ77.out; have := ZZ78.out; have := ZZ81.out; have := ZZ82.out; have := ZZ85.out; have := ZZ86.out; have := ZZ89.out; omega))
    have KBbW90 := Lib.hid (KBbW89.out.wrote hw (fun p hp e => by have := hs p hp; have := ZZ42.out; have := ZZ44.out; have := ZZ46.out; have := ZZ48.out; have := ZZaW.out; have := ZZ49.out; have := ZZgW.out; have := ZZ51.out; have := ZZ54.out; have := ZZ57.out; have := ZZ60.out; have := ZZ63.out; have := ZZ66.out; have := ZZ68.out; have := ZZ70.out; have := ZZ72.out; have := ZZ74.out; have := ZZ77.out; have := ZZ78.out; have := ZZ81.out; have := ZZ82.out; have := ZZ85.out; have := ZZ86.out; have := ZZ89.out; omega))
    have KBbx090 := Lib.hid (KBbx089.out.wrote hw (fun p hp e => by have := hs p hp; have := ZZ42.out; have := ZZ44.out; have := ZZ46.out; have := ZZ48.out; have := ZZaW.out; have := ZZ49.out; have := ZZgW.out; have := ZZ51.out; have := ZZ54.out; have := ZZ57.out; have := ZZ60.out; have := ZZ63.out; have := ZZ66.out; have := ZZ68.out; have := ZZ70.out; have := ZZ72.out; have := ZZ74.out; have := ZZ77.out; have := ZZ78.out; have := ZZ81.out; have := ZZ82.out; have := ZZ85.out; have := ZZ86.out; have := ZZ89.out; omega))
    have KBbx190 := Lib.hid (KBbx189.out.wrote hw (fun p hp e => by have := hs p hp; have := ZZ42.out; have := ZZ44.out; have := ZZ46.out; have := ZZ48.out; have := ZZaW.out; have := ZZ49.out; have := ZZgW.out; have := ZZ51.out; have := ZZ54.out; have := ZZ57.out; have := ZZ60.out; have := ZZ63.out; have := ZZ66.out; have := ZZ68.out; have := ZZ70.out; have := ZZ72.out; have := ZZ74.out; have := ZZ77.out; have := ZZ78.out; have := ZZ81.out; have := ZZ82.out; have := ZZ85.out; have := ZZ86.out; have := ZZ89.out; omega))
    have KBbx290 := Lib.hid (KBbx289.out.wrote hw (fun p hp e => by have := hs p hp; have := ZZ42.out; have := ZZ44.out; have := ZZ46.out; have := ZZ48.out; have := ZZaW.out; have := ZZ49.out; have := ZZgW.out; have := ZZ51.out; have := ZZ54.out; have := ZZ57.out; have := ZZ60.out; have := ZZ63.out; have := ZZ66.out; have := ZZ68.out; have := ZZ70.out; have := ZZ72.out; have := ZZ74.out; have := ZZ77.out; have := ZZ78.out; have := ZZ81.out; have := ZZ82.out; have := ZZ85.out; have := ZZ86.out; have := ZZ89.out; omega))
    have KBbx390 := Lib.hid (KBbx389.out.wrote hw (fun p hp e => by have := hs p hp; have := ZZ42.out; have := ZZ44.out; have := ZZ46.out; have := ZZ48.out; have := ZZaW.out; have := ZZ49.out; have := ZZgW.out; have := ZZ51.out; have := ZZ54.out; have := ZZ57.out; have := ZZ60.out; have := ZZ63.out; have := ZZ66.out; have := ZZ68.out; have := ZZ70.out; have := ZZ72.out; have := ZZ74.out; have := ZZ77.out; have := ZZ78.out; have := ZZ81.out; have := ZZ82.out; have := ZZ85.out; have := ZZ86.out; have := ZZ89.out; omega))
    have KBbG90 := Lib.hid (KBbG89.out.wrote hw (fun p hp e => by have := hs p hp; have := ZZ42.out; have := ZZ44.out; have := ZZ46.out; have := ZZ48.out; have := ZZaW.out; have := ZZ49.out; have := ZZgW.out; have := ZZ51.out; have := ZZ54.out; have := ZZ57.out; have := ZZ60.out; have := ZZ63.out; have := ZZ66.out; have := ZZ68.out; have := ZZ70.out; have := ZZ72.out; have := ZZ74.out; have := ZZ77.out; have := ZZ78.out; have := ZZ81.out; have := ZZ82.out; have := ZZ85.out; have := ZZ86.out; have := ZZ89.out; omega))
    have ZZ90 : Hid (wl88.heap.size ≤ wm87.heap.size) := Lib.hid (by have := hw.size; omega)
    clear BE89 HBW89 OWG89 KBp089 KBp189 KBp289 KBp389 KBbW89 KBbx089 KBbx189 KBbx289 KBbx389 KBbG89
    obtain ⟨p0c0, p0c1, p0c2, p0c3, p0c4⟩ := four_cells KBp090.out
    obtain ⟨p1c0, p1c1, p1c2, p1c3, p1c4⟩ := four_cells KBp190.out
    obtain ⟨p2c0, p2c1, p2c2, p2c3⟩ := scene.three_cells KBp290.out
    obtain ⟨p3c0, p3c1, p3c2, p3c3⟩ := scene.three_cells KBp390.out
    obtain ⟨bWc0, bWc1, bWc2, bWc3, bWc4⟩ := four_cells KBbW90.out
    obtain ⟨bx0c0, bx0c1, bx0c2, bx0c3, bx0c4⟩ := four_cells KBbx090.out
    obtain ⟨bx1c0, bx1c1, bx1c2, bx1c3, bx1c4⟩ := four_cells KBbx190.out
    obtain ⟨bx2c0, bx2c1, bx2c2, bx2c3⟩ := scene.three_cells KBbx290.out
    obtain ⟨bx3c0, bx3c1, bx3c2, bx3c3⟩ := scene.three_cells KBbx390.out
    obtain ⟨bGc0, bGc1, bGc2, bGc3, bGc4⟩ := four_cells KBbG90.out
    clear hb
    clear hw hs
    clear hi
    have dk : decide (1 + (rws.before xss0 xss0.length : Int) + (rws.before xss1 xss1.length : Int) + (ss2.length : Int) + (rws.before xss2 xss2.length : Int) + (rws.before yss2 yss2.length : Int) + (ss3.length : Int) + (rws.before xss3 xss3.length : Int) + (rws.before yss3 yss3.length : Int) < 0) = false := by simp; omega
    have dk' : ¬ (1 + (rws.before xss0 xss0.length : Int) + (rws.before xss1 xss1.length : Int) + (ss2.length : Int) + (rws.before xss2 xss2.length : Int) + (rws.before yss2 yss2.length : Int) + (ss3.length : Int) + (rws.before xss3 xss3.length : Int) + (rws.before yss3 yss3.length : Int) < 0) := by omega
    go_wp2_with fail
    refine (box.eq_same ((wrm.res x0 y0 wh0 xss0 x1 y1 wh1 xss1 ss2 xss2 yss2 ss3 xss3 yss3).x) ((wrm.res x0 y0 wh0 xss0 x1 y1 wh1 xss1 ss2 xss2 yss2 ss3 xss3 yss3).y) ((wrm.res x0 y0 wh0 xss0 x1 y1 wh1 xss1 ss2 xss2 yss2 ss3 xss3 yss3).wh) _ _ ((wrm.res x0 y0 wh0 xss0 x1 y1 wh1 xss1 ss2 xss2 yss2 ss3 xss3 yss3).rows) _ OWG90.out.rows (VWW.out.below HBW90.out) wrm.tot_res).mono ?_
    rintro e we91 ⟨rfl, hb⟩
    clear p0c0 p0c1 p0c2 p0c3 p0c4 p1c0 p1c1 p1c2 p1c3 p1c4 p2c0 p2c1 p2c2 p2c3 p3c0 p3c1 p3c2 p3c3 bWc0 bWc1 bWc2 bWc3 bWc4 bx0c0 bx0c1 bx0c2 bx0c3 bx0c4 bx1c0 bx1c1 bx1c2 bx1c3 bx1c4 bx2c0 bx2c1 bx2c2 bx2c3 bx3c0 bx3c1 bx3c2 bx3c3 bGc0 bGc1 bGc2 bGc3 bGc4
    have BE92 := Lib.hid (below_tr BE90.out hb)
    have HBW92 := Lib.hid (below_tr HBW90.out hb)
    have OWG92 := Lib.hid (OWG90.out.keep hb)
    have KBp092 := Lib.hid (KBp090.out.below hb)
    have KBp192 := Lib.hid (KBp190.out.below hb)
    have KBp292 := Lib.hid (KBp290.out.below hb)
    have KBp392 := Lib.hid (KBp390.out.below hb)
    have KBbW92 := Lib.hid (KBbW90.out.below hb)
    have KBbx092 := Lib.hid (KBbx090.out.below hb)
    have KBbx192 := Lib.hid (KBbx190.out.below hb)
    have KBbx292 := Lib.hid (KBbx290.out.below hb)
    have KBbx392 := Lib.hid (KBbx390.out.below hb)
    have KBbG92 := Lib.hid (KBbG90.out.below hb)
    have ZZ92 : Hid (wm87.heap.size ≤ we91.heap.size) := Lib.hid (by have := (hb).size; simpa using this)
    clear BE90 HBW90 OWG90 KBp090 KBp190 KBp290 KBp390 KBbW90 KBbx090 KBbx190 KBbx290 KBbx390 KBbG90
    obtain ⟨p0c0, p0c1, p0c2, p0c3, p0c4⟩ := four_cells KBp092.out
    obtain ⟨p1c0, p1c1, p1c2, p1c3, p1c4⟩ := four_cells KBp192.out
    obtain ⟨p2c0, p2c1, p2c2, p2c3⟩ := scene.three_cells KBp292.out
    obtain ⟨p3c0, p3c1, p3c2, p3c3⟩ := scene.three_cells KBp392.out
    obtain ⟨bWc0, bWc1, bWc2, bWc3, bWc4⟩ := four_cells KBbW92.out
    obtain ⟨bx0c0, bx0c1, bx0c2, bx0c3, bx0c4⟩ := four_cells KBbx092.out
    obtain ⟨bx1c0, bx1c1, bx1c2, bx1c3, bx1c4⟩ := four_cells KBbx192.out
    obtain ⟨bx2c0, bx2c1, bx2c2, bx2c3⟩ := scene.three_cells KBbx292.out
    obtain ⟨bx3c0, bx3c1, bx3c2, bx3c3⟩ := scene.three_cells KBbx392.out
    obtain ⟨bGc0, bGc1, bGc2, bGc3, bGc4⟩ := four_cells KBbG92.out
    clear hb
    have blr := Nat.le_trans (rws.before_le ((wrm.res x0 y0 wh0 xss0 x1 y1 wh1 xss1 ss2 xss2 yss2 ss3 xss3 yss3).rows) ((wrm.res x0 y0 wh0 xss0 x1 y1 wh1 xss1 ss2 xss2 yss2 ss3 xss3 yss3).rows).length) wrm.tot_res
    have dq : ¬ (1 + (rws.before ((wrm.res x0 y0 wh0 xss0 x1 y1 wh1 xss1 ss2 xss2 yss2 ss3 xss3 yss3).rows) ((wrm.res x0 y0 wh0 xss0 x1 y1 wh1 xss1 ss2 xss2 yss2 ss3 xss3 yss3).rows).length : Int) < 0) := by omega
    have tq : ((1 + (rws.before ((wrm.res x0 y0 wh0 xss0 x1 y1 wh1 xss1 ss2 xss2 yss2 ss3 xss3 yss3).rows) ((wrm.res x0 y0 wh0 xss0 x1 y1 wh1 xss1 ss2 xss2 yss2 ss3 xss3 yss3).rows).length : Int)) != (1 + (rws.before ((wrm.res x0 y0 wh0 xss0 x1 y1 wh1 xss1 ss2 xss2 yss2 ss3 xss3 yss3).rows) ((wrm.res x0 y0 wh0 xss0 x1 y1 wh1 xss1 ss2 xss2 yss2 ss3 xss3 yss3).rows).length : Int))) = false := bne_self_eq_false _
    go_wp2_with fail
    refine (box.mark_any ((wrm.res x0 y0 wh0 xss0 x1 y1 wh1 xss1 ss2 xss2 yss2 ss3 xss3 yss3).x) ((wrm.res x0 y0 wh0 xss0 x1 y1 wh1 xss1 ss2 xss2 yss2 ss3 xss3 yss3).y) ((wrm.res x0 y0 wh0 xss0 x1 y1 wh1 xss1 ss2 xss2 yss2 ss3 xss3 yss3).wh) _ ((wrm.res x0 y0 wh0 xss0 x1 y1 wh1 xss1 ss2 xss2 yss2 ss3 xss3 yss3).rows) (1) (wc59.heap.size + 1) (wf62.heap.size) _ OWG92.out wrm.tot_res (by omega) (by omega)).mono ?_
    rintro e wm93 ⟨rfl, hi, S, wl94, hb, hw, hs⟩
    clear OWG92
    clear p0c0 p0c1 p0c2 p0c3 p0c4 p1c0 p1c1 p1c2 p1c3 p1c4 p2c0 p2c1 p2c2 p2c3 p3c0 p3c1 p3c2 p3c3 bWc0 bWc1 bWc2 bWc3 bWc4 bx0c0 bx0c1 bx0c2 bx0c3 bx0c4 bx1c0 bx1c1 bx1c2 bx1c3 bx1c4 bx2c0 bx2c1 bx2c2 bx2c3 bx3c0 bx3c1 bx3c2 bx3c3 bGc0 bGc1 bGc2 bGc3 bGc4
    have BE95 := Lib.hid (below_tr BE92.out hb)
    have HBW95 := Lib.hid (below_tr HBW92.out hb)
    have KBp095 := Lib.hid (KBp092.out.below hb)
    have KBp195 := Lib.hid (KBp192.out.below hb)
    have KBp295 := Lib.hid (KBp292.out.below hb)
    have KBp395 := Lib.hid (KBp392.out.below hb)
    have KBbW95 := Lib.hid (KBbW92.out.below hb)
    have KBbx095 := Lib.hid (KBbx092.out.below hb)
    have KBbx195 := Lib.hid (KBbx192.out.below hb)
    have KBbx295 := Lib.hid (KBbx292.out.below hb)
    have KBbx395 := Lib.hid (KBbx392.out.below hb)
    have KBbG95 := Lib.hid (KBbG92.out.below hb)
    have ZZ95 : Hid (we91.heap.size ≤ wl94.heap.size) := Lib.hid (by have := (hb).size; simpa using this)
    clear BE92 HBW92 KBp092 KBp192 KBp292 KBp392 KBbW92 KBbx092 KBbx192 KBbx292 KBbx392 KBbG92
    obtain ⟨p0c0, p0c1, p0c2, p0c3, p0c4⟩ := four_cells KBp095.out
    obtain ⟨p1c0, p1c1, p1c2, p1c3, p1c4⟩ := four_cells KBp195.out
    obtain ⟨p2c0, p2c1, p2c2, p2c3⟩ := scene.three_cells KBp295.out
    obtain ⟨p3c0, p3c1, p3c2, p3c3⟩ := scene.three_cells KBp395.out
    obtain ⟨bWc0, bWc1, bWc2, bWc3, bWc4⟩ := four_cells KBbW95.out
    obtain ⟨bx0c0, bx0c1, bx0c2, bx0c3, bx0c4⟩ := four_cells KBbx095.out
    obtain ⟨bx1c0, bx1c1, bx1c2, bx1c3, bx1c4⟩ := four_cells KBbx195.out
    obtain ⟨bx2c0, bx2c1, bx2c2, bx2c3⟩ := scene.three_cells KBbx295.out
    obtain ⟨bx3c0, bx3c1, bx3c2, bx3c3⟩ := scene.three_cells KBbx395.out
    obtain ⟨bGc0, bGc1, bGc2, bGc3, bGc4⟩ := four_cells KBbG95.out
    clear p0c0 p0c1 p0c2 p0c3 p0c4 p1c0 p1c1 p1c2 p1c3 p1c4 p2c0 p2c1 p2c2 p2c3 p3c0 p3c1 p3c2 p3c3 bWc0 bWc1 bWc2 bWc3 bWc4 bx0c0 bx0c1 bx0c2 bx0c3 bx0c4 bx1c0 bx1c1 bx1c2 bx1c3 bx1c4 bx2c0 bx2c1 bx2c2 bx2c3 bx3c0 bx3c1 bx3c2 bx3c3 bGc0 bGc1 bGc2 bGc3 bGc4
    have BE96 := Lib.hid (BE95.out.trans (hw.below (fun p hp => by have := (hs p hp).1; have := ZZ42.out; have := ZZ44.out; have := ZZ46.out; have := ZZ48.out; have := ZZaW.out; have := ZZ49.out; have := ZZgW.out; have := ZZ51.out; have := ZZ54.out; have := ZZ57.out; have := ZZ60.out; have := ZZ63.out; have := ZZ66.out; have := ZZ68.out; have := ZZ70.out; have := ZZ72.out; have := ZZ74.out; have := ZZ77.out; have := ZZ78.out; have := ZZ81.out; have := ZZ82.out; have := ZZ85.out; have := ZZ86.out; have := ZZ89.out; have := ZZ90.out; have := ZZ92.out; have := ZZ95.out; omega)))
    have HBW96 := Lib.hid (HBW95.out.trans (hw.below (fun p hp => by have := (hs p hp).1; have := ZZ42.out; have := ZZ44.out; have := ZZ46.out; have := ZZ48.out; have := ZZaW.out; have := ZZ49.out; have := ZZgW.out; have := ZZ51.out; have := ZZ54.out; have := ZZ57.out; have := ZZ60.out; have := ZZ63.out; have := ZZ66.out; have := ZZ68.out; have := ZZ70.out; have := ZZ72.out; have := ZZ74.out; have := ZZ77.out; have := ZZ78.out; have := ZZ81.out; have := ZZ82.out; have := ZZ85.out; have := ZZ86.out; have := ZZ89.out; have := ZZ90.out; have := ZZ92.out; have := ZZ95.out; omega)))
    have KBp096 := Lib.hid (KBp095.out.wrote hw (fun p hp e => by have := hs p hp; have := ZZ42.out; have := ZZ44.out; have := ZZ46.out; have := ZZ48.out; have := ZZaW.out; have := ZZ49.out; have := ZZgW.out; have := ZZ51.out; have := ZZ54.out; have := ZZ57.out; have := ZZ60.out; have := ZZ63.out; have := ZZ66.out; have := ZZ68.out; have := ZZ70.out; have := ZZ72.out; have := ZZ74.out; have := ZZ77.out; have := ZZ78.out; have := ZZ81.out; have := ZZ82.out; have := ZZ85.out; have := ZZ86.out; have := ZZ89.out; have := ZZ90.out; have := ZZ92.out; have := ZZ95.out; omega))
    have KBp196 := Lib.hid (KBp195.out.wrote hw (fun p hp e => by have := hs p hp; have := ZZ42.out; have := ZZ44.out; have := ZZ46.out; have := ZZ48.out; have := ZZaW.out; have := ZZ49.out; have := ZZgW.out; have := ZZ51.out; have := ZZ54.out; have := ZZ57.out; have := ZZ60.out; have := ZZ63.out; have := ZZ66.out; have := ZZ68.out; have := ZZ70.out; have := ZZ72.out; have := ZZ74.out; have := ZZ77.out; have := ZZ78.out; have := ZZ81.out; have := ZZ82.out; have := ZZ85.out; have := ZZ86.out; have := ZZ89.out; have := ZZ90.out; have := ZZ92.out; have := ZZ95.out; omega))
    have KBp296 := Lib.hid (KBp295.out.wrote hw (fun p hp e => by have := hs p hp; have := ZZ42.out; have := ZZ44.out; have := ZZ46.out; have := ZZ48.out; have := ZZaW.out; have := ZZ49.out; have := ZZgW.out; have := ZZ51.out; have := ZZ54.out; have := ZZ57.out; have := ZZ60.out; have := ZZ63.out; have := ZZ66.out; have := ZZ68.out; have := ZZ70.out; have := ZZ72.out; have := ZZ74.out; have := ZZ77.out; have := ZZ78.out; have := ZZ81.out; have := ZZ82.out; have := ZZ85.out; have := ZZ86.out; have := ZZ89.out; have := ZZ90.out; have := ZZ92.out; have := ZZ95.out; omega))
    have KBp396 := Lib.hid (KBp395.out.wrote hw (fun p hp e => by have := hs p hp; have := ZZ42.out; have := ZZ44.out; have := ZZ46.out; have := ZZ48.out; have := ZZaW.out; have := ZZ49.out; have := ZZgW.out; have := ZZ51.out; have := ZZ54.out; have := ZZ57.out; have := ZZ60.out; have := ZZ63.out; have := ZZ66.out; have := ZZ68.out; have := ZZ70.out; have := ZZ72.out; have := ZZ74.out; have := ZZ77.out; have := ZZ78.out; have := ZZ81.out; have := ZZ82.out; have := ZZ85.out; have := ZZ86.out; have := ZZ89.out; have := ZZ90.out; have := ZZ92.out; have := ZZ95.out; omega))
    have KBbW96 := Lib.hid (KBbW95.out.wrote hw (fun p hp e => by have := hs p hp; have := ZZ42.out; have := ZZ44.out; have := ZZ46.out; have := ZZ48.out; have := ZZaW.out; have := ZZ49.out; have := ZZgW.out; have := ZZ51.out; have := ZZ54.out; have := ZZ57.out; have := ZZ60.out; have := ZZ63.out; have := ZZ66.out; have := ZZ68.out; have := ZZ70.out; have := ZZ72.out; have := ZZ74.out; have := ZZ77.out; have := ZZ78.out; have := ZZ81.out; have := ZZ82.out; have := ZZ85.out; have := ZZ86.out; have := ZZ89.out; have := ZZ90.out; have := ZZ92.out; have := ZZ95.out; omega))
    have KBbx096 := Lib.hid (KBbx095.out.wrote hw (fun p hp e => by have := hs p hp; have := ZZ42.out; have := ZZ44.out; have := ZZ46.out; have := ZZ48.out; have := ZZaW.out; have := ZZ49.out; have := ZZgW.out; have := ZZ51.out; have := ZZ54.out; have := ZZ57.out; have := ZZ60.out; have := ZZ63.out; have := ZZ66.out; have := ZZ68.out; have := ZZ70.out; have := ZZ72.out; have := ZZ74.out; have := ZZ77.out; have := ZZ78.out; have := ZZ81.out; have := ZZ82.out; have := ZZ85.out; have := ZZ86.out; have := ZZ89.out; have := ZZ90.out; have := ZZ92.out; have := ZZ95.out; omega))
    have KBbx196 := Lib.hid (KBbx195.out.wrote hw (fun p hp e => by have := hs p hp; have := ZZ42.out; have := ZZ44.out; have := ZZ46.out; have := ZZ48.out; have := ZZaW.out; have := ZZ49.out; have := ZZgW.out; have := ZZ51.out; have := ZZ54.out; have := ZZ57.out; have := ZZ60.out; have := ZZ63.out; have := ZZ66.out; have := ZZ68.out; have := ZZ70.out; have := ZZ72.out; have := ZZ74.out; have := ZZ77.out; have := ZZ78.out; have := ZZ81.out; have := ZZ82.out; have := ZZ85.out; have := ZZ86.out; have := ZZ89.out; have := ZZ90.out; have := ZZ92.out; have := ZZ95.out; omega))
    have KBbx296 := Lib.hid (KBbx295.out.wrote hw (fun p hp e => by have := hs p hp; have := ZZ42.out; have := ZZ44.out; have := ZZ46.out; have := ZZ48.out; have := ZZaW.out; have := ZZ49.out; have := ZZgW.out; have := ZZ51.out; have := ZZ54.out; have := ZZ57.out; have := ZZ60.out; have := ZZ63.out; have := ZZ66.out; have := ZZ68.out; have := ZZ70.out; have := ZZ72.out; have := ZZ74.out; have := ZZ77.out; have := ZZ78.out; have := ZZ81.out; have := ZZ82.out; have := ZZ85.out; have := ZZ86.out; have := ZZ89.out; have := ZZ90.out; have := ZZ92.out; have := ZZ95.out; omega))
    have KBbx396 := Lib.hid (KBbx395.out.wrote hw (fun p hp e => by have := hs p hp; have := ZZ42.out; have := ZZ44.out; have := ZZ46.out; have := ZZ48.out; have := ZZaW.out; have := ZZ49.out; have := ZZgW.out; have := ZZ51.out; have := ZZ54.out; have := ZZ57.out; have := ZZ60.out; have := ZZ63.out; have := ZZ66.out; have := ZZ68.out; have := ZZ70.out; have := ZZ72.out; have := ZZ74.out; have := ZZ77.out; have := ZZ78.out; have := ZZ81.out; have := ZZ82.out; have := ZZ85.out; have := ZZ86.out; have := ZZ89.out; have := ZZ90.out; have := ZZ92.out; have := ZZ95.out; omega))
    have KBbG96 := Lib.hid (KBbG95.out.wrote hw (fun p hp e => by have := hs p hp; have := ZZ42.out; have := ZZ44.out; have := ZZ46.out; have := ZZ48.out; have := ZZaW.out; have := ZZ49.out; have := ZZgW.out; have := ZZ51.out; have := ZZ54.out; have := ZZ57.out; have := ZZ60.out; have := ZZ63.out; have := ZZ66.out; have := ZZ68.out; have := ZZ70.out; have := ZZ72.out; have := ZZ74.out; have := ZZ77.out; have := ZZ78.out; have := ZZ81.out; have := ZZ82.out; have := ZZ85.out; have := ZZ86.out; have := ZZ89.out; have := ZZ90.out; have := ZZ92.out; have := ZZ95.out; omega))
    have ZZ96 : Hid (wl94.heap.size ≤ wm93.heap.size) := Lib.hid (by have := hw.size; omega)
    clear BE95 HBW95 KBp095 KBp195 KBp295 KBp395 KBbW95 KBbx095 KBbx195 KBbx295 KBbx395 KBbG95
    obtain ⟨p0c0, p0c1, p0c2, p0c3, p0c4⟩ := four_cells KBp096.out
    obtain ⟨p1c0, p1c1, p1c2, p1c3, p1c4⟩ := four_cells KBp196.out
    obtain ⟨p2c0, p2c1, p2c2, p2c3⟩ := scene.three_cells KBp296.out
    obtain ⟨p3c0, p3c1, p3c2, p3c3⟩ := scene.three_cells KBp396.out
    obtain ⟨bWc0, bWc1, bWc2, bWc3, bWc4⟩ := four_cells KBbW96.out
    obtain ⟨bx0c0, bx0c1, bx0c2, bx0c3, bx0c4⟩ := four_cells KBbx096.out
    obtain ⟨bx1c0, bx1c1, bx1c2, bx1c3, bx1c4⟩ := four_cells KBbx196.out
    obtain ⟨bx2c0, bx2c1, bx2c2, bx2c3⟩ := scene.three_cells KBbx296.out
    obtain ⟨bx3c0, bx3c1, bx3c2, bx3c3⟩ := scene.three_cells KBbx396.out
    obtain ⟨bGc0, bGc1, bGc2, bGc3, bGc4⟩ := four_cells KBbG96.out
    clear hb
    clear hw hs
    have VWM := Lib.hid hi
    have HBM := Lib.hid (Below.refl wm93.heap.size wm93)
    clear hi
    go_wp2_with fail
    refine (box.held_any ((wrm.res x0 y0 wh0 xss0 x1 y1 wh1 xss1 ss2 xss2 yss2 ss3 xss3 yss3).x) ((wrm.res x0 y0 wh0 xss0 x1 y1 wh1 xss1 ss2 xss2 yss2 ss3 xss3 yss3).y) ((wrm.res x0 y0 wh0 xss0 x1 y1 wh1 xss1 ss2 xss2 yss2 ss3 xss3 yss3).wh) _ ((wrm.res x0 y0 wh0 xss0 x1 y1 wh1 xss1 ss2 xss2 yss2 ss3 xss3 yss3).rows) 1 _ (VWM.out.below HBM.out) wrm.tot_res (by omega) (by omega)).mono ?_
    rintro e wh97 ⟨rfl, hb⟩
    clear p0c0 p0c1 p0c2 p0c3 p0c4 p1c0 p1c1 p1c2 p1c3 p1c4 p2c0 p2c1 p2c2 p2c3 p3c0 p3c1 p3c2 p3c3 bWc0 bWc1 bWc2 bWc3 bWc4 bx0c0 bx0c1 bx0c2 bx0c3 bx0c4 bx1c0 bx1c1 bx1c2 bx1c3 bx1c4 bx2c0 bx2c1 bx2c2 bx2c3 bx3c0 bx3c1 bx3c2 bx3c3 bGc0 bGc1 bGc2 bGc3 bGc4
    have BE98 := Lib.hid (below_tr BE96.out hb)
    have HBW98 := Lib.hid (below_tr HBW96.out hb)
    have HBM98 := Lib.hid (below_tr HBM.out hb)
    have KBp098 := Lib.hid (KBp096.out.below hb)
    have KBp198 := Lib.hid (KBp196.out.below hb)
    have KBp298 := Lib.hid (KBp296.out.below hb)
    have KBp398 := Lib.hid (KBp396.out.below hb)
    have KBbW98 := Lib.hid (KBbW96.out.below hb)
    have KBbx098 := Lib.hid (KBbx096.out.below hb)
    have KBbx198 := Lib.hid (KBbx196.out.below hb)
    have KBbx298 := Lib.hid (KBbx296.out.below hb)
    have KBbx398 := Lib.hid (KBbx396.out.below hb)
    have KBbG98 := Lib.hid (KBbG96.out.below hb)
    have ZZ98 : Hid (wm93.heap.size ≤ wh97.heap.size) := Lib.hid (by have := (hb).size; simpa using this)
    clear BE96 HBW96 HBM KBp096 KBp196 KBp296 KBp396 KBbW96 KBbx096 KBbx196 KBbx296 KBbx396 KBbG96
    obtain ⟨p0c0, p0c1, p0c2, p0c3, p0c4⟩ := four_cells KBp098.out
    obtain ⟨p1c0, p1c1, p1c2, p1c3, p1c4⟩ := four_cells KBp198.out
    obtain ⟨p2c0, p2c1, p2c2, p2c3⟩ := scene.three_cells KBp298.out
    obtain ⟨p3c0, p3c1, p3c2, p3c3⟩ := scene.three_cells KBp398.out
    obtain ⟨bWc0, bWc1, bWc2, bWc3, bWc4⟩ := four_cells KBbW98.out
    obtain ⟨bx0c0, bx0c1, bx0c2, bx0c3, bx0c4⟩ := four_cells KBbx098.out
    obtain ⟨bx1c0, bx1c1, bx1c2, bx1c3, bx1c4⟩ := four_cells KBbx198.out
    obtain ⟨bx2c0, bx2c1, bx2c2, bx2c3⟩ := scene.three_cells KBbx298.out
    obtain ⟨bx3c0, bx3c1, bx3c2, bx3c3⟩ := scene.three_cells KBbx398.out
    obtain ⟨bGc0, bGc1, bGc2, bGc3, bGc4⟩ := four_cells KBbG98.out
    clear hb
    have HA0 := Lib.hid (H0.out.below BE98.out)
    have HA1 := Lib.hid (H1.out.below BE98.out)
    have HA2 := Lib.hid (H2.out.below BE98.out)
    have HA3 := Lib.hid (H3.out.below BE98.out)
    obtain ⟨q, hq⟩ : ∃ q, q = (wrm.res x0 y0 wh0 xss0 x1 y1 wh1 xss1 ss2 xss2 yss2 ss3 xss3 yss3) := ⟨_, rfl⟩
    have HQ := Lib.hid hq
    clear hq
    have ZZaHh : Hid (w.heap.size + 1 + 1 + 1 + 1 ≤ wh97.heap.size) := Lib.hid KBp398.out.lt
    go_wp2_with fail
    refine inv.start (by kernel_rfl) (fun l a' Wh => ∃ (gh : Nat) (rh t0 t1 t2 t3 t4 t5 t6 t7 t8 t9 t10 t11 t12 t14 : Value), a' = { tmps := #[Value.agg #[Value.int IntKind.i64 x0, Value.int IntKind.i64 y0, Value.int IntKind.i64 wh0, Value.slice va0 vn0 vc0], Value.agg #[Value.int IntKind.i64 x1, Value.int IntKind.i64 y1, Value.int IntKind.i64 wh1, Value.slice va1 vn1 vc1], Value.agg #[Value.slice wa2 wn2 wc2, Value.slice va2 vn2 vc2, Value.slice na2 nn2 nc2], Value.agg #[Value.slice wa3 wn3 wc3, Value.slice va3 vn3 vc3, Value.slice na3 nn3 nc3], Value.pointer (some { block := w.heap.size, off := 0 }), Value.pointer (some { block := w.heap.size + 1, off := 0 }), Value.pointer (some { block := w.heap.size + 1 + 1, off := 0 }), Value.pointer (some { block := w.heap.size + 1 + 1 + 1, off := 0 }), Value.bool false, Value.int IntKind.i64 (rule.sz ss3 xss3 yss3 (rule.sz ss2 xss2 yss2 (rws.sz xss1 (rws.sz xss0 1048576)))), Value.pointer (some { block := g, off := 0 }), Value.bool (wrm.res x0 y0 wh0 xss0 x1 y1 wh1 xss1 ss2 xss2 yss2 ss3 xss3 yss3).ok, Value.pointer (some { block := wc50.heap.size, off := 0 }), Value.pointer (some { block := wc53.heap.size, off := 0 }), Value.pointer (some { block := wc56.heap.size, off := 0 }), Value.pointer (some { block := wc59.heap.size, off := 0 }), Value.pointer (some { block := wf62.heap.size, off := 0 }), Value.bool (wrm.res x0 y0 wh0 xss0 x1 y1 wh1 xss1 ss2 xss2 yss2 ss3 xss3 yss3).ok, Value.int IntKind.i64 (1 + ↑(rws.before xss0 xss0.length) + ↑(rws.before xss1 xss1.length) + ↑ss2.length + ↑(rws.before xss2 xss2.length) + ↑(rws.before yss2 yss2.length) + ↑ss3.length + ↑(rws.before xss3 xss3.length) + ↑(rws.before yss3 yss3.length)), Value.int IntKind.i64 (1 + ↑(rws.before (wrm.res x0 y0 wh0 xss0 x1 y1 wh1 xss1 ss2 xss2 yss2 ss3 xss3 yss3).rows (wrm.res x0 y0 wh0 xss0 x1 y1 wh1 xss1 ss2 xss2 yss2 ss3 xss3 yss3).rows.length)), Value.int IntKind.i64 (1 + ↑(rws.before (wrm.res x0 y0 wh0 xss0 x1 y1 wh1 xss1 ss2 xss2 yss2 ss3 xss3 yss3).rows (wrm.res x0 y0 wh0 xss0 x1 y1 wh1 xss1 ss2 xss2 yss2 ss3 xss3 yss3).rows.length)), t12, t14, Value.agg #[Value.int IntKind.i64 x0, Value.int IntKind.i64 y0, Value.int IntKind.i64 wh0, Value.slice va0 vn0 vc0], Value.int IntKind.i64 1048576, Value.int IntKind.i64 (rws.sz xss0 1048576), Value.int IntKind.i64 (rws.sz xss0 1048576), Value.bool (decide (rws.sz xss0 1048576 < 0)), Value.agg #[Value.int IntKind.i64 x1, Value.int IntKind.i64 y1, Value.int IntKind.i64 wh1, Value.slice va1 vn1 vc1], Value.int IntKind.i64 (rws.sz xss0 1048576), Value.int IntKind.i64 (rws.sz xss1 (rws.sz xss0 1048576)), Value.int IntKind.i64 (rws.sz xss1 (rws.sz xss0 1048576)), Value.bool (decide (rws.sz xss1 (rws.sz xss0 1048576) < 0)), Value.agg #[Value.slice wa2 wn2 wc2, Value.slice va2 vn2 vc2, Value.slice na2 nn2 nc2], Value.int IntKind.i64 (rws.sz xss1 (rws.sz xss0 1048576)), Value.int IntKind.i64 (rule.sz ss2 xss2 yss2 (rws.sz xss1 (rws.sz xss0 1048576))), Value.int IntKind.i64 (rule.sz ss2 xss2 yss2 (rws.sz xss1 (rws.sz xss0 1048576))), Value.bool (decide (rule.sz ss2 xss2 yss2 (rws.sz xss1 (rws.sz xss0 1048576)) < 0)), Value.agg #[Value.slice wa3 wn3 wc3, Value.slice va3 vn3 vc3, Value.slice na3 nn3 nc3], Value.int IntKind.i64 (rule.sz ss2 xss2 yss2 (rws.sz xss1 (rws.sz xss0 1048576))), Value.int IntKind.i64 (rule.sz ss3 xss3 yss3 (rule.sz ss2 xss2 yss2 (rws.sz xss1 (rws.sz xss0 1048576)))), Value.int IntKind.i64 (rule.sz ss3 xss3 yss3 (rule.sz ss2 xss2 yss2 (rws.sz xss1 (rws.sz xss0 1048576)))), Value.bool (decide (rule.sz ss3 xss3 yss3 (rule.sz ss2 xss2 yss2 (rws.sz xss1 (rws.sz xss0 1048576))) < 0)), Value.tuple #[Value.agg #[Value.int IntKind.i64 (wrm.res x0 y0 wh0 xss0 x1 y1 wh1 xss1 ss2 xss2 yss2 ss3 xss3 yss3).x, Value.int IntKind.i64 (wrm.res x0 y0 wh0 xss0 x1 y1 wh1 xss1 ss2 xss2 yss2 ss3 xss3 yss3).y, Value.int IntKind.i64 (wrm.res x0 y0 wh0 xss0 x1 y1 wh1 xss1 ss2 xss2 yss2 ss3 xss3 yss3).wh, Value.slice Wa Wn Wc], Value.bool (wrm.res x0 y0 wh0 xss0 x1 y1 wh1 xss1 ss2 xss2 yss2 ss3 xss3 yss3).ok], Value.agg #[Value.int IntKind.i64 x0, Value.int IntKind.i64 y0, Value.int IntKind.i64 wh0, Value.slice va0 vn0 vc0], s1, Value.agg #[Value.int IntKind.i64 x1, Value.int IntKind.i64 y1, Value.int IntKind.i64 wh1, Value.slice va1 vn1 vc1], s3, Value.agg #[Value.slice wa2 wn2 wc2, Value.slice va2 vn2 vc2, Value.slice na2 nn2 nc2], s5, Value.agg #[Value.slice wa3 wn3 wc3, Value.slice va3 vn3 vc3, Value.slice na3 nn3 nc3], s7, Value.tuple #[Value.agg #[Value.int IntKind.i64 (wrm.res x0 y0 wh0 xss0 x1 y1 wh1 xss1 ss2 xss2 yss2 ss3 xss3 yss3).x, Value.int IntKind.i64 (wrm.res x0 y0 wh0 xss0 x1 y1 wh1 xss1 ss2 xss2 yss2 ss3 xss3 yss3).y, Value.int IntKind.i64 (wrm.res x0 y0 wh0 xss0 x1 y1 wh1 xss1 ss2 xss2 yss2 ss3 xss3 yss3).wh, Value.slice Wa Wn Wc], Value.bool (wrm.res x0 y0 wh0 xss0 x1 y1 wh1 xss1 ss2 xss2 yss2 ss3 xss3 yss3).ok], Value.agg #[Value.int IntKind.i64 (wrm.res x0 y0 wh0 xss0 x1 y1 wh1 xss1 ss2 xss2 yss2 ss3 xss3 yss3).x, Value.int IntKind.i64 (wrm.res x0 y0 wh0 xss0 x1 y1 wh1 xss1 ss2 xss2 yss2 ss3 xss3 yss3).y, Value.int IntKind.i64 (wrm.res x0 y0 wh0 xss0 x1 y1 wh1 xss1 ss2 xss2 yss2 ss3 xss3 yss3).wh, Value.slice Wa Wn Wc], Value.bool (wrm.res x0 y0 wh0 xss0 x1 y1 wh1 xss1 ss2 xss2 yss2 ss3 xss3 yss3).ok, Value.agg #[Value.int IntKind.i64 x0, Value.int IntKind.i64 y0, Value.int IntKind.i64 wh0, Value.slice va0 vn0 vc0], Value.agg #[Value.int IntKind.i64 x0, Value.int IntKind.i64 y0, Value.int IntKind.i64 wh0, Value.slice x0a x0n x0c], Value.agg #[Value.int IntKind.i64 x1, Value.int IntKind.i64 y1, Value.int IntKind.i64 wh1, Value.slice va1 vn1 vc1], Value.agg #[Value.int IntKind.i64 x1, Value.int IntKind.i64 y1, Value.int IntKind.i64 wh1, Value.slice x1a x1n x1c], Value.agg #[Value.slice wa2 wn2 wc2, Value.slice va2 vn2 vc2, Value.slice na2 nn2 nc2], Value.agg #[Value.slice x2a x2n x2c, Value.slice x2d x2m x2e, Value.slice x2f x2o x2g], Value.agg #[Value.slice wa3 wn3 wc3, Value.slice va3 vn3 vc3, Value.slice na3 nn3 nc3], Value.agg #[Value.slice x3a x3n x3c, Value.slice x3d x3m x3e, Value.slice x3f x3o x3g], Value.tuple #[Value.agg #[Value.int IntKind.i64 (wrm.res x0 y0 wh0 xss0 x1 y1 wh1 xss1 ss2 xss2 yss2 ss3 xss3 yss3).x, Value.int IntKind.i64 (wrm.res x0 y0 wh0 xss0 x1 y1 wh1 xss1 ss2 xss2 yss2 ss3 xss3 yss3).y, Value.int IntKind.i64 (wrm.res x0 y0 wh0 xss0 x1 y1 wh1 xss1 ss2 xss2 yss2 ss3 xss3 yss3).wh, Value.slice Ga Gn Gc], Value.bool (wrm.res x0 y0 wh0 xss0 x1 y1 wh1 xss1 ss2 xss2 yss2 ss3 xss3 yss3).ok], Value.agg #[Value.int IntKind.i64 x0, Value.int IntKind.i64 y0, Value.int IntKind.i64 wh0, Value.slice x0a x0n x0c], Value.agg #[Value.int IntKind.i64 x1, Value.int IntKind.i64 y1, Value.int IntKind.i64 wh1, Value.slice x1a x1n x1c], Value.agg #[Value.slice x2a x2n x2c, Value.slice x2d x2m x2e, Value.slice x2f x2o x2g], Value.agg #[Value.slice x3a x3n x3c, Value.slice x3d x3m x3e, Value.slice x3f x3o x3g], Value.tuple #[Value.agg #[Value.int IntKind.i64 (wrm.res x0 y0 wh0 xss0 x1 y1 wh1 xss1 ss2 xss2 yss2 ss3 xss3 yss3).x, Value.int IntKind.i64 (wrm.res x0 y0 wh0 xss0 x1 y1 wh1 xss1 ss2 xss2 yss2 ss3 xss3 yss3).y, Value.int IntKind.i64 (wrm.res x0 y0 wh0 xss0 x1 y1 wh1 xss1 ss2 xss2 yss2 ss3 xss3 yss3).wh, Value.slice Ga Gn Gc], Value.bool (wrm.res x0 y0 wh0 xss0 x1 y1 wh1 xss1 ss2 xss2 yss2 ss3 xss3 yss3).ok], Value.agg #[Value.int IntKind.i64 (wrm.res x0 y0 wh0 xss0 x1 y1 wh1 xss1 ss2 xss2 yss2 ss3 xss3 yss3).x, Value.int IntKind.i64 (wrm.res x0 y0 wh0 xss0 x1 y1 wh1 xss1 ss2 xss2 yss2 ss3 xss3 yss3).y, Value.int IntKind.i64 (wrm.res x0 y0 wh0 xss0 x1 y1 wh1 xss1 ss2 xss2 yss2 ss3 xss3 yss3).wh, Value.slice Ga Gn Gc], Value.bool (wrm.res x0 y0 wh0 xss0 x1 y1 wh1 xss1 ss2 xss2 yss2 ss3 xss3 yss3).ok, Value.agg #[Value.int IntKind.i64 (wrm.res x0 y0 wh0 xss0 x1 y1 wh1 xss1 ss2 xss2 yss2 ss3 xss3 yss3).x, Value.int IntKind.i64 (wrm.res x0 y0 wh0 xss0 x1 y1 wh1 xss1 ss2 xss2 yss2 ss3 xss3 yss3).y, Value.int IntKind.i64 (wrm.res x0 y0 wh0 xss0 x1 y1 wh1 xss1 ss2 xss2 yss2 ss3 xss3 yss3).wh, Value.slice Ga Gn Gc], Value.agg #[Value.int IntKind.i64 (wrm.res x0 y0 wh0 xss0 x1 y1 wh1 xss1 ss2 xss2 yss2 ss3 xss3 yss3).x, Value.int IntKind.i64 (wrm.res x0 y0 wh0 xss0 x1 y1 wh1 xss1 ss2 xss2 yss2 ss3 xss3 yss3).y, Value.int IntKind.i64 (wrm.res x0 y0 wh0 xss0 x1 y1 wh1 xss1 ss2 xss2 yss2 ss3 xss3 yss3).wh, Value.slice Wa Wn Wc], Value.bool true, Value.bool false, Value.bool false, Value.bool (wrm.res x0 y0 wh0 xss0 x1 y1 wh1 xss1 ss2 xss2 yss2 ss3 xss3 yss3).ok, Value.bool (wrm.res x0 y0 wh0 xss0 x1 y1 wh1 xss1 ss2 xss2 yss2 ss3 xss3 yss3).ok, Value.bool false, Value.bool false, Value.agg #[Value.int IntKind.i64 x0, Value.int IntKind.i64 y0, Value.int IntKind.i64 wh0, Value.slice x0a x0n x0c], Value.agg #[Value.int IntKind.i64 x0, Value.int IntKind.i64 y0, Value.int IntKind.i64 wh0, Value.slice va0 vn0 vc0], Value.agg #[Value.int IntKind.i64 x0, Value.int IntKind.i64 y0, Value.int IntKind.i64 wh0, uqq0], Value.bool true, Value.bool false, Value.agg #[Value.int IntKind.i64 x1, Value.int IntKind.i64 y1, Value.int IntKind.i64 wh1, Value.slice x1a x1n x1c], Value.agg #[Value.int IntKind.i64 x1, Value.int IntKind.i64 y1, Value.int IntKind.i64 wh1, Value.slice va1 vn1 vc1], Value.agg #[Value.int IntKind.i64 x1, Value.int IntKind.i64 y1, Value.int IntKind.i64 wh1, uqq1], Value.bool true, Value.bool false, Value.agg #[Value.slice x2a x2n x2c, Value.slice x2d x2m x2e, Value.slice x2f x2o x2g], Value.agg #[Value.slice wa2 wn2 wc2, Value.slice va2 vn2 vc2, Value.slice na2 nn2 nc2], Value.agg #[vq2, uq2, nq2], Value.bool true, Value.bool false, Value.agg #[Value.slice x3a x3n x3c, Value.slice x3d x3m x3e, Value.slice x3f x3o x3g], Value.agg #[Value.slice wa3 wn3 wc3, Value.slice va3 vn3 vc3, Value.slice na3 nn3 nc3], Value.agg #[vq3, uq3, nq3], Value.bool true, Value.bool false, Value.agg #[Value.int IntKind.i64 x0, Value.int IntKind.i64 y0, Value.int IntKind.i64 wh0, Value.slice x0a x0n x0c], Value.int IntKind.i64 1, Value.int IntKind.i64 (1 + ↑(rws.before xss0 xss0.length)), Value.agg #[Value.int IntKind.i64 x1, Value.int IntKind.i64 y1, Value.int IntKind.i64 wh1, Value.slice x1a x1n x1c], Value.int IntKind.i64 (1 + ↑(rws.before xss0 xss0.length)), Value.int IntKind.i64 (1 + ↑(rws.before xss0 xss0.length) + ↑(rws.before xss1 xss1.length)), Value.agg #[Value.slice x2a x2n x2c, Value.slice x2d x2m x2e, Value.slice x2f x2o x2g], Value.int IntKind.i64 (1 + ↑(rws.before xss0 xss0.length) + ↑(rws.before xss1 xss1.length)), Value.int IntKind.i64 (1 + ↑(rws.before xss0 xss0.length) + ↑(rws.before xss1 xss1.length) + ↑ss2.length + ↑(rws.before xss2 xss2.length) + ↑(rws.before yss2 yss2.length)), Value.agg #[Value.slice x3a x3n x3c, Value.slice x3d x3m x3e, Value.slice x3f x3o x3g], Value.int IntKind.i64 (1 + ↑(rws.before xss0 xss0.length) + ↑(rws.before xss1 xss1.length) + ↑ss2.length + ↑(rws.before xss2 xss2.length) + ↑(rws.before yss2 yss2.length)), Value.int IntKind.i64 (1 + ↑(rws.before xss0 xss0.length) + ↑(rws.before xss1 xss1.length) + ↑ss2.length + ↑(rws.before xss2 xss2.length) + ↑(rws.before yss2 yss2.length) + ↑ss3.length + ↑(rws.before xss3 xss3.length) + ↑(rws.before yss3 yss3.length)), Value.int IntKind.i64 (1 + ↑(rws.before xss0 xss0.length) + ↑(rws.before xss1 xss1.length) + ↑ss2.length + ↑(rws.before xss2 xss2.length) + ↑(rws.before yss2 yss2.length) + ↑ss3.length + ↑(rws.before xss3 xss3.length) + ↑(rws.before yss3 yss3.length)), Value.bool false, Value.bool false, Value.agg #[Value.int IntKind.i64 (wrm.res x0 y0 wh0 xss0 x1 y1 wh1 xss1 ss2 xss2 yss2 ss3 xss3 yss3).x, Value.int IntKind.i64 (wrm.res x0 y0 wh0 xss0 x1 y1 wh1 xss1 ss2 xss2 yss2 ss3 xss3 yss3).y, Value.int IntKind.i64 (wrm.res x0 y0 wh0 xss0 x1 y1 wh1 xss1 ss2 xss2 yss2 ss3 xss3 yss3).wh, Value.slice Ga Gn Gc], Value.agg #[Value.int IntKind.i64 (wrm.res x0 y0 wh0 xss0 x1 y1 wh1 xss1 ss2 xss2 yss2 ss3 xss3 yss3).x, Value.int IntKind.i64 (wrm.res x0 y0 wh0 xss0 x1 y1 wh1 xss1 ss2 xss2 yss2 ss3 xss3 yss3).y, Value.int IntKind.i64 (wrm.res x0 y0 wh0 xss0 x1 y1 wh1 xss1 ss2 xss2 yss2 ss3 xss3 yss3).wh, Value.slice Wa Wn Wc], Value.bool true, Value.bool false, Value.bool false, Value.bool false, Value.bool (wrm.res x0 y0 wh0 xss0 x1 y1 wh1 xss1 ss2 xss2 yss2 ss3 xss3 yss3).ok, Value.bool (wrm.res x0 y0 wh0 xss0 x1 y1 wh1 xss1 ss2 xss2 yss2 ss3 xss3 yss3).ok, Value.bool false, Value.bool false, Value.agg #[Value.int IntKind.i64 (wrm.res x0 y0 wh0 xss0 x1 y1 wh1 xss1 ss2 xss2 yss2 ss3 xss3 yss3).x, Value.int IntKind.i64 (wrm.res x0 y0 wh0 xss0 x1 y1 wh1 xss1 ss2 xss2 yss2 ss3 xss3 yss3).y, Value.int IntKind.i64 (wrm.res x0 y0 wh0 xss0 x1 y1 wh1 xss1 ss2 xss2 yss2 ss3 xss3 yss3).wh, Value.slice Ga Gn Gc], Value.int IntKind.i64 1, Value.int IntKind.i64 (1 + ↑(rws.before (wrm.res x0 y0 wh0 xss0 x1 y1 wh1 xss1 ss2 xss2 yss2 ss3 xss3 yss3).rows (wrm.res x0 y0 wh0 xss0 x1 y1 wh1 xss1 ss2 xss2 yss2 ss3 xss3 yss3).rows.length)), Value.agg #[Value.int IntKind.i64 (wrm.res x0 y0 wh0 xss0 x1 y1 wh1 xss1 ss2 xss2 yss2 ss3 xss3 yss3).x, Value.int IntKind.i64 (wrm.res x0 y0 wh0 xss0 x1 y1 wh1 xss1 ss2 xss2 yss2 ss3 xss3 yss3).y, Value.int IntKind.i64 (wrm.res x0 y0 wh0 xss0 x1 y1 wh1 xss1 ss2 xss2 yss2 ss3 xss3 yss3).wh, Value.slice Ga Gn Gc], Value.int IntKind.i64 1, Value.int IntKind.i64 (1 + ↑(rws.before (wrm.res x0 y0 wh0 xss0 x1 y1 wh1 xss1 ss2 xss2 yss2 ss3 xss3 yss3).rows (wrm.res x0 y0 wh0 xss0 x1 y1 wh1 xss1 ss2 xss2 yss2 ss3 xss3 yss3).rows.length)), Value.int IntKind.i64 (1 + ↑(rws.before (wrm.res x0 y0 wh0 xss0 x1 y1 wh1 xss1 ss2 xss2 yss2 ss3 xss3 yss3).rows (wrm.res x0 y0 wh0 xss0 x1 y1 wh1 xss1 ss2 xss2 yss2 ss3 xss3 yss3).rows.length)), Value.bool (decide (1 + ↑(rws.before (wrm.res x0 y0 wh0 xss0 x1 y1 wh1 xss1 ss2 xss2 yss2 ss3 xss3 yss3).rows (wrm.res x0 y0 wh0 xss0 x1 y1 wh1 xss1 ss2 xss2 yss2 ss3 xss3 yss3).rows.length) < 0)), Value.int IntKind.i64 (1 + ↑(rws.before (wrm.res x0 y0 wh0 xss0 x1 y1 wh1 xss1 ss2 xss2 yss2 ss3 xss3 yss3).rows (wrm.res x0 y0 wh0 xss0 x1 y1 wh1 xss1 ss2 xss2 yss2 ss3 xss3 yss3).rows.length)), Value.int IntKind.i64 (1 + ↑(rws.before (wrm.res x0 y0 wh0 xss0 x1 y1 wh1 xss1 ss2 xss2 yss2 ss3 xss3 yss3).rows (wrm.res x0 y0 wh0 xss0 x1 y1 wh1 xss1 ss2 xss2 yss2 ss3 xss3 yss3).rows.length)), Value.bool false, t9, t0, t1, t2, t3, t4, t5, t6, t7, t8, t10, t11, undef, undef, undef, undef, undef, undef, undef, undef, undef, undef, undef, undef, undef, undef, undef, undef, undef], defers := [] } ∧ l.size = 15 ∧ JJ wh97 x0 y0 wh0 xss0 x1 y1 wh1 xss1 ss2 xss2 yss2 ss3 xss3 yss3 (.agg #[.int .i64 x0, .int .i64 y0, .int .i64 wh0, .slice va0 vn0 vc0]) (.agg #[.int .i64 x1, .int .i64 y1, .int .i64 wh1, .slice va1 vn1 vc1]) (.agg #[.slice wa2 wn2 wc2, .slice va2 vn2 vc2, .slice na2 nn2 nc2]) (.agg #[.slice wa3 wn3 wc3, .slice va3 vn3 vc3, .slice na3 nn3 nc3]) q (fun k => l.getD k false) gh rh t0 t1 t2 t3 t4 t5 t6 t7 t8 t9 t10 t11 t12 t14 Wh) ?_ ?_ ?_
    · refine ⟨0, undef, _, _, _, _, _, _, _, _, _, _, _, _, _, _, rfl, by simp, ?_⟩
      exact ⟨fun h => by simp at h, fun h => by simp at h, fun h => by simp at h, fun h => by simp at h, fun h => by simp at h, fun h => by simp at h, fun h => by simp at h, fun h => by simp at h, fun h => by simp at h, fun h => by simp at h, fun h => by simp at h, fun h => by simp at h, fun h => by simp at h, fun h => by simp at h, fun h => by simp at h, fun h => by simp at h, fun h => by simp at h, fun h => by simp at h, fun h => by simp at h, fun h => by simp at h, fun h => by simp at h, fun h => by simp at h, fun h => by simp at h, below_dr (Below.refl _ _)⟩
    · rintro l a' Wh i ⟨gh, rh, t0, t1, t2, t3, t4, t5, t6, t7, t8, t9, t10, t11, t12, t14, rfl, hsz, h⟩ hi
      have hlt : i < 15 := (inv.ready_lt hi).1
      obtain rfl | rfl | rfl | rfl | rfl | rfl | rfl | rfl | rfl | rfl | rfl | rfl | rfl | rfl | rfl : i = 0 ∨ i = 1 ∨ i = 2 ∨ i = 3 ∨ i = 4 ∨ i = 5 ∨ i = 6 ∨ i = 7 ∨ i = 8 ∨ i = 9 ∨ i = 10 ∨ i = 11 ∨ i = 12 ∨ i = 13 ∨ i = 14 := by omega
      · obtain ⟨hun, o, ho, hall⟩ := mem_ready.1 hi
        obtain rfl : _ = o := Option.some.inj ho
        have hoff : l.getD 0 false = false := inv.off l 0 hun
        have hup := inv.upd_eq l 0 hun
        obtain ⟨c0, c1, c2, c3, c4⟩ := four_cells (KBp098.out.below h.fb)
        refine wpOp_step rfl (fun K' hK => ?_)
        have HK := Lib.hid hK
        clear hK hall ho
        go_simp
        refine HK.out _ _ ⟨gh, rh, _, _, _, _, _, _, _, _, _, _, _, _, _, _, rfl, by simp [hsz], ?_⟩
        rw [hup]
        exact ⟨fun _ => rfl, h.f1, h.f2, h.f3, h.f4, h.f5, h.f6, h.f7, h.f8, h.f9, h.f10, h.f11, h.f12, h.f14, h.d8x1, h.d8x3, h.d8x5, h.d8x7, h.d9x8, h.d10x9, h.d11x9, h.d13x12, h.d13x8, h.fb⟩
      · obtain ⟨hun, o, ho, hall⟩ := mem_ready.1 hi
        obtain rfl : _ = o := Option.some.inj ho
        have hoff : l.getD 1 false = false := inv.off l 1 hun
        have hup := inv.upd_eq l 1 hun
        have d0 : l.getD 0 false = true := hall ⟨0, .data⟩ (by simp) (by decide)
        obtain rfl := h.f0 d0
        refine wpOp_step rfl (fun K' hK => ?_)
        have HK := Lib.hid hK
        clear hK hall ho
        go_simp
        (go_at_call 36; (with_reducible refine (box.to_any x0 y0 wh0 _ xss0 _ (HA0.out.below h.fb) hn0).mono ?_); rintro e Wh' ⟨u, rfl, hu, hb⟩)
        try go_simp
        refine HK.out _ _ ⟨gh, rh, _, _, _, _, _, _, _, _, _, _, _, _, _, _, rfl, by simp [hsz], ?_⟩
        rw [hup]
        exact ⟨h.f0, fun _ _ => ⟨u, rfl, hu.rows⟩, h.f2, fun h3 h4 => (h.f3 h3 h4).imp fun _ k => ⟨k.1, k.2.below hb⟩, h.f4, fun h3 h4 => (h.f5 h3 h4).imp fun _ k => ⟨k.1, k.2.imp fun _ k => k.imp fun _ k => k.imp fun _ k => ⟨k.1, k.2.below hb⟩⟩, h.f6, fun h3 h4 => (h.f7 h3 h4).imp fun _ k => ⟨k.1, k.2.imp fun _ k => k.imp fun _ k => k.imp fun _ k => ⟨k.1, k.2.below hb⟩⟩, fun h4 => no (h.d8x1 h4) hoff, h.f9, h.f10, h.f11, fun h8 => ⟨(h.f12 h8).1, (h.f12 h8).2.1, (h.f12 h8).2.2.below hb⟩, h.f14, fun _ => rfl, h.d8x3, h.d8x5, h.d8x7, h.d9x8, h.d10x9, h.d11x9, h.d13x12, h.d13x8, below_tr h.fb hb⟩
      · obtain ⟨hun, o, ho, hall⟩ := mem_ready.1 hi
        obtain rfl : _ = o := Option.some.inj ho
        have hoff : l.getD 2 false = false := inv.off l 2 hun
        have hup := inv.upd_eq l 2 hun
        obtain ⟨c0, c1, c2, c3, c4⟩ := four_cells (KBp198.out.below h.fb)
        refine wpOp_step rfl (fun K' hK => ?_)
        have HK := Lib.hid hK
        clear hK hall ho
        go_simp
        refine HK.out _ _ ⟨gh, rh, _, _, _, _, _, _, _, _, _, _, _, _, _, _, rfl, by simp [hsz], ?_⟩
        rw [hup]
        exact ⟨h.f0, h.f1, fun _ => rfl, h.f3, h.f4, h.f5, h.f6, h.f7, h.f8, h.f9, h.f10, h.f11, h.f12, h.f14, h.d8x1, h.d8x3, h.d8x5, h.d8x7, h.d9x8, h.d10x9, h.d11x9, h.d13x12, h.d13x8, h.fb⟩
      · obtain ⟨hun, o, ho, hall⟩ := mem_ready.1 hi
        obtain rfl : _ = o := Option.some.inj ho
        have hoff : l.getD 3 false = false := inv.off l 3 hun
        have hup := inv.upd_eq l 3 hun
        have d2 : l.getD 2 false = true := hall ⟨2, .data⟩ (by simp) (by decide)
        obtain rfl := h.f2 d2
        refine wpOp_step rfl (fun K' hK => ?_)
        have HK := Lib.hid hK
        clear hK hall ho
        go_simp
        (go_at_call 36; (with_reducible refine (box.to_any x1 y1 wh1 _ xss1 _ (HA1.out.below h.fb) hn1).mono ?_); rintro e Wh' ⟨u, rfl, hu, hb⟩)
        try go_simp
        refine HK.out _ _ ⟨gh, rh, _, _, _, _, _, _, _, _, _, _, _, _, _, _, rfl, by simp [hsz], ?_⟩
        rw [hup]
        exact ⟨h.f0, fun h3 h4 => (h.f1 h3 h4).imp fun _ k => ⟨k.1, k.2.below hb⟩, h.f2, fun _ _ => ⟨u, rfl, hu.rows⟩, h.f4, fun h3 h4 => (h.f5 h3 h4).imp fun _ k => ⟨k.1, k.2.imp fun _ k => k.imp fun _ k => k.imp fun _ k => ⟨k.1, k.2.below hb⟩⟩, h.f6, fun h3 h4 => (h.f7 h3 h4).imp fun _ k => ⟨k.1, k.2.imp fun _ k => k.imp fun _ k => k.imp fun _ k => ⟨k.1, k.2.below hb⟩⟩, fun h4 => no (h.d8x3 h4) hoff, h.f9, h.f10, h.f11, fun h8 => ⟨(h.f12 h8).1, (h.f12 h8).2.1, (h.f12 h8).2.2.below hb⟩, h.f14, h.d8x1, fun _ => rfl, h.d8x5, h.d8x7, h.d9x8, h.d10x9, h.d11x9, h.d13x12, h.d13x8, below_tr h.fb hb⟩
      · obtain ⟨hun, o, ho, hall⟩ := mem_ready.1 hi
        obtain rfl : _ = o := Option.some.inj ho
        have hoff : l.getD 4 false = false := inv.off l 4 hun
        have hup := inv.upd_eq l 4 hun
        obtain ⟨c0, c1, c2, c3⟩ := scene.three_cells (KBp298.out.below h.fb)
        refine wpOp_step rfl (fun K' hK => ?_)
        have HK := Lib.hid hK
        clear hK hall ho
        go_simp
        refine HK.out _ _ ⟨gh, rh, _, _, _, _, _, _, _, _, _, _, _, _, _, _, rfl, by simp [hsz], ?_⟩
        rw [hup]
        exact ⟨h.f0, h.f1, h.f2, h.f3, fun _ => rfl, h.f5, h.f6, h.f7, h.f8, h.f9, h.f10, h.f11, h.f12, h.f14, h.d8x1, h.d8x3, h.d8x5, h.d8x7, h.d9x8, h.d10x9, h.d11x9, h.d13x12, h.d13x8, h.fb⟩
      · obtain ⟨hun, o, ho, hall⟩ := mem_ready.1 hi
        obtain rfl : _ = o := Option.some.inj ho
        have hoff : l.getD 5 false = false := inv.off l 5 hun
        have hup := inv.upd_eq l 5 hun
        have d4 : l.getD 4 false = true := hall ⟨4, .data⟩ (by simp) (by decide)
        obtain rfl := h.f4 d4
        refine wpOp_step rfl (fun K' hK => ?_)
        have HK := Lib.hid hK
        clear hK hall ho
        go_simp
        (go_at_call 17; (with_reducible refine (rule.to_any _ ss2 _ xss2 _ yss2 _ (HA2.out.below h.fb) hn2 hm2 hk2).mono ?_); rintro e Wh' ⟨ua, ub, uc, rfl, hu, hb⟩)
        try go_simp
        refine HK.out _ _ ⟨gh, rh, _, _, _, _, _, _, _, _, _, _, _, _, _, _, rfl, by simp [hsz], ?_⟩
        rw [hup]
        exact ⟨h.f0, fun h3 h4 => (h.f1 h3 h4).imp fun _ k => ⟨k.1, k.2.below hb⟩, h.f2, fun h3 h4 => (h.f3 h3 h4).imp fun _ k => ⟨k.1, k.2.below hb⟩, h.f4, fun _ _ => ⟨_, rfl, ua, ub, uc, rfl, hu.view⟩, h.f6, fun h3 h4 => (h.f7 h3 h4).imp fun _ k => ⟨k.1, k.2.imp fun _ k => k.imp fun _ k => k.imp fun _ k => ⟨k.1, k.2.below hb⟩⟩, fun h4 => no (h.d8x5 h4) hoff, h.f9, h.f10, h.f11, fun h8 => ⟨(h.f12 h8).1, (h.f12 h8).2.1, (h.f12 h8).2.2.below hb⟩, h.f14, h.d8x1, h.d8x3, fun _ => rfl, h.d8x7, h.d9x8, h.d10x9, h.d11x9, h.d13x12, h.d13x8, below_tr h.fb hb⟩
      · obtain ⟨hun, o, ho, hall⟩ := mem_ready.1 hi
        obtain rfl : _ = o := Option.some.inj ho
        have hoff : l.getD 6 false = false := inv.off l 6 hun
        have hup := inv.upd_eq l 6 hun
        obtain ⟨c0, c1, c2, c3⟩ := scene.three_cells (KBp398.out.below h.fb)
        refine wpOp_step rfl (fun K' hK => ?_)
        have HK := Lib.hid hK
        clear hK hall ho
        go_simp
        refine HK.out _ _ ⟨gh, rh, _, _, _, _, _, _, _, _, _, _, _, _, _, _, rfl, by simp [hsz], ?_⟩
        rw [hup]
        exact ⟨h.f0, h.f1, h.f2, h.f3, h.f4, h.f5, fun _ => rfl, h.f7, h.f8, h.f9, h.f10, h.f11, h.f12, h.f14, h.d8x1, h.d8x3, h.d8x5, h.d8x7, h.d9x8, h.d10x9, h.d11x9, h.d13x12, h.d13x8, h.fb⟩
      · obtain ⟨hun, o, ho, hall⟩ := mem_ready.1 hi
        obtain rfl : _ = o := Option.some.inj ho
        have hoff : l.getD 7 false = false := inv.off l 7 hun
        have hup := inv.upd_eq l 7 hun
        have d6 : l.getD 6 false = true := hall ⟨6, .data⟩ (by simp) (by decide)
        obtain rfl := h.f6 d6
        refine wpOp_step rfl (fun K' hK => ?_)
        have HK := Lib.hid hK
        clear hK hall ho
        go_simp
        (go_at_call 17; (with_reducible refine (rule.to_any _ ss3 _ xss3 _ yss3 _ (HA3.out.below h.fb) hn3 hm3 hk3).mono ?_); rintro e Wh' ⟨ua, ub, uc, rfl, hu, hb⟩)
        try go_simp
        refine HK.out _ _ ⟨gh, rh, _, _, _, _, _, _, _, _, _, _, _, _, _, _, rfl, by simp [hsz], ?_⟩
        rw [hup]
        exact ⟨h.f0, fun h3 h4 => (h.f1 h3 h4).imp fun _ k => ⟨k.1, k.2.below hb⟩, h.f2, fun h3 h4 => (h.f3 h3 h4).imp fun _ k => ⟨k.1, k.2.below hb⟩, h.f4, fun h3 h4 => (h.f5 h3 h4).imp fun _ k => ⟨k.1, k.2.imp fun _ k => k.imp fun _ k => k.imp fun _ k => ⟨k.1, k.2.below hb⟩⟩, h.f6, fun _ _ => ⟨_, rfl, ua, ub, uc, rfl, hu.view⟩, fun h4 => no (h.d8x7 h4) hoff, h.f9, h.f10, h.f11, fun h8 => ⟨(h.f12 h8).1, (h.f12 h8).2.1, (h.f12 h8).2.2.below hb⟩, h.f14, h.d8x1, h.d8x3, h.d8x5, fun _ => rfl, h.d9x8, h.d10x9, h.d11x9, h.d13x12, h.d13x8, below_tr h.fb hb⟩
      · obtain ⟨hun, o, ho, hall⟩ := mem_ready.1 hi
        obtain rfl : _ = o := Option.some.inj ho
        have hoff : l.getD 8 false = false := inv.off l 8 hun
        have hup := inv.upd_eq l 8 hun
        have d1 : l.getD 1 false = true := hall ⟨1, .data⟩ (by simp) (by decide)
        have d3 : l.getD 3 false = true := hall ⟨3, .data⟩ (by simp) (by decide)
        have d5 : l.getD 5 false = true := hall ⟨5, .data⟩ (by simp) (by decide)
        have d7 : l.getD 7 false = true := hall ⟨7, .data⟩ (by simp) (by decide)
        obtain ⟨u0, rfl, hu0⟩ := h.f1 d1 hoff
        obtain ⟨u1, rfl, hu1⟩ := h.f3 d3 hoff
        obtain ⟨_, rfl, p2a, p2b, p2c, rfl, hu2⟩ := h.f5 d5 hoff
        obtain ⟨_, rfl, p3a, p3b, p3c, rfl, hu3⟩ := h.f7 d7 hoff
        refine wpOp_step rfl (fun K' hK => ?_)
        have HK := Lib.hid hK
        clear hK hall ho
        go_simp
        (go_at_call 37; (with_reducible refine (wir.impl_any x0 y0 wh0 _ xss0 x1 y1 wh1 _ xss1 _ ss2 _ xss2 _ yss2 _ ss3 _ xss3 _ yss3 _ hu0 hu1 hn0 hn1 hu2 hu3).mono ?_); rintro e Wh' ⟨rh', rfl, hr, hb⟩)
        try go_simp
        rw [← HQ.out] at hr
        refine HK.out _ _ ⟨gh, rh', _, _, _, _, _, _, _, _, _, _, _, _, _, _, rfl, by simp [hsz], ?_⟩
        rw [hup]
        have e9 : l.getD 13 false = false := off_of h.d13x8 hoff
        have k8 : l.getD 12 false = true → Blk Wh' gh 48 (cel (l.getD 13 false) q rh') := fun h8 => by (have k := (h.f12 h8).2.2.below hb); (rw [cel_off e9] at k); (rw [cel_off e9]); (exact k)
        exact ⟨h.f0, fun _ h4 => no (b := true) rfl h4, h.f2, fun _ h4 => no (b := true) rfl h4, h.f4, fun _ h4 => no (b := true) rfl h4, h.f6, fun _ h4 => no (b := true) rfl h4, fun _ => ⟨by rw [HQ.out], hr.rows, fun h8 Wh'' hw => (hr.wrote hw (fun p hp => .inl (by have h' := (h.f12 h8).2.2.lt; have e1 : p.block = gh := hp; show p.block < _; omega))).rows⟩, fun h5 => no (h.d9x8 h5) hoff, fun h6 => no (h.d9x8 (h.d10x9 h6)) hoff, h.f11, fun h8 => ⟨(h.f12 h8).1, (h.f12 h8).2.1, k8 h8⟩, h.f14, fun _ => d1, fun _ => d3, fun _ => d5, fun _ => d7, fun _ => rfl, h.d10x9, h.d11x9, h.d13x12, fun _ => rfl, below_tr h.fb hb⟩
      · obtain ⟨hun, o, ho, hall⟩ := mem_ready.1 hi
        obtain rfl : _ = o := Option.some.inj ho
        have hoff : l.getD 9 false = false := inv.off l 9 hun
        have hup := inv.upd_eq l 9 hun
        have d8 : l.getD 8 false = true := hall ⟨8, .data⟩ (by simp) (by decide)
        obtain rfl := (h.f8 d8).1
        refine wpOp_step rfl (fun K' hK => ?_)
        have HK := Lib.hid hK
        clear hK hall ho
        go_simp
        refine HK.out _ _ ⟨gh, rh, _, _, _, _, _, _, _, _, _, _, _, _, _, _, rfl, by simp [hsz], ?_⟩
        rw [hup]
        exact ⟨h.f0, h.f1, h.f2, h.f3, h.f4, h.f5, h.f6, h.f7, h.f8, fun _ => rfl, h.f10, h.f11, h.f12, h.f14, h.d8x1, h.d8x3, h.d8x5, h.d8x7, fun _ => d8, fun _ => rfl, fun _ => rfl, h.d13x12, h.d13x8, h.fb⟩
      · obtain ⟨hun, o, ho, hall⟩ := mem_ready.1 hi
        obtain rfl : _ = o := Option.some.inj ho
        have hoff : l.getD 10 false = false := inv.off l 10 hun
        have hup := inv.upd_eq l 10 hun
        have d9 : l.getD 9 false = true := hall ⟨9, .data⟩ (by simp) (by decide)
        obtain rfl := h.f9 d9
        refine wpOp_step rfl (fun K' hK => ?_)
        have HK := Lib.hid hK
        clear hK hall ho
        go_simp
        refine HK.out _ _ ⟨gh, rh, _, _, _, _, _, _, _, _, _, _, _, _, _, _, rfl, by simp [hsz], ?_⟩
        rw [hup]
        exact ⟨h.f0, h.f1, h.f2, h.f3, h.f4, h.f5, h.f6, h.f7, h.f8, h.f9, fun _ => rfl, h.f11, h.f12, h.f14, h.d8x1, h.d8x3, h.d8x5, h.d8x7, h.d9x8, fun _ => d9, h.d11x9, h.d13x12, h.d13x8, h.fb⟩
      · obtain ⟨hun, o, ho, hall⟩ := mem_ready.1 hi
        obtain rfl : _ = o := Option.some.inj ho
        have hoff : l.getD 11 false = false := inv.off l 11 hun
        have hup := inv.upd_eq l 11 hun
        have d9 : l.getD 9 false = true := hall ⟨9, .data⟩ (by simp) (by decide)
        obtain rfl := h.f9 d9
        refine wpOp_step rfl (fun K' hK => ?_)
        have HK := Lib.hid hK
        clear hK hall ho
        go_simp
        refine HK.out _ _ ⟨gh, rh, _, _, _, _, _, _, _, _, _, _, _, _, _, _, rfl, by simp [hsz], ?_⟩
        rw [hup]
        exact ⟨h.f0, h.f1, h.f2, h.f3, h.f4, h.f5, h.f6, h.f7, h.f8, h.f9, h.f10, fun _ => rfl, h.f12, h.f14, h.d8x1, h.d8x3, h.d8x5, h.d8x7, h.d9x8, h.d10x9, fun _ => d9, h.d13x12, h.d13x8, h.fb⟩
      · obtain ⟨hun, o, ho, hall⟩ := mem_ready.1 hi
        obtain rfl : _ = o := Option.some.inj ho
        have hoff : l.getD 12 false = false := inv.off l 12 hun
        have hup := inv.upd_eq l 12 hun
        refine wpOp_step rfl (fun K' hK => ?_)
        have HK := Lib.hid hK
        clear hK hall ho
        go_simp
        refine HK.out _ (Wh.alloc (.cells #[.int .i64 0, .int .i64 0, .int .i64 0, .slice none 0 0] 48)) ⟨Wh.heap.size, rh, _, _, _, _, _, _, _, _, _, _, _, _, _, _, rfl, by simp [hsz], ?_⟩
        rw [hup]
        have e9 : l.getD 13 false = false := off_of h.d13x12 hoff
        have al := (below_al (Below.refl _ Wh) (.cells #[.int .i64 0, .int .i64 0, .int .i64 0, .slice none 0 0] 48))
        have k8 : Blk (Wh.alloc (.cells #[.int .i64 0, .int .i64 0, .int .i64 0, .slice none 0 0] 48)) Wh.heap.size 48 (cel (l.getD 13 false) q rh) := by rw [cel_off e9]; exact Blk.new Wh _ _
        exact ⟨h.f0, fun h1 h4 => (h.f1 h1 h4).imp fun _ k => ⟨k.1, k.2.below al⟩, h.f2, fun h1 h4 => (h.f3 h1 h4).imp fun _ k => ⟨k.1, k.2.below al⟩, h.f4, fun h1 h4 => (h.f5 h1 h4).imp fun _ k => ⟨k.1, k.2.imp fun _ k => k.imp fun _ k => k.imp fun _ k => ⟨k.1, k.2.below al⟩⟩, h.f6, fun h1 h4 => (h.f7 h1 h4).imp fun _ k => ⟨k.1, k.2.imp fun _ k => k.imp fun _ k => k.imp fun _ k => ⟨k.1, k.2.below al⟩⟩, fun h4 => ⟨(h.f8 h4).1, (h.f8 h4).2.1.below al, fun _ Wh'' hw => (h.f8 h4).2.1.below (al.trans (hw.below (B := Wh.heap.size) (fun p hp => Nat.le_of_eq hp.symm)))⟩, h.f9, h.f10, h.f11, fun _ => ⟨rfl, h.fb.size, k8⟩, h.f14, h.d8x1, h.d8x3, h.d8x5, h.d8x7, h.d9x8, h.d10x9, h.d11x9, fun _ => rfl, h.d13x8, below_tr h.fb al⟩
      · obtain ⟨hun, o, ho, hall⟩ := mem_ready.1 hi
        obtain rfl : _ = o := Option.some.inj ho
        have hoff : l.getD 13 false = false := inv.off l 13 hun
        have hup := inv.upd_eq l 13 hun
        have d8 : l.getD 8 false = true := hall ⟨8, .chain⟩ (by simp) (by decide)
        have d10 : l.getD 10 false = true := hall ⟨10, .data⟩ (by simp) (by decide)
        have d12 : l.getD 12 false = true := hall ⟨12, .data⟩ (by simp) (by decide)
        obtain ⟨ra, rn, rc, rfl⟩ := (h.f8 d8).2.1.shape
        obtain rfl := h.f10 d10
        obtain ⟨e6, hg, hk⟩ := h.f12 d12
        subst e6
        have hk : Blk Wh gh 48 (cel (l.getD 13 false) q (.slice ra rn rc)) := hk
        rw [cel_off hoff] at hk
        unfold zer at hk
        obtain ⟨c0, c1, c2, c3, c4⟩ := four_cells hk
        have rf : ∀ k, Wh.frozen? ⟨gh, k, none⟩ = false := fun k => Joins.unfrozen_of_block hk k
        refine wpOp_step rfl (fun K' hK => ?_)
        have HK := Lib.hid hK
        clear hK hall ho
        go_simp
        refine HK.out _ (set4 Wh gh (.int .i64 q.x) (.int .i64 q.y) (.int .i64 q.wh) (.slice ra rn rc)) ⟨gh, (.slice ra rn rc), _, _, _, _, _, _, _, _, _, _, _, _, _, _, rfl, by simp [hsz], ?_⟩
        rw [hup]
        exact ⟨h.f0, fun _ h4 => no d8 h4, h.f2, fun _ h4 => no d8 h4, h.f4, fun _ h4 => no d8 h4, h.f6, fun _ h4 => no d8 h4, fun _ => ⟨(h.f8 d8).1, (h.f8 d8).2.2 d12 _ (set4_wrote Wh gh (.int .i64 q.x) (.int .i64 q.y) (.int .i64 q.wh) (.slice ra rn rc)), fun _ Wh'' hw => (h.f8 d8).2.2 d12 _ ((set4_wrote Wh gh (.int .i64 q.x) (.int .i64 q.y) (.int .i64 q.wh) (.slice ra rn rc)).trans hw)⟩, h.f9, h.f10, h.f11, fun _ => ⟨rfl, hg, set4_same _ _ _ _ hk⟩, h.f14, h.d8x1, h.d8x3, h.d8x5, h.d8x7, h.d9x8, h.d10x9, h.d11x9, fun _ => d12, fun _ => d8, set4_below _ _ _ _ h.fb hg⟩
      · obtain ⟨hun, o, ho, hall⟩ := mem_ready.1 hi
        obtain rfl : _ = o := Option.some.inj ho
        have hoff : l.getD 14 false = false := inv.off l 14 hun
        have hup := inv.upd_eq l 14 hun
        have d11 : l.getD 11 false = true := hall ⟨11, .data⟩ (by simp) (by decide)
        obtain rfl := h.f11 d11
        refine wpOp_step rfl (fun K' hK => ?_)
        have HK := Lib.hid hK
        clear hK hall ho
        go_simp
        refine HK.out _ _ ⟨gh, rh, _, _, _, _, _, _, _, _, _, _, _, _, _, _, rfl, by simp [hsz], ?_⟩
        rw [hup]
        exact ⟨h.f0, h.f1, h.f2, h.f3, h.f4, h.f5, h.f6, h.f7, h.f8, h.f9, h.f10, h.f11, h.f12, fun _ => rfl, h.d8x1, h.d8x3, h.d8x5, h.d8x7, h.d9x8, h.d10x9, h.d11x9, h.d13x12, h.d13x8, h.fb⟩
    · rintro l a' Wh ⟨gh, rh, t0, t1, t2, t3, t4, t5, t6, t7, t8, t9, t10, t11, t12, t14, rfl, hsz, h⟩ hr
      have hup : ∀ i, i < 15 → l.getD i false = true := inv.all_upm (by kernel_rfl) hsz hr
      obtain rfl := h.f0 (hup 0 (by omega))
      obtain rfl := h.f2 (hup 2 (by omega))
      obtain rfl := h.f4 (hup 4 (by omega))
      obtain rfl := h.f6 (hup 6 (by omega))
      obtain rfl := h.f9 (hup 9 (by omega))
      obtain rfl := h.f10 (hup 10 (by omega))
      obtain rfl := h.f11 (hup 11 (by omega))
      obtain rfl := h.f14 (hup 14 (by omega))
      obtain ⟨e32, huW, _⟩ := h.f8 (hup 8 (by omega))
      subst e32
      obtain ⟨e6, hgb, hk⟩ := h.f12 (hup 12 (by omega))
      subst e6
      have hk : Blk Wh gh 48 (cel (l.getD 13 false) q rh) := hk
      rw [cel_on (hup 13 (by omega))] at hk
      have hbt := h.fb
      clear h hup hr hsz HA0 HA1 HA2 HA3
      obtain ⟨Hha, Hhn, Hhc, rfl⟩ := huW.shape
      obtain rfl := HQ.out
      clear HQ
      clear p0c0 p0c1 p0c2 p0c3 p0c4 p1c0 p1c1 p1c2 p1c3 p1c4 p2c0 p2c1 p2c2 p2c3 p3c0 p3c1 p3c2 p3c3 bWc0 bWc1 bWc2 bWc3 bWc4 bx0c0 bx0c1 bx0c2 bx0c3 bx0c4 bx1c0 bx1c1 bx1c2 bx1c3 bx1c4 bx2c0 bx2c1 bx2c2 bx2c3 bx3c0 bx3c1 bx3c2 bx3c3 bGc0 bGc1 bGc2 bGc3 bGc4
      have BE99 := Lib.hid (below_tr BE98.out hbt)
      have HBW99 := Lib.hid (below_tr HBW98.out hbt)
      have HBM99 := Lib.hid (below_tr HBM98.out hbt)
      have KBp099 := Lib.hid (KBp098.out.below hbt)
      have KBp199 := Lib.hid (KBp198.out.below hbt)
      have KBp299 := Lib.hid (KBp298.out.below hbt)
      have KBp399 := Lib.hid (KBp398.out.below hbt)
      have KBbW99 := Lib.hid (KBbW98.out.below hbt)
      have KBbx099 := Lib.hid (KBbx098.out.below hbt)
      have KBbx199 := Lib.hid (KBbx198.out.below hbt)
      have KBbx299 := Lib.hid (KBbx298.out.below hbt)
      have KBbx399 := Lib.hid (KBbx398.out.below hbt)
      have KBbG99 := Lib.hid (KBbG98.out.below hbt)
      have ZZ99 : Hid (wh97.heap.size ≤ Wh.heap.size) := Lib.hid (by have := (hbt).size; simpa using this)
      clear BE98 HBW98 HBM98 KBp098 KBp198 KBp298 KBp398 KBbW98 KBbx098 KBbx198 KBbx298 KBbx398 KBbG98
      obtain ⟨p0c0, p0c1, p0c2, p0c3, p0c4⟩ := four_cells KBp099.out
      obtain ⟨p1c0, p1c1, p1c2, p1c3, p1c4⟩ := four_cells KBp199.out
      obtain ⟨p2c0, p2c1, p2c2, p2c3⟩ := scene.three_cells KBp299.out
      obtain ⟨p3c0, p3c1, p3c2, p3c3⟩ := scene.three_cells KBp399.out
      obtain ⟨bWc0, bWc1, bWc2, bWc3, bWc4⟩ := four_cells KBbW99.out
      obtain ⟨bx0c0, bx0c1, bx0c2, bx0c3, bx0c4⟩ := four_cells KBbx099.out
      obtain ⟨bx1c0, bx1c1, bx1c2, bx1c3, bx1c4⟩ := four_cells KBbx199.out
      obtain ⟨bx2c0, bx2c1, bx2c2, bx2c3⟩ := scene.three_cells KBbx299.out
      obtain ⟨bx3c0, bx3c1, bx3c2, bx3c3⟩ := scene.three_cells KBbx399.out
      obtain ⟨bGc0, bGc1, bGc2, bGc3, bGc4⟩ := four_cells KBbG99.out
      clear hbt hgb
      have VWHh := Lib.hid huW
      have HBHh := Lib.hid (Below.refl Wh.heap.size Wh)
      clear huW
      have ZZgHh : Hid (gh + 1 ≤ Wh.heap.size) := Lib.hid hk.lt
      have KBbHh0 := Lib.hid hk
      clear hk
      obtain ⟨bHhc0, bHhc1, bHhc2, bHhc3, bHhc4⟩ := four_cells KBbHh0.out
      go_wp2_with fail
      refine (box.eq_same ((wrm.res x0 y0 wh0 xss0 x1 y1 wh1 xss1 ss2 xss2 yss2 ss3 xss3 yss3).x) ((wrm.res x0 y0 wh0 xss0 x1 y1 wh1 xss1 ss2 xss2 yss2 ss3 xss3 yss3).y) ((wrm.res x0 y0 wh0 xss0 x1 y1 wh1 xss1 ss2 xss2 yss2 ss3 xss3 yss3).wh) _ _ ((wrm.res x0 y0 wh0 xss0 x1 y1 wh1 xss1 ss2 xss2 yss2 ss3 xss3 yss3).rows) _ (VWHh.out.below HBHh.out) (VWW.out.below HBW99.out) wrm.tot_res).mono ?_
      rintro e we100 ⟨rfl, hb⟩
      clear p0c0 p0c1 p0c2 p0c3 p0c4 p1c0 p1c1 p1c2 p1c3 p1c4 p2c0 p2c1 p2c2 p2c3 p3c0 p3c1 p3c2 p3c3 bWc0 bWc1 bWc2 bWc3 bWc4 bx0c0 bx0c1 bx0c2 bx0c3 bx0c4 bx1c0 bx1c1 bx1c2 bx1c3 bx1c4 bx2c0 bx2c1 bx2c2 bx2c3 bx3c0 bx3c1 bx3c2 bx3c3 bGc0 bGc1 bGc2 bGc3 bGc4 bHhc0 bHhc1 bHhc2 bHhc3 bHhc4
      have BE101 := Lib.hid (below_tr BE99.out hb)
      have HBW101 := Lib.hid (below_tr HBW99.out hb)
      have HBM101 := Lib.hid (below_tr HBM99.out hb)
      have HBHh101 := Lib.hid (below_tr HBHh.out hb)
      have KBp0101 := Lib.hid (KBp099.out.below hb)
      have KBp1101 := Lib.hid (KBp199.out.below hb)
      have KBp2101 := Lib.hid (KBp299.out.below hb)
      have KBp3101 := Lib.hid (KBp399.out.below hb)
      have KBbW101 := Lib.hid (KBbW99.out.below hb)
      have KBbx0101 := Lib.hid (KBbx099.out.below hb)
      have KBbx1101 := Lib.hid (KBbx199.out.below hb)
      have KBbx2101 := Lib.hid (KBbx299.out.below hb)
      have KBbx3101 := Lib.hid (KBbx399.out.below hb)
      have KBbG101 := Lib.hid (KBbG99.out.below hb)
      have KBbHh101 := Lib.hid (KBbHh0.out.below hb)
      have ZZ101 : Hid (Wh.heap.size ≤ we100.heap.size) := Lib.hid (by have := (hb).size; simpa using this)
      clear BE99 HBW99 HBM99 HBHh KBp099 KBp199 KBp299 KBp399 KBbW99 KBbx099 KBbx199 KBbx299 KBbx399 KBbG99 KBbHh0
      obtain ⟨p0c0, p0c1, p0c2, p0c3, p0c4⟩ := four_cells KBp0101.out
      obtain ⟨p1c0, p1c1, p1c2, p1c3, p1c4⟩ := four_cells KBp1101.out
      obtain ⟨p2c0, p2c1, p2c2, p2c3⟩ := scene.three_cells KBp2101.out
      obtain ⟨p3c0, p3c1, p3c2, p3c3⟩ := scene.three_cells KBp3101.out
      obtain ⟨bWc0, bWc1, bWc2, bWc3, bWc4⟩ := four_cells KBbW101.out
      obtain ⟨bx0c0, bx0c1, bx0c2, bx0c3, bx0c4⟩ := four_cells KBbx0101.out
      obtain ⟨bx1c0, bx1c1, bx1c2, bx1c3, bx1c4⟩ := four_cells KBbx1101.out
      obtain ⟨bx2c0, bx2c1, bx2c2, bx2c3⟩ := scene.three_cells KBbx2101.out
      obtain ⟨bx3c0, bx3c1, bx3c2, bx3c3⟩ := scene.three_cells KBbx3101.out
      obtain ⟨bGc0, bGc1, bGc2, bGc3, bGc4⟩ := four_cells KBbG101.out
      obtain ⟨bHhc0, bHhc1, bHhc2, bHhc3, bHhc4⟩ := four_cells KBbHh101.out
      clear hb
      go_wp2_with fail
      refine (box.held_any ((wrm.res x0 y0 wh0 xss0 x1 y1 wh1 xss1 ss2 xss2 yss2 ss3 xss3 yss3).x) ((wrm.res x0 y0 wh0 xss0 x1 y1 wh1 xss1 ss2 xss2 yss2 ss3 xss3 yss3).y) ((wrm.res x0 y0 wh0 xss0 x1 y1 wh1 xss1 ss2 xss2 yss2 ss3 xss3 yss3).wh) _ ((wrm.res x0 y0 wh0 xss0 x1 y1 wh1 xss1 ss2 xss2 yss2 ss3 xss3 yss3).rows) 1 _ (VWM.out.below HBM101.out) wrm.tot_res (by omega) (by omega)).mono ?_
      rintro e wh102 ⟨rfl, hb⟩
      clear p0c0 p0c1 p0c2 p0c3 p0c4 p1c0 p1c1 p1c2 p1c3 p1c4 p2c0 p2c1 p2c2 p2c3 p3c0 p3c1 p3c2 p3c3 bWc0 bWc1 bWc2 bWc3 bWc4 bx0c0 bx0c1 bx0c2 bx0c3 bx0c4 bx1c0 bx1c1 bx1c2 bx1c3 bx1c4 bx2c0 bx2c1 bx2c2 bx2c3 bx3c0 bx3c1 bx3c2 bx3c3 bGc0 bGc1 bGc2 bGc3 bGc4 bHhc0 bHhc1 bHhc2 bHhc3 bHhc4
      have BE103 := Lib.hid (below_tr BE101.out hb)
      have HBW103 := Lib.hid (below_tr HBW101.out hb)
      have HBM103 := Lib.hid (below_tr HBM101.out hb)
      have HBHh103 := Lib.hid (below_tr HBHh101.out hb)
      have KBp0103 := Lib.hid (KBp0101.out.below hb)
      have KBp1103 := Lib.hid (KBp1101.out.below hb)
      have KBp2103 := Lib.hid (KBp2101.out.below hb)
      have KBp3103 := Lib.hid (KBp3101.out.below hb)
      have KBbW103 := Lib.hid (KBbW101.out.below hb)
      have KBbx0103 := Lib.hid (KBbx0101.out.below hb)
      have KBbx1103 := Lib.hid (KBbx1101.out.below hb)
      have KBbx2103 := Lib.hid (KBbx2101.out.below hb)
      have KBbx3103 := Lib.hid (KBbx3101.out.below hb)
      have KBbG103 := Lib.hid (KBbG101.out.below hb)
      have KBbHh103 := Lib.hid (KBbHh101.out.below hb)
      have ZZ103 : Hid (we100.heap.size ≤ wh102.heap.size) := Lib.hid (by have := (hb).size; simpa using this)
      clear BE101 HBW101 HBM101 HBHh101 KBp0101 KBp1101 KBp2101 KBp3101 KBbW101 KBbx0101 KBbx1101 KBbx2101 KBbx3101 KBbG101 KBbHh101
      obtain ⟨p0c0, p0c1, p0c2, p0c3, p0c4⟩ := four_cells KBp0103.out
      obtain ⟨p1c0, p1c1, p1c2, p1c3, p1c4⟩ := four_cells KBp1103.out
      obtain ⟨p2c0, p2c1, p2c2, p2c3⟩ := scene.three_cells KBp2103.out
      obtain ⟨p3c0, p3c1, p3c2, p3c3⟩ := scene.three_cells KBp3103.out
      obtain ⟨bWc0, bWc1, bWc2, bWc3, bWc4⟩ := four_cells KBbW103.out
      obtain ⟨bx0c0, bx0c1, bx0c2, bx0c3, bx0c4⟩ := four_cells KBbx0103.out
      obtain ⟨bx1c0, bx1c1, bx1c2, bx1c3, bx1c4⟩ := four_cells KBbx1103.out
      obtain ⟨bx2c0, bx2c1, bx2c2, bx2c3⟩ := scene.three_cells KBbx2103.out
      obtain ⟨bx3c0, bx3c1, bx3c2, bx3c3⟩ := scene.three_cells KBbx3103.out
      obtain ⟨bGc0, bGc1, bGc2, bGc3, bGc4⟩ := four_cells KBbG103.out
      obtain ⟨bHhc0, bHhc1, bHhc2, bHhc3, bHhc4⟩ := four_cells KBbHh103.out
      clear hb
      go_wp2_with fail
      go_ret
      exact ⟨rfl, BE103.out⟩

/-! ### the frame of the row -/
theorem own : ownKnob Try.prog.godebug = none := by kernel_rfl
theorem laidOut : laidOutB Try.prog = true := by kernel_rfl
set_option maxRecDepth 100000 in
theorem lifted (os : Os) (started : os.Started) (H : Type) (enc : TypeId × Value → H) :
    ReturnsInHanded {} Try.checked os 8 .any (Rows.fnExactWireBoxesSpec.pre6 enc Try.prog Try.f8 Rows.fnExactWireBoxesRow.domain false) (Rows.fnExactWireBoxesSpec.post enc Try.prog Try.f8 false true false false) := by
  refine returnsInHanded_of_change (C := Try.checked) own started (by kernel_rfl) Try.func8
    (ChangeSpec.witness6 (enc := enc) (C := Try.checked) false ⟨#[], #[.agg #[.int .i64 0, .int .i64 0, .int .i64 0, .slice none 0 0], .agg #[.int .i64 0, .int .i64 0, .int .i64 0, .slice none 0 0], .agg #[.slice none 0 0, .slice none 0 0, .slice none 0 0], .agg #[.slice none 0 0, .slice none 0 0, .slice none 0 0]], []⟩ 8 (by kernel_rfl) (by kernel_rfl) (by kernel_rfl) (by kernel_rfl)) ?_
  intro W base args ds gs before hval0 hW _ _
  have hval : ∀ (j : Nat) t v, Try.f8.params[j]? = some t → args[j]? = some v → Value.okWide Try.prog W .any base t v := hval0
  have hW' := hW
  obtain ⟨p, q, hA0, hV, rfl, hfz, hnd⟩ := hW
  have hA : DataW.TrodAll enc Try.prog W 0 (fun _ => true) true Try.f8.params.toList args.toList ds p := hA0
  rw [Try.params8] at hA hval
  obtain ⟨v0, vs0, d0, ds0, p0, q0, hargs, rfl, rfl, h0, r0⟩ := trodAll_cons hA
  obtain ⟨v1, vs1, d1, ds1, p1, q1, rfl, rfl, rfl, h1, r1⟩ := trodAll_cons r0
  obtain ⟨v2, vs2, d2, ds2, p2, q2, rfl, rfl, rfl, h2, r2⟩ := trodAll_cons r1
  obtain ⟨v3, vs3, d3, ds3, p3, q3, rfl, rfl, rfl, h3, r3⟩ := trodAll_cons r2
  obtain ⟨rfl, rfl, rfl⟩ := trodAll_nil r3
  obtain rfl : args = #[v0, v1, v2, v3] := by cases args; simp_all
  obtain ⟨rfl, rfl⟩ := trodVars_none hV
  have lt0 : ∀ x ∈ p0, x.block < W.heap.size := by obtain ⟨m, hm⟩ := h0; exact DataW.trod_lt m _ _ _ hm
  obtain ⟨x0, y0, wh0, u0, xss0, rfl, g0⟩ := opn.box_of_trod Try.underlying46 (by kernel_rfl) (by kernel_rfl) Try.underlying3 Try.underlying3 Try.underlying3 Try.underlying23 Try.underlying22 Try.underlying3 (by kernel_rfl) (by kernel_rfl) (hval 0 46 v0 rfl rfl) h0
  have lt1 : ∀ x ∈ p1, x.block < W.heap.size := by obtain ⟨m, hm⟩ := h1; exact DataW.trod_lt m _ _ _ hm
  obtain ⟨x1, y1, wh1, u1, xss1, rfl, g1⟩ := opn.box_of_trod Try.underlying46 (by kernel_rfl) (by kernel_rfl) Try.underlying3 Try.underlying3 Try.underlying3 Try.underlying23 Try.underlying22 Try.underlying3 (by kernel_rfl) (by kernel_rfl) (hval 1 46 v1 rfl rfl) h1
  have lt2 : ∀ x ∈ p2, x.block < W.heap.size := by obtain ⟨m, hm⟩ := h2; exact DataW.trod_lt m _ _ _ hm
  obtain ⟨sv2, ss2, u2, xss2, nv2, yss2, rfl, g12, g22, g32⟩ := opnr.rule_of_trod Try.underlying25 (by kernel_rfl) (by kernel_rfl) Try.underlying22 Try.underlying23 Try.underlying23 Try.underlying22 Try.underlying3 (by kernel_rfl) (by kernel_rfl) (hval 2 25 v2 rfl rfl) h2
  have g2 : rule.RV W sv2 ss2 u2 xss2 nv2 yss2 := ⟨g12, g22, g32⟩
  have lt3 : ∀ x ∈ p3, x.block < W.heap.size := by obtain ⟨m, hm⟩ := h3; exact DataW.trod_lt m _ _ _ hm
  obtain ⟨sv3, ss3, u3, xss3, nv3, yss3, rfl, g13, g23, g33⟩ := opnr.rule_of_trod Try.underlying25 (by kernel_rfl) (by kernel_rfl) Try.underlying22 Try.underlying23 Try.underlying23 Try.underlying22 Try.underlying3 (by kernel_rfl) (by kernel_rfl) (hval 3 25 v3 rfl rfl) h3
  have g3 : rule.RV W sv3 ss3 u3 xss3 nv3 yss3 := ⟨g13, g23, g33⟩
  clear hA0 hval0
  refine (walk x0 y0 wh0 u0 xss0 x1 y1 wh1 u1 xss1 sv2 ss2 u2 xss2 nv2 yss2 sv3 ss3 u3 xss3 nv3 yss3 W g0 g1 g2 g3).mono fun e W' ⟨he, bel⟩ => ?_
  subst he
  exact ⟨_, rfl, _, _, _, [], _, [], hW', trodAll_mk1 (shut_bool Try.underlying4 _), (trodAll_cons_mk (Below.trod laidOut (by kernel_rfl) (of_decide_eq_true (by kernel_rfl)) h0 bel lt0) (trodAll_cons_mk (Below.trod laidOut (by kernel_rfl) (of_decide_eq_true (by kernel_rfl)) h1 bel lt1) (trodAll_cons_mk (Below.trod laidOut (by kernel_rfl) (of_decide_eq_true (by kernel_rfl)) h2 bel lt2) (trodAll_cons_mk (Below.trod laidOut (by kernel_rfl) (of_decide_eq_true (by kernel_rfl)) h3 bel lt3) trodAll_mk0)))), rfl, bel.frame _, fun h => by cases h⟩
end Go.Proofs.Ytneonebgneonkaa.lawWireBoxes
