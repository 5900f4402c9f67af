/- The walk of the law FnExactMixWirings, and its frame. -/
import Derived.Test.YtiigfhigmdjooaaBox
import Derived.Test.YtiigfhigmdjooaaMxq
import Derived.Test.YtiigfhigmdjooaaMxo
import Derived.Test.YtiigfhigmdjooaaInv
import Derived.Test.YtiigfhigmdjooaaRlt
import Derived.Test.YtiigfhigmdjooaaRlm
import Derived.Test.YtiigfhigmdjooaaRop
import Derived.Test.YtiigfhigmdjooaaRows
import Derived.Deep.RegionHeld3
namespace Go.Proofs.Ytiigfhigmdjooaa.lawMixWirings
open Go.ChangeShapes Go.WideShapes Go.ChangeAt Go.RowKit Go.Deep Go.Proofs.Ytiigfhigmdjooaa.base
open Go.ChangeMaps (open_string shut_string)

def zer : Array Value := #[.int .i64 0, .int .i64 0, .int .i64 0, .slice none 0 0]
def cel (c : Bool) (q : make.Res) (r : Value) : Array Value := if c = true then #[.int .i64 q.x, .int .i64 q.y, .int .i64 q.wh, r] else zer
theorem cel_off {c : Bool} (h : c = false) (q : make.Res) (r : Value) : cel c q r = zer := by rw [h]; rfl
theorem cel_on {c : Bool} (h : c = true) (q : make.Res) (r : Value) : cel c q r = #[.int .i64 q.x, .int .i64 q.y, .int .i64 q.wh, r] := by rw [h]; rfl
theorem off_of {b c : Bool} (h : c = true → b = true) (hb : b = false) : c = false := by
  cases e : c with
  | false => rfl
  | true => rw [h e] at hb; cases hb
theorem no {b : Bool} {P : Prop} (h : b = true) (h' : b = false) : P := by rw [h] at h'; cases h'
def set4 (W : World) (g : Nat) (u0 u1 u2 u3 : Value) : World := (((W.setCell ⟨g, 0, none⟩ u0).setCell ⟨g, 1, none⟩ u1).setCell ⟨g, 2, none⟩ u2).setCell ⟨g, 3, none⟩ u3
theorem set4_same {W : World} {g : Nat} {t : TypeId} {z0 z1 z2 z3 : Value} (u0 u1 u2 u3 : Value) (h : Blk W g t #[z0, z1, z2, z3]) : Blk (set4 W g u0 u1 u2 u3) g t #[u0, u1, u2, u3] := by
  have h1 := Joins.block_setCell (i := 0) h u0
  have h2 := Joins.block_setCell (i := 1) h1 u1
  have h3 := Joins.block_setCell (i := 2) h2 u2
  have h4 := Joins.block_setCell (i := 3) h3 u3
  unfold Blk set4
  simpa using h4
theorem set4_wrote (W : World) (g : Nat) (u0 u1 u2 u3 : Value) : Wrote (fun p => p.block = g) W (set4 W g u0 u1 u2 u3) := by
  unfold set4
  exact Wrote.setCell (S := fun p => p.block = g) (Wrote.setCell (S := fun p => p.block = g) (Wrote.setCell (S := fun p => p.block = g) (Wrote.setCell (S := fun p => p.block = g) (Wrote.refl _ _) rfl _) rfl _) rfl _) rfl _
theorem set4_below {w W : World} {g : Nat} (u0 u1 u2 u3 : Value) (h : Below w.heap.size w W) (hg : w.heap.size ≤ g) : Below w.heap.size w (set4 W g u0 u1 u2 u3) := by
  unfold set4
  repeat (first | exact h | refine Below.setCell ?_ hg _)

/-- what holds while the operations of the first region come up, in whatever order -/
structure JJ (b : World) (x0 y0 wh0 : Int) (xss0 : List (List Int)) (x1 y1 wh1 : Int) (xss1 : List (List Int)) (rs2 : List rls.R3) (rs3 : List rls.R3) (V0 V1 V2 V3 : Value) (q : make.Res) (L : Nat → Bool) (g : Nat) (r s0 s1 s2 s3 s4 s5 s6 s7 s8 s9 s10 s11 s12 s14 : Value) (W : World) : Prop where
  f0 : L 0 = true → s0 = V0
  f1 : L 1 = true → L 8 = false → ∃ u, s1 = .agg #[.int .i64 x0, .int .i64 y0, .int .i64 wh0, u] ∧ IRows W u xss0
  f2 : L 2 = true → s2 = V1
  f3 : L 3 = true → L 8 = false → ∃ u, s3 = .agg #[.int .i64 x1, .int .i64 y1, .int .i64 wh1, u] ∧ IRows W u xss1
  f4 : L 4 = true → s4 = V2
  f5 : L 5 = true → L 8 = false → ∃ u, s5 = u ∧ rls.Rls W u rs2
  f6 : L 6 = true → s6 = V3
  f7 : L 7 = true → L 8 = false → ∃ u, s7 = u ∧ rls.Rls W u rs3
  f8 : L 8 = true → s8 = .tuple #[.agg #[.int .i64 q.x, .int .i64 q.y, .int .i64 q.wh, r], .bool q.ok] ∧ IRows W r q.rows ∧ (L 12 = true → ∀ W', Wrote (fun p => p.block = g) W W' → IRows W' r q.rows)
  f9 : L 9 = true → s9 = .tuple #[.agg #[.int .i64 q.x, .int .i64 q.y, .int .i64 q.wh, r], .bool q.ok]
  f10 : L 10 = true → s10 = .agg #[.int .i64 q.x, .int .i64 q.y, .int .i64 q.wh, r]
  f11 : L 11 = true → s11 = .bool q.ok
  f12 : L 12 = true → s12 = .pointer (some ⟨g, 0, none⟩) ∧ b.heap.size ≤ g ∧ Blk W g 28 (cel (L 13) q r)
  f14 : L 14 = true → s14 = .bool q.ok
  d8x1 : L 8 = true → L 1 = true
  d8x3 : L 8 = true → L 3 = true
  d8x5 : L 8 = true → L 5 = true
  d8x7 : L 8 = true → L 7 = true
  d9x8 : L 9 = true → L 8 = true
  d10x9 : L 10 = true → L 9 = true
  d11x9 : L 11 = true → L 9 = true
  d13x12 : L 13 = true → L 12 = true
  d13x8 : L 13 = true → L 8 = true
  fb : Below b.heap.size b W

set_option maxRecDepth 100000 in
set_option maxHeartbeats 4000000 in
theorem walk (x0 y0 wh0 : Int) (u0 : Value) (xss0 : List (List Int)) (x1 y1 wh1 : Int) (u1 : Value) (xss1 : List (List Int)) (v2 : Value) (rs2 : List rls.R3) (v3 : Value) (rs3 : List rls.R3) (w : World) (h0 : IRows w u0 xss0) (h1 : IRows w u1 xss1) (h2 : rls.Rls w v2 rs2) (h3 : rls.Rls w v3 rs3) :
    Calls Try.prog 3 #[.agg #[.int .i64 x0, .int .i64 y0, .int .i64 wh0, u0], .agg #[.int .i64 x1, .int .i64 y1, .int .i64 wh1, u1], v2, v3] w fun e w' => e = .returned (.bool true) ∧ Below w.heap.size w w' := by
  obtain ⟨va0, vn0, vc0, rfl⟩ := h0.shape
  obtain ⟨va1, vn1, vc1, rfl⟩ := h1.shape
  obtain ⟨va2, vn2, vc2, rfl⟩ := rop.shape h2
  obtain ⟨va3, vn3, vc3, rfl⟩ := rop.shape h3
  have H0 := Lib.hid h0
  have H1 := Lib.hid h1
  have H2 := Lib.hid h2
  have H3 := Lib.hid h3
  clear h0 h1 h2 h3
  by_cases hs0 : rws.sz xss0 (1048576) < 0
  · skip
    go_enter Try.func3, Try.ntmps3
    have BE0 := Lib.hid (Below.refl w.heap.size w)
    have BE1 := Lib.hid (below_al BE0.out (.cells #[.int .i64 x0, .int .i64 y0, .int .i64 wh0, .slice va0 vn0 vc0] 24))
    have KBp01 := Lib.hid (Blk.new w 24 #[.int .i64 x0, .int .i64 y0, .int .i64 wh0, .slice va0 vn0 vc0])
    clear BE0
    have BE2 := Lib.hid (below_al BE1.out (.cells #[.int .i64 x1, .int .i64 y1, .int .i64 wh1, .slice va1 vn1 vc1] 24))
    have KBp02 := Lib.hid (KBp01.out.alloc (.cells #[.int .i64 x1, .int .i64 y1, .int .i64 wh1, .slice va1 vn1 vc1] 24))
    have KBp12 : Hid (Blk ((w.alloc (.cells #[.int .i64 x0, .int .i64 y0, .int .i64 wh0, .slice va0 vn0 vc0] 24)).alloc (.cells #[.int .i64 x1, .int .i64 y1, .int .i64 wh1, .slice va1 vn1 vc1] 24)) (w.heap.size + 1) 24 #[.int .i64 x1, .int .i64 y1, .int .i64 wh1, .slice va1 vn1 vc1]) := Lib.hid (by have := Blk.new (w.alloc (.cells #[.int .i64 x0, .int .i64 y0, .int .i64 wh0, .slice va0 vn0 vc0] 24)) 24 #[.int .i64 x1, .int .i64 y1, .int .i64 wh1, .slice va1 vn1 vc1]; simpa using this)
    clear BE1 KBp01
    go_wp2_with fail
    refine (box.sz_any x0 y0 wh0 _ xss0 (1048576) _ (H0.out.below BE2.out) (by omega) (by omega)).mono ?_
    rintro e wz3 ⟨rfl, hb⟩
    have BE4 := Lib.hid (below_tr BE2.out hb)
    have KBp04 := Lib.hid (KBp02.out.below hb)
    have KBp14 := Lib.hid (KBp12.out.below hb)
    have ZZ4 : Hid (w.heap.size + 1 + 1 ≤ wz3.heap.size) := Lib.hid (by have := (hb).size; simpa using this)
    clear BE2 KBp02 KBp12
    obtain ⟨p0c0, p0c1, p0c2, p0c3, p0c4⟩ := four_cells KBp04.out
    obtain ⟨p1c0, p1c1, p1c2, p1c3, p1c4⟩ := four_cells KBp14.out
    clear hb
    go_wp2_with fail
    go_ret
    exact ⟨rfl, BE4.out⟩
  have hq0 := rws.sz_bound hs0
  have hn0 : rws.total xss0 ≤ 1048576 := by omega
  by_cases hs1 : rws.sz xss1 (rws.sz xss0 (1048576)) < 0
  · skip
    go_enter Try.func3, Try.ntmps3
    have BE0 := Lib.hid (Below.refl w.heap.size w)
    have BE5 := Lib.hid (below_al BE0.out (.cells #[.int .i64 x0, .int .i64 y0, .int .i64 wh0, .slice va0 vn0 vc0] 24))
    have KBp05 := Lib.hid (Blk.new w 24 #[.int .i64 x0, .int .i64 y0, .int .i64 wh0, .slice va0 vn0 vc0])
    clear BE0
    have BE6 := Lib.hid (below_al BE5.out (.cells #[.int .i64 x1, .int .i64 y1, .int .i64 wh1, .slice va1 vn1 vc1] 24))
    have KBp06 := Lib.hid (KBp05.out.alloc (.cells #[.int .i64 x1, .int .i64 y1, .int .i64 wh1, .slice va1 vn1 vc1] 24))
    have KBp16 : Hid (Blk ((w.alloc (.cells #[.int .i64 x0, .int .i64 y0, .int .i64 wh0, .slice va0 vn0 vc0] 24)).alloc (.cells #[.int .i64 x1, .int .i64 y1, .int .i64 wh1, .slice va1 vn1 vc1] 24)) (w.heap.size + 1) 24 #[.int .i64 x1, .int .i64 y1, .int .i64 wh1, .slice va1 vn1 vc1]) := Lib.hid (by have := Blk.new (w.alloc (.cells #[.int .i64 x0, .int .i64 y0, .int .i64 wh0, .slice va0 vn0 vc0] 24)) 24 #[.int .i64 x1, .int .i64 y1, .int .i64 wh1, .slice va1 vn1 vc1]; simpa using this)
    clear BE5 KBp05
    go_wp2_with fail
    refine (box.sz_any x0 y0 wh0 _ xss0 (1048576) _ (H0.out.below BE6.out) (by omega) (by omega)).mono ?_
    rintro e wz7 ⟨rfl, hb⟩
    have BE8 := Lib.hid (below_tr BE6.out hb)
    have KBp08 := Lib.hid (KBp06.out.below hb)
    have KBp18 := Lib.hid (KBp16.out.below hb)
    have ZZ8 : Hid (w.heap.size + 1 + 1 ≤ wz7.heap.size) := Lib.hid (by have := (hb).size; simpa using this)
    clear BE6 KBp06 KBp16
    obtain ⟨p0c0, p0c1, p0c2, p0c3, p0c4⟩ := four_cells KBp08.out
    obtain ⟨p1c0, p1c1, p1c2, p1c3, p1c4⟩ := four_cells KBp18.out
    clear hb
    go_wp2_with fail
    refine (box.sz_any x1 y1 wh1 _ xss1 (rws.sz xss0 (1048576)) _ (H1.out.below BE8.out) (by omega) (by omega)).mono ?_
    rintro e wz9 ⟨rfl, hb⟩
    clear p0c0 p0c1 p0c2 p0c3 p0c4 p1c0 p1c1 p1c2 p1c3 p1c4
    have BE10 := Lib.hid (below_tr BE8.out hb)
    have KBp010 := Lib.hid (KBp08.out.below hb)
    have KBp110 := Lib.hid (KBp18.out.below hb)
    have ZZ10 : Hid (wz7.heap.size ≤ wz9.heap.size) := Lib.hid (by have := (hb).size; simpa using this)
    clear BE8 KBp08 KBp18
    obtain ⟨p0c0, p0c1, p0c2, p0c3, p0c4⟩ := four_cells KBp010.out
    obtain ⟨p1c0, p1c1, p1c2, p1c3, p1c4⟩ := four_cells KBp110.out
    clear hb
    go_wp2_with fail
    go_ret
    exact ⟨rfl, BE10.out⟩
  have hq1 := rws.sz_bound hs1
  have hn1 : rws.total xss1 ≤ 1048576 := by omega
  by_cases hs2 : rls.sz rs2 (rws.sz xss1 (rws.sz xss0 (1048576))) < 0
  · skip
    go_enter Try.func3, Try.ntmps3
    have BE0 := Lib.hid (Below.refl w.heap.size w)
    have BE11 := Lib.hid (below_al BE0.out (.cells #[.int .i64 x0, .int .i64 y0, .int .i64 wh0, .slice va0 vn0 vc0] 24))
    have KBp011 := Lib.hid (Blk.new w 24 #[.int .i64 x0, .int .i64 y0, .int .i64 wh0, .slice va0 vn0 vc0])
    clear BE0
    have BE12 := Lib.hid (below_al BE11.out (.cells #[.int .i64 x1, .int .i64 y1, .int .i64 wh1, .slice va1 vn1 vc1] 24))
    have KBp012 := Lib.hid (KBp011.out.alloc (.cells #[.int .i64 x1, .int .i64 y1, .int .i64 wh1, .slice va1 vn1 vc1] 24))
    have KBp112 : Hid (Blk ((w.alloc (.cells #[.int .i64 x0, .int .i64 y0, .int .i64 wh0, .slice va0 vn0 vc0] 24)).alloc (.cells #[.int .i64 x1, .int .i64 y1, .int .i64 wh1, .slice va1 vn1 vc1] 24)) (w.heap.size + 1) 24 #[.int .i64 x1, .int .i64 y1, .int .i64 wh1, .slice va1 vn1 vc1]) := Lib.hid (by have := Blk.new (w.alloc (.cells #[.int .i64 x0, .int .i64 y0, .int .i64 wh0, .slice va0 vn0 vc0] 24)) 24 #[.int .i64 x1, .int .i64 y1, .int .i64 wh1, .slice va1 vn1 vc1]; simpa using this)
    clear BE11 KBp011
    go_wp2_with fail
    refine (box.sz_any x0 y0 wh0 _ xss0 (1048576) _ (H0.out.below BE12.out) (by omega) (by omega)).mono ?_
    rintro e wz13 ⟨rfl, hb⟩
    have BE14 := Lib.hid (below_tr BE12.out hb)
    have KBp014 := Lib.hid (KBp012.out.below hb)
    have KBp114 := Lib.hid (KBp112.out.below hb)
    have ZZ14 : Hid (w.heap.size + 1 + 1 ≤ wz13.heap.size) := Lib.hid (by have := (hb).size; simpa using this)
    clear BE12 KBp012 KBp112
    obtain ⟨p0c0, p0c1, p0c2, p0c3, p0c4⟩ := four_cells KBp014.out
    obtain ⟨p1c0, p1c1, p1c2, p1c3, p1c4⟩ := four_cells KBp114.out
    clear hb
    go_wp2_with fail
    refine (box.sz_any x1 y1 wh1 _ xss1 (rws.sz xss0 (1048576)) _ (H1.out.below BE14.out) (by omega) (by omega)).mono ?_
    rintro e wz15 ⟨rfl, hb⟩
    clear p0c0 p0c1 p0c2 p0c3 p0c4 p1c0 p1c1 p1c2 p1c3 p1c4
    have BE16 := Lib.hid (below_tr BE14.out hb)
    have KBp016 := Lib.hid (KBp014.out.below hb)
    have KBp116 := Lib.hid (KBp114.out.below hb)
    have ZZ16 : Hid (wz13.heap.size ≤ wz15.heap.size) := Lib.hid (by have := (hb).size; simpa using this)
    clear BE14 KBp014 KBp114
    obtain ⟨p0c0, p0c1, p0c2, p0c3, p0c4⟩ := four_cells KBp016.out
    obtain ⟨p1c0, p1c1, p1c2, p1c3, p1c4⟩ := four_cells KBp116.out
    clear hb
    go_wp2_with fail
    refine (rls.sz_any _ rs2 (rws.sz xss1 (rws.sz xss0 (1048576))) _ (H2.out.below BE16.out) (by omega) (by omega)).mono ?_
    rintro e wz17 ⟨rfl, hb⟩
    clear p0c0 p0c1 p0c2 p0c3 p0c4 p1c0 p1c1 p1c2 p1c3 p1c4
    have BE18 := Lib.hid (below_tr BE16.out hb)
    have KBp018 := Lib.hid (KBp016.out.below hb)
    have KBp118 := Lib.hid (KBp116.out.below hb)
    have ZZ18 : Hid (wz15.heap.size ≤ wz17.heap.size) := Lib.hid (by have := (hb).size; simpa using this)
    clear BE16 KBp016 KBp116
    obtain ⟨p0c0, p0c1, p0c2, p0c3, p0c4⟩ := four_cells KBp018.out
    obtain ⟨p1c0, p1c1, p1c2, p1c3, p1c4⟩ := four_cells KBp118.out
    clear hb
    go_wp2_with fail
    go_ret
    exact ⟨rfl, BE18.out⟩
  obtain ⟨hp2, hr2, hq2, hm2⟩ := rop.sz_bound hs2 (by omega)
  have hn2 : rs2.length ≤ 1048576 := by omega
  have hc2 := rls.cnt_pos rs2
  have HM2 := Lib.hid hm2
  clear hm2
  by_cases hs3 : rls.sz rs3 (rls.sz rs2 (rws.sz xss1 (rws.sz xss0 (1048576)))) < 0
  · skip
    go_enter Try.func3, Try.ntmps3
    have BE0 := Lib.hid (Below.refl w.heap.size w)
    have BE19 := Lib.hid (below_al BE0.out (.cells #[.int .i64 x0, .int .i64 y0, .int .i64 wh0, .slice va0 vn0 vc0] 24))
    have KBp019 := Lib.hid (Blk.new w 24 #[.int .i64 x0, .int .i64 y0, .int .i64 wh0, .slice va0 vn0 vc0])
    clear BE0
    have BE20 := Lib.hid (below_al BE19.out (.cells #[.int .i64 x1, .int .i64 y1, .int .i64 wh1, .slice va1 vn1 vc1] 24))
    have KBp020 := Lib.hid (KBp019.out.alloc (.cells #[.int .i64 x1, .int .i64 y1, .int .i64 wh1, .slice va1 vn1 vc1] 24))
    have KBp120 : Hid (Blk ((w.alloc (.cells #[.int .i64 x0, .int .i64 y0, .int .i64 wh0, .slice va0 vn0 vc0] 24)).alloc (.cells #[.int .i64 x1, .int .i64 y1, .int .i64 wh1, .slice va1 vn1 vc1] 24)) (w.heap.size + 1) 24 #[.int .i64 x1, .int .i64 y1, .int .i64 wh1, .slice va1 vn1 vc1]) := Lib.hid (by have := Blk.new (w.alloc (.cells #[.int .i64 x0, .int .i64 y0, .int .i64 wh0, .slice va0 vn0 vc0] 24)) 24 #[.int .i64 x1, .int .i64 y1, .int .i64 wh1, .slice va1 vn1 vc1]; simpa using this)
    clear BE19 KBp019
    go_wp2_with fail
    refine (box.sz_any x0 y0 wh0 _ xss0 (1048576) _ (H0.out.below BE20.out) (by omega) (by omega)).mono ?_
    rintro e wz21 ⟨rfl, hb⟩
    have BE22 := Lib.hid (below_tr BE20.out hb)
    have KBp022 := Lib.hid (KBp020.out.below hb)
    have KBp122 := Lib.hid (KBp120.out.below hb)
    have ZZ22 : Hid (w.heap.size + 1 + 1 ≤ wz21.heap.size) := Lib.hid (by have := (hb).size; simpa using this)
    clear BE20 KBp020 KBp120
    obtain ⟨p0c0, p0c1, p0c2, p0c3, p0c4⟩ := four_cells KBp022.out
    obtain ⟨p1c0, p1c1, p1c2, p1c3, p1c4⟩ := four_cells KBp122.out
    clear hb
    go_wp2_with fail
    refine (box.sz_any x1 y1 wh1 _ xss1 (rws.sz xss0 (1048576)) _ (H1.out.below BE22.out) (by omega) (by omega)).mono ?_
    rintro e wz23 ⟨rfl, hb⟩
    clear p0c0 p0c1 p0c2 p0c3 p0c4 p1c0 p1c1 p1c2 p1c3 p1c4
    have BE24 := Lib.hid (below_tr BE22.out hb)
    have KBp024 := Lib.hid (KBp022.out.below hb)
    have KBp124 := Lib.hid (KBp122.out.below hb)
    have ZZ24 : Hid (wz21.heap.size ≤ wz23.heap.size) := Lib.hid (by have := (hb).size; simpa using this)
    clear BE22 KBp022 KBp122
    obtain ⟨p0c0, p0c1, p0c2, p0c3, p0c4⟩ := four_cells KBp024.out
    obtain ⟨p1c0, p1c1, p1c2, p1c3, p1c4⟩ := four_cells KBp124.out
    clear hb
    go_wp2_with fail
    refine (rls.sz_any _ rs2 (rws.sz xss1 (rws.sz xss0 (1048576))) _ (H2.out.below BE24.out) (by omega) (by omega)).mono ?_
    rintro e wz25 ⟨rfl, hb⟩
    clear p0c0 p0c1 p0c2 p0c3 p0c4 p1c0 p1c1 p1c2 p1c3 p1c4
    have BE26 := Lib.hid (below_tr BE24.out hb)
    have KBp026 := Lib.hid (KBp024.out.below hb)
    have KBp126 := Lib.hid (KBp124.out.below hb)
    have ZZ26 : Hid (wz23.heap.size ≤ wz25.heap.size) := Lib.hid (by have := (hb).size; simpa using this)
    clear BE24 KBp024 KBp124
    obtain ⟨p0c0, p0c1, p0c2, p0c3, p0c4⟩ := four_cells KBp026.out
    obtain ⟨p1c0, p1c1, p1c2, p1c3, p1c4⟩ := four_cells KBp126.out
    clear hb
    go_wp2_with fail
    refine (rls.sz_any _ rs3 (rls.sz rs2 (rws.sz xss1 (rws.sz xss0 (1048576)))) _ (H3.out.below BE26.out) (by omega) (by omega)).mono ?_
    rintro e wz27 ⟨rfl, hb⟩
    clear p0c0 p0c1 p0c2 p0c3 p0c4 p1c0 p1c1 p1c2 p1c3 p1c4
    have BE28 := Lib.hid (below_tr BE26.out hb)
    have KBp028 := Lib.hid (KBp026.out.below hb)
    have KBp128 := Lib.hid (KBp126.out.below hb)
    have ZZ28 : Hid (wz25.heap.size ≤ wz27.heap.size) := Lib.hid (by have := (hb).size; simpa using this)
    clear BE26 KBp026 KBp126
    obtain ⟨p0c0, p0c1, p0c2, p0c3, p0c4⟩ := four_cells KBp028.out
    obtain ⟨p1c0, p1c1, p1c2, p1c3, p1c4⟩ := four_cells KBp128.out
    clear hb
    go_wp2_with fail
    go_ret
    exact ⟨rfl, BE28.out⟩
  obtain ⟨hp3, hr3, hq3, hm3⟩ := rop.sz_bound hs3 (by omega)
  have hn3 : rs3.length ≤ 1048576 := by omega
  have hc3 := rls.cnt_pos rs3
  have HM3 := Lib.hid hm3
  clear hm3
  go_enter Try.func3, Try.ntmps3
  have BE0 := Lib.hid (Below.refl w.heap.size w)
  have BE29 := Lib.hid (below_al BE0.out (.cells #[.int .i64 x0, .int .i64 y0, .int .i64 wh0, .slice va0 vn0 vc0] 24))
  have KBp029 := Lib.hid (Blk.new w 24 #[.int .i64 x0, .int .i64 y0, .int .i64 wh0, .slice va0 vn0 vc0])
  clear BE0
  have BE30 := Lib.hid (below_al BE29.out (.cells #[.int .i64 x1, .int .i64 y1, .int .i64 wh1, .slice va1 vn1 vc1] 24))
  have KBp030 := Lib.hid (KBp029.out.alloc (.cells #[.int .i64 x1, .int .i64 y1, .int .i64 wh1, .slice va1 vn1 vc1] 24))
  have KBp130 : Hid (Blk ((w.alloc (.cells #[.int .i64 x0, .int .i64 y0, .int .i64 wh0, .slice va0 vn0 vc0] 24)).alloc (.cells #[.int .i64 x1, .int .i64 y1, .int .i64 wh1, .slice va1 vn1 vc1] 24)) (w.heap.size + 1) 24 #[.int .i64 x1, .int .i64 y1, .int .i64 wh1, .slice va1 vn1 vc1]) := Lib.hid (by have := Blk.new (w.alloc (.cells #[.int .i64 x0, .int .i64 y0, .int .i64 wh0, .slice va0 vn0 vc0] 24)) 24 #[.int .i64 x1, .int .i64 y1, .int .i64 wh1, .slice va1 vn1 vc1]; simpa using this)
  clear BE29 KBp029
  go_wp2_with fail
  refine (box.sz_any x0 y0 wh0 _ xss0 (1048576) _ (H0.out.below BE30.out) (by omega) (by omega)).mono ?_
  rintro e wz31 ⟨rfl, hb⟩
  have BE32 := Lib.hid (below_tr BE30.out hb)
  have KBp032 := Lib.hid (KBp030.out.below hb)
  have KBp132 := Lib.hid (KBp130.out.below hb)
  have ZZ32 : Hid (w.heap.size + 1 + 1 ≤ wz31.heap.size) := Lib.hid (by have := (hb).size; simpa using this)
  clear BE30 KBp030 KBp130
  obtain ⟨p0c0, p0c1, p0c2, p0c3, p0c4⟩ := four_cells KBp032.out
  obtain ⟨p1c0, p1c1, p1c2, p1c3, p1c4⟩ := four_cells KBp132.out
  clear hb
  go_wp2_with fail
  refine (box.sz_any x1 y1 wh1 _ xss1 (rws.sz xss0 (1048576)) _ (H1.out.below BE32.out) (by omega) (by omega)).mono ?_
  rintro e wz33 ⟨rfl, hb⟩
  clear p0c0 p0c1 p0c2 p0c3 p0c4 p1c0 p1c1 p1c2 p1c3 p1c4
  have BE34 := Lib.hid (below_tr BE32.out hb)
  have KBp034 := Lib.hid (KBp032.out.below hb)
  have KBp134 := Lib.hid (KBp132.out.below hb)
  have ZZ34 : Hid (wz31.heap.size ≤ wz33.heap.size) := Lib.hid (by have := (hb).size; simpa using this)
  clear BE32 KBp032 KBp132
  obtain ⟨p0c0, p0c1, p0c2, p0c3, p0c4⟩ := four_cells KBp034.out
  obtain ⟨p1c0, p1c1, p1c2, p1c3, p1c4⟩ := four_cells KBp134.out
  clear hb
  go_wp2_with fail
  refine (rls.sz_any _ rs2 (rws.sz xss1 (rws.sz xss0 (1048576))) _ (H2.out.below BE34.out) (by omega) (by omega)).mono ?_
  rintro e wz35 ⟨rfl, hb⟩
  clear p0c0 p0c1 p0c2 p0c3 p0c4 p1c0 p1c1 p1c2 p1c3 p1c4
  have BE36 := Lib.hid (below_tr BE34.out hb)
  have KBp036 := Lib.hid (KBp034.out.below hb)
  have KBp136 := Lib.hid (KBp134.out.below hb)
  have ZZ36 : Hid (wz33.heap.size ≤ wz35.heap.size) := Lib.hid (by have := (hb).size; simpa using this)
  clear BE34 KBp034 KBp134
  obtain ⟨p0c0, p0c1, p0c2, p0c3, p0c4⟩ := four_cells KBp036.out
  obtain ⟨p1c0, p1c1, p1c2, p1c3, p1c4⟩ := four_cells KBp136.out
  clear hb
  go_wp2_with fail
  refine (rls.sz_any _ rs3 (rls.sz rs2 (rws.sz xss1 (rws.sz xss0 (1048576)))) _ (H3.out.below BE36.out) (by omega) (by omega)).mono ?_
  rintro e wz37 ⟨rfl, hb⟩
  clear p0c0 p0c1 p0c2 p0c3 p0c4 p1c0 p1c1 p1c2 p1c3 p1c4
  have BE38 := Lib.hid (below_tr BE36.out hb)
  have KBp038 := Lib.hid (KBp036.out.below hb)
  have KBp138 := Lib.hid (KBp136.out.below hb)
  have ZZ38 : Hid (wz35.heap.size ≤ wz37.heap.size) := Lib.hid (by have := (hb).size; simpa using this)
  clear BE36 KBp036 KBp136
  obtain ⟨p0c0, p0c1, p0c2, p0c3, p0c4⟩ := four_cells KBp038.out
  obtain ⟨p1c0, p1c1, p1c2, p1c3, p1c4⟩ := four_cells KBp138.out
  clear hb
  have HA0 := Lib.hid (H0.out.below BE38.out)
  have HA1 := Lib.hid (H1.out.below BE38.out)
  have HA2 := Lib.hid (H2.out.below BE38.out)
  have HA3 := Lib.hid (H3.out.below BE38.out)
  obtain ⟨q, hq⟩ : ∃ q, q = (mxw.res x0 y0 wh0 xss0 x1 y1 wh1 xss1 rs2 rs3) := ⟨_, rfl⟩
  have HQ := Lib.hid hq
  clear hq
  have ZZaW : Hid (w.heap.size + 1 + 1 ≤ wz37.heap.size) := Lib.hid KBp138.out.lt
  go_wp2_with fail
  refine inv.start (by kernel_rfl) (fun l a' W => ∃ (g : Nat) (r s0 s1 s2 s3 s4 s5 s6 s7 s8 s9 s10 s11 s12 s14 : Value), a' = { tmps := #[Value.agg #[Value.int IntKind.i64 x0, Value.int IntKind.i64 y0, Value.int IntKind.i64 wh0, Value.slice va0 vn0 vc0], Value.agg #[Value.int IntKind.i64 x1, Value.int IntKind.i64 y1, Value.int IntKind.i64 wh1, Value.slice va1 vn1 vc1], Value.slice va2 vn2 vc2, Value.slice va3 vn3 vc3, Value.pointer (some { block := w.heap.size, off := 0 }), Value.pointer (some { block := w.heap.size + 1, off := 0 }), undef, undef, Value.bool false, Value.int IntKind.i64 (rls.sz rs3 (rls.sz rs2 (rws.sz xss1 (rws.sz xss0 1048576)))), s12, s14, undef, undef, undef, undef, undef, undef, undef, undef, undef, undef, undef, Value.agg #[Value.int IntKind.i64 x0, Value.int IntKind.i64 y0, Value.int IntKind.i64 wh0, Value.slice va0 vn0 vc0], Value.int IntKind.i64 1048576, Value.int IntKind.i64 (rws.sz xss0 1048576), Value.int IntKind.i64 (rws.sz xss0 1048576), Value.bool (decide (rws.sz xss0 1048576 < 0)), Value.agg #[Value.int IntKind.i64 x1, Value.int IntKind.i64 y1, Value.int IntKind.i64 wh1, Value.slice va1 vn1 vc1], Value.int IntKind.i64 (rws.sz xss0 1048576), Value.int IntKind.i64 (rws.sz xss1 (rws.sz xss0 1048576)), Value.int IntKind.i64 (rws.sz xss1 (rws.sz xss0 1048576)), Value.bool (decide (rws.sz xss1 (rws.sz xss0 1048576) < 0)), Value.slice va2 vn2 vc2, Value.int IntKind.i64 (rws.sz xss1 (rws.sz xss0 1048576)), Value.int IntKind.i64 (rls.sz rs2 (rws.sz xss1 (rws.sz xss0 1048576))), Value.int IntKind.i64 (rls.sz rs2 (rws.sz xss1 (rws.sz xss0 1048576))), Value.bool (decide (rls.sz rs2 (rws.sz xss1 (rws.sz xss0 1048576)) < 0)), Value.slice va3 vn3 vc3, Value.int IntKind.i64 (rls.sz rs2 (rws.sz xss1 (rws.sz xss0 1048576))), Value.int IntKind.i64 (rls.sz rs3 (rls.sz rs2 (rws.sz xss1 (rws.sz xss0 1048576)))), Value.int IntKind.i64 (rls.sz rs3 (rls.sz rs2 (rws.sz xss1 (rws.sz xss0 1048576)))), Value.bool (decide (rls.sz rs3 (rls.sz rs2 (rws.sz xss1 (rws.sz xss0 1048576))) < 0)), s9, s0, s1, s2, s3, s4, s5, s6, s7, s8, s10, s11, undef, undef, undef, undef, undef, undef, undef, undef, undef, undef, undef, undef, undef, undef, undef, undef, undef, undef, undef, undef, undef, undef, undef, undef, undef, undef, undef, undef, undef, undef, undef, undef, undef, undef, undef, undef, undef, undef, undef, undef, undef, undef, undef, undef, undef, undef, undef, undef, undef, undef, undef, undef, undef, undef, undef, undef, undef, undef, undef, undef, undef, undef, undef, undef, undef, undef, undef, undef, undef, undef, undef, undef, undef, undef, undef, undef, undef, undef, undef, undef, undef, undef, undef, undef, undef, undef, undef, undef, undef, undef, undef, undef, undef, undef, undef, undef, undef, undef, undef, undef, undef, undef, undef, undef, undef, undef, undef, undef, undef, undef], defers := [] } ∧ l.size = 15 ∧ JJ wz37 x0 y0 wh0 xss0 x1 y1 wh1 xss1 rs2 rs3 (.agg #[.int .i64 x0, .int .i64 y0, .int .i64 wh0, .slice va0 vn0 vc0]) (.agg #[.int .i64 x1, .int .i64 y1, .int .i64 wh1, .slice va1 vn1 vc1]) (.slice va2 vn2 vc2) (.slice va3 vn3 vc3) q (fun k => l.getD k false) g r s0 s1 s2 s3 s4 s5 s6 s7 s8 s9 s10 s11 s12 s14 W) ?_ ?_ ?_
  · refine ⟨0, undef, _, _, _, _, _, _, _, _, _, _, _, _, _, _, rfl, by simp, ?_⟩
    exact ⟨fun h => by simp at h, fun h => by simp at h, fun h => by simp at h, fun h => by simp at h, fun h => by simp at h, fun h => by simp at h, fun h => by simp at h, fun h => by simp at h, fun h => by simp at h, fun h => by simp at h, fun h => by simp at h, fun h => by simp at h, fun h => by simp at h, fun h => by simp at h, fun h => by simp at h, fun h => by simp at h, fun h => by simp at h, fun h => by simp at h, fun h => by simp at h, fun h => by simp at h, fun h => by simp at h, fun h => by simp at h, fun h => by simp at h, below_dr (Below.refl _ _)⟩
  · rintro l a' W i ⟨g, r, s0, s1, s2, s3, s4, s5, s6, s7, s8, s9, s10, s11, s12, s14, rfl, hsz, h⟩ hi
    have hlt : i < 15 := (inv.ready_lt hi).1
    obtain rfl | rfl | rfl | rfl | rfl | rfl | rfl | rfl | rfl | rfl | rfl | rfl | rfl | rfl | rfl : i = 0 ∨ i = 1 ∨ i = 2 ∨ i = 3 ∨ i = 4 ∨ i = 5 ∨ i = 6 ∨ i = 7 ∨ i = 8 ∨ i = 9 ∨ i = 10 ∨ i = 11 ∨ i = 12 ∨ i = 13 ∨ i = 14 := by omega
    · obtain ⟨hun, o, ho, hall⟩ := mem_ready.1 hi
      obtain rfl : _ = o := Option.some.inj ho
      have hoff : l.getD 0 false = false := inv.off l 0 hun
      have hup := inv.upd_eq l 0 hun
      obtain ⟨c0, c1, c2, c3, c4⟩ := four_cells (KBp038.out.below h.fb)
      refine wpOp_step rfl (fun K' hK => ?_)
      have HK := Lib.hid hK
      clear hK hall ho
      go_simp
      refine HK.out _ _ ⟨g, r, _, _, _, _, _, _, _, _, _, _, _, _, _, _, rfl, by simp [hsz], ?_⟩
      rw [hup]
      exact ⟨fun _ => rfl, h.f1, h.f2, h.f3, h.f4, h.f5, h.f6, h.f7, h.f8, h.f9, h.f10, h.f11, h.f12, h.f14, h.d8x1, h.d8x3, h.d8x5, h.d8x7, h.d9x8, h.d10x9, h.d11x9, h.d13x12, h.d13x8, h.fb⟩
    · obtain ⟨hun, o, ho, hall⟩ := mem_ready.1 hi
      obtain rfl : _ = o := Option.some.inj ho
      have hoff : l.getD 1 false = false := inv.off l 1 hun
      have hup := inv.upd_eq l 1 hun
      have d0 : l.getD 0 false = true := hall ⟨0, .data⟩ (by simp) (by decide)
      obtain rfl := h.f0 d0
      refine wpOp_step rfl (fun K' hK => ?_)
      have HK := Lib.hid hK
      clear hK hall ho
      go_simp
      (go_at_call 18; (with_reducible refine (box.to_any x0 y0 wh0 _ xss0 _ (HA0.out.below h.fb) hn0).mono ?_); rintro e W' ⟨u, rfl, hu, hb⟩)
      try go_simp
      refine HK.out _ _ ⟨g, r, _, _, _, _, _, _, _, _, _, _, _, _, _, _, rfl, by simp [hsz], ?_⟩
      rw [hup]
      exact ⟨h.f0, fun _ _ => ⟨u, rfl, hu.rows⟩, h.f2, fun h3 h4 => (h.f3 h3 h4).imp fun _ k => ⟨k.1, k.2.below hb⟩, h.f4, fun h3 h4 => (h.f5 h3 h4).imp fun _ k => ⟨k.1, k.2.below hb⟩, h.f6, fun h3 h4 => (h.f7 h3 h4).imp fun _ k => ⟨k.1, k.2.below hb⟩, fun h4 => no (h.d8x1 h4) hoff, h.f9, h.f10, h.f11, fun h8 => ⟨(h.f12 h8).1, (h.f12 h8).2.1, (h.f12 h8).2.2.below hb⟩, h.f14, fun _ => rfl, h.d8x3, h.d8x5, h.d8x7, h.d9x8, h.d10x9, h.d11x9, h.d13x12, h.d13x8, below_tr h.fb hb⟩
    · obtain ⟨hun, o, ho, hall⟩ := mem_ready.1 hi
      obtain rfl : _ = o := Option.some.inj ho
      have hoff : l.getD 2 false = false := inv.off l 2 hun
      have hup := inv.upd_eq l 2 hun
      obtain ⟨c0, c1, c2, c3, c4⟩ := four_cells (KBp138.out.below h.fb)
      refine wpOp_step rfl (fun K' hK => ?_)
      have HK := Lib.hid hK
      clear hK hall ho
      go_simp
      refine HK.out _ _ ⟨g, r, _, _, _, _, _, _, _, _, _, _, _, _, _, _, rfl, by simp [hsz], ?_⟩
      rw [hup]
      exact ⟨h.f0, h.f1, fun _ => rfl, h.f3, h.f4, h.f5, h.f6, h.f7, h.f8, h.f9, h.f10, h.f11, h.f12, h.f14, h.d8x1, h.d8x3, h.d8x5, h.d8x7, h.d9x8, h.d10x9, h.d11x9, h.d13x12, h.d13x8, h.fb⟩
    · obtain ⟨hun, o, ho, hall⟩ := mem_ready.1 hi
      obtain rfl : _ = o := Option.some.inj ho
      have hoff : l.getD 3 false = false := inv.off l 3 hun
      have hup := inv.upd_eq l 3 hun
      have d2 : l.getD 2 false = true := hall ⟨2, .data⟩ (by simp) (by decide)
      obtain rfl := h.f2 d2
      refine wpOp_step rfl (fun K' hK => ?_)
      have HK := Lib.hid hK
      clear hK hall ho
      go_simp
      (go_at_call 18; (with_reducible refine (box.to_any x1 y1 wh1 _ xss1 _ (HA1.out.below h.fb) hn1).mono ?_); rintro e W' ⟨u, rfl, hu, hb⟩)
      try go_simp
      refine HK.out _ _ ⟨g, r, _, _, _, _, _, _, _, _, _, _, _, _, _, _, rfl, by simp [hsz], ?_⟩
      rw [hup]
      exact ⟨h.f0, fun h3 h4 => (h.f1 h3 h4).imp fun _ k => ⟨k.1, k.2.below hb⟩, h.f2, fun _ _ => ⟨u, rfl, hu.rows⟩, h.f4, fun h3 h4 => (h.f5 h3 h4).imp fun _ k => ⟨k.1, k.2.below hb⟩, h.f6, fun h3 h4 => (h.f7 h3 h4).imp fun _ k => ⟨k.1, k.2.below hb⟩, fun h4 => no (h.d8x3 h4) hoff, h.f9, h.f10, h.f11, fun h8 => ⟨(h.f12 h8).1, (h.f12 h8).2.1, (h.f12 h8).2.2.below hb⟩, h.f14, h.d8x1, fun _ => rfl, h.d8x5, h.d8x7, h.d9x8, h.d10x9, h.d11x9, h.d13x12, h.d13x8, below_tr h.fb hb⟩
    · obtain ⟨hun, o, ho, hall⟩ := mem_ready.1 hi
      obtain rfl : _ = o := Option.some.inj ho
      have hoff : l.getD 4 false = false := inv.off l 4 hun
      have hup := inv.upd_eq l 4 hun
      refine wpOp_step rfl (fun K' hK => ?_)
      have HK := Lib.hid hK
      clear hK hall ho
      go_simp
      refine HK.out _ _ ⟨g, r, _, _, _, _, _, _, _, _, _, _, _, _, _, _, rfl, by simp [hsz], ?_⟩
      rw [hup]
      exact ⟨h.f0, h.f1, h.f2, h.f3, fun _ => rfl, h.f5, h.f6, h.f7, h.f8, h.f9, h.f10, h.f11, h.f12, h.f14, h.d8x1, h.d8x3, h.d8x5, h.d8x7, h.d9x8, h.d10x9, h.d11x9, h.d13x12, h.d13x8, h.fb⟩
    · obtain ⟨hun, o, ho, hall⟩ := mem_ready.1 hi
      obtain rfl : _ = o := Option.some.inj ho
      have hoff : l.getD 5 false = false := inv.off l 5 hun
      have hup := inv.upd_eq l 5 hun
      have d4 : l.getD 4 false = true := hall ⟨4, .data⟩ (by simp) (by decide)
      obtain rfl := h.f4 d4
      refine wpOp_step rfl (fun K' hK => ?_)
      have HK := Lib.hid hK
      clear hK hall ho
      go_simp
      (go_at_call 19; (with_reducible refine (rls.to_any _ rs2 _ (HA2.out.below h.fb) hn2 HM2.out).mono ?_); rintro e W' ⟨u, rfl, hu, hb⟩)
      try go_simp
      refine HK.out _ _ ⟨g, r, _, _, _, _, _, _, _, _, _, _, _, _, _, _, rfl, by simp [hsz], ?_⟩
      rw [hup]
      exact ⟨h.f0, fun h3 h4 => (h.f1 h3 h4).imp fun _ k => ⟨k.1, k.2.below hb⟩, h.f2, fun h3 h4 => (h.f3 h3 h4).imp fun _ k => ⟨k.1, k.2.below hb⟩, h.f4, fun _ _ => ⟨u, rfl, hu.view⟩, h.f6, fun h3 h4 => (h.f7 h3 h4).imp fun _ k => ⟨k.1, k.2.below hb⟩, fun h4 => no (h.d8x5 h4) hoff, h.f9, h.f10, h.f11, fun h8 => ⟨(h.f12 h8).1, (h.f12 h8).2.1, (h.f12 h8).2.2.below hb⟩, h.f14, h.d8x1, h.d8x3, fun _ => rfl, h.d8x7, h.d9x8, h.d10x9, h.d11x9, h.d13x12, h.d13x8, below_tr h.fb hb⟩
    · obtain ⟨hun, o, ho, hall⟩ := mem_ready.1 hi
      obtain rfl : _ = o := Option.some.inj ho
      have hoff : l.getD 6 false = false := inv.off l 6 hun
      have hup := inv.upd_eq l 6 hun
      refine wpOp_step rfl (fun K' hK => ?_)
      have HK := Lib.hid hK
      clear hK hall ho
      go_simp
      refine HK.out _ _ ⟨g, r, _, _, _, _, _, _, _, _, _, _, _, _, _, _, rfl, by simp [hsz], ?_⟩
      rw [hup]
      exact ⟨h.f0, h.f1, h.f2, h.f3, h.f4, h.f5, fun _ => rfl, h.f7, h.f8, h.f9, h.f10, h.f11, h.f12, h.f14, h.d8x1, h.d8x3, h.d8x5, h.d8x7, h.d9x8, h.d10x9, h.d11x9, h.d13x12, h.d13x8, h.fb⟩
    · obtain ⟨hun, o, ho, hall⟩ := mem_ready.1 hi
      obtain rfl : _ = o := Option.some.inj ho
      have hoff : l.getD 7 false = false := inv.off l 7 hun
      have hup := inv.upd_eq l 7 hun
      have d6 : l.getD 6 false = true := hall ⟨6, .data⟩ (by simp) (by decide)
      obtain rfl := h.f6 d6
      refine wpOp_step rfl (fun K' hK => ?_)
      have HK := Lib.hid hK
      clear hK hall ho
      go_simp
      (go_at_call 19; (with_reducible refine (rls.to_any _ rs3 _ (HA3.out.below h.fb) hn3 HM3.out).mono ?_); rintro e W' ⟨u, rfl, hu, hb⟩)
      try go_simp
      refine HK.out _ _ ⟨g, r, _, _, _, _, _, _, _, _, _, _, _, _, _, _, rfl, by simp [hsz], ?_⟩
      rw [hup]
      exact ⟨h.f0, fun h3 h4 => (h.f1 h3 h4).imp fun _ k => ⟨k.1, k.2.below hb⟩, h.f2, fun h3 h4 => (h.f3 h3 h4).imp fun _ k => ⟨k.1, k.2.below hb⟩, h.f4, fun h3 h4 => (h.f5 h3 h4).imp fun _ k => ⟨k.1, k.2.below hb⟩, h.f6, fun _ _ => ⟨u, rfl, hu.view⟩, fun h4 => no (h.d8x7 h4) hoff, h.f9, h.f10, h.f11, fun h8 => ⟨(h.f12 h8).1, (h.f12 h8).2.1, (h.f12 h8).2.2.below hb⟩, h.f14, h.d8x1, h.d8x3, h.d8x5, fun _ => rfl, h.d9x8, h.d10x9, h.d11x9, h.d13x12, h.d13x8, below_tr h.fb hb⟩
    · obtain ⟨hun, o, ho, hall⟩ := mem_ready.1 hi
      obtain rfl : _ = o := Option.some.inj ho
      have hoff : l.getD 8 false = false := inv.off l 8 hun
      have hup := inv.upd_eq l 8 hun
      have d1 : l.getD 1 false = true := hall ⟨1, .data⟩ (by simp) (by decide)
      have d3 : l.getD 3 false = true := hall ⟨3, .data⟩ (by simp) (by decide)
      have d5 : l.getD 5 false = true := hall ⟨5, .data⟩ (by simp) (by decide)
      have d7 : l.getD 7 false = true := hall ⟨7, .data⟩ (by simp) (by decide)
      obtain ⟨u0, rfl, hu0⟩ := h.f1 d1 hoff
      obtain ⟨u1, rfl, hu1⟩ := h.f3 d3 hoff
      obtain ⟨u2, rfl, hu2⟩ := h.f5 d5 hoff
      obtain ⟨u3, rfl, hu3⟩ := h.f7 d7 hoff
      refine wpOp_step rfl (fun K' hK => ?_)
      have HK := Lib.hid hK
      clear hK hall ho
      go_simp
      (go_at_call 17; (with_reducible refine (mxw.spec_any x0 y0 wh0 _ xss0 x1 y1 wh1 _ xss1 _ rs2 _ rs3 _ hu0 hu1 hn0 hn1 hu2 hu3).mono ?_); rintro e W' ⟨r', rfl, hr, hb⟩)
      try go_simp
      rw [← HQ.out] at hr
      refine HK.out _ _ ⟨g, r', _, _, _, _, _, _, _, _, _, _, _, _, _, _, rfl, by simp [hsz], ?_⟩
      rw [hup]
      have e9 : l.getD 13 false = false := off_of h.d13x8 hoff
      have k8 : l.getD 12 false = true → Blk W' g 28 (cel (l.getD 13 false) q r') := fun h8 => by (have k := (h.f12 h8).2.2.below hb); (rw [cel_off e9] at k); (rw [cel_off e9]); (exact k)
      exact ⟨h.f0, fun _ h4 => no (b := true) rfl h4, h.f2, fun _ h4 => no (b := true) rfl h4, h.f4, fun _ h4 => no (b := true) rfl h4, h.f6, fun _ h4 => no (b := true) rfl h4, fun _ => ⟨by rw [HQ.out], hr.rows, fun h8 W'' hw => (hr.low (hw.mono (fun p hp => by have h' := (h.f12 h8).2.2.lt; have e1 : p.block = g := hp; show p.block < _; omega))).rows⟩, fun h5 => no (h.d9x8 h5) hoff, fun h6 => no (h.d9x8 (h.d10x9 h6)) hoff, h.f11, fun h8 => ⟨(h.f12 h8).1, (h.f12 h8).2.1, k8 h8⟩, h.f14, fun _ => d1, fun _ => d3, fun _ => d5, fun _ => d7, fun _ => rfl, h.d10x9, h.d11x9, h.d13x12, fun _ => rfl, below_tr h.fb hb⟩
    · obtain ⟨hun, o, ho, hall⟩ := mem_ready.1 hi
      obtain rfl : _ = o := Option.some.inj ho
      have hoff : l.getD 9 false = false := inv.off l 9 hun
      have hup := inv.upd_eq l 9 hun
      have d8 : l.getD 8 false = true := hall ⟨8, .data⟩ (by simp) (by decide)
      obtain rfl := (h.f8 d8).1
      refine wpOp_step rfl (fun K' hK => ?_)
      have HK := Lib.hid hK
      clear hK hall ho
      go_simp
      refine HK.out _ _ ⟨g, r, _, _, _, _, _, _, _, _, _, _, _, _, _, _, rfl, by simp [hsz], ?_⟩
      rw [hup]
      exact ⟨h.f0, h.f1, h.f2, h.f3, h.f4, h.f5, h.f6, h.f7, h.f8, fun _ => rfl, h.f10, h.f11, h.f12, h.f14, h.d8x1, h.d8x3, h.d8x5, h.d8x7, fun _ => d8, fun _ => rfl, fun _ => rfl, h.d13x12, h.d13x8, h.fb⟩
    · obtain ⟨hun, o, ho, hall⟩ := mem_ready.1 hi
      obtain rfl : _ = o := Option.some.inj ho
      have hoff : l.getD 10 false = false := inv.off l 10 hun
      have hup := inv.upd_eq l 10 hun
      have d9 : l.getD 9 false = true := hall ⟨9, .data⟩ (by simp) (by decide)
      obtain rfl := h.f9 d9
      refine wpOp_step rfl (fun K' hK => ?_)
      have HK := Lib.hid hK
      clear hK hall ho
      go_simp
      refine HK.out _ _ ⟨g, r, _, _, _, _, _, _, _, _, _, _, _, _, _, _, rfl, by simp [hsz], ?_⟩
      rw [hup]
      exact ⟨h.f0, h.f1, h.f2, h.f3, h.f4, h.f5, h.f6, h.f7, h.f8, h.f9, fun _ => rfl, h.f11, h.f12, h.f14, h.d8x1, h.d8x3, h.d8x5, h.d8x7, h.d9x8, fun _ => d9, h.d11x9, h.d13x12, h.d13x8, h.fb⟩
    · obtain ⟨hun, o, ho, hall⟩ := mem_ready.1 hi
      obtain rfl : _ = o := Option.some.inj ho
      have hoff : l.getD 11 false = false := inv.off l 11 hun
      have hup := inv.upd_eq l 11 hun
      have d9 : l.getD 9 false = true := hall ⟨9, .data⟩ (by simp) (by decide)
      obtain rfl := h.f9 d9
      refine wpOp_step rfl (fun K' hK => ?_)
      have HK := Lib.hid hK
      clear hK hall ho
      go_simp
      refine HK.out _ _ ⟨g, r, _, _, _, _, _, _, _, _, _, _, _, _, _, _, rfl, by simp [hsz], ?_⟩
      rw [hup]
      exact ⟨h.f0, h.f1, h.f2, h.f3, h.f4, h.f5, h.f6, h.f7, h.f8, h.f9, h.f10, fun _ => rfl, h.f12, h.f14, h.d8x1, h.d8x3, h.d8x5, h.d8x7, h.d9x8, h.d10x9, fun _ => d9, h.d13x12, h.d13x8, h.fb⟩
    · obtain ⟨hun, o, ho, hall⟩ := mem_ready.1 hi
      obtain rfl : _ = o := Option.some.inj ho
      have hoff : l.getD 12 false = false := inv.off l 12 hun
      have hup := inv.upd_eq l 12 hun
      refine wpOp_step rfl (fun K' hK => ?_)
      have HK := Lib.hid hK
      clear hK hall ho
      go_simp
      refine HK.out _ (W.alloc (.cells #[.int .i64 0, .int .i64 0, .int .i64 0, .slice none 0 0] 28)) ⟨W.heap.size, r, _, _, _, _, _, _, _, _, _, _, _, _, _, _, rfl, by simp [hsz], ?_⟩
      rw [hup]
      have e9 : l.getD 13 false = false := off_of h.d13x12 hoff
      have al := (below_al (Below.refl _ W) (.cells #[.int .i64 0, .int .i64 0, .int .i64 0, .slice none 0 0] 28))
      have k8 : Blk (W.alloc (.cells #[.int .i64 0, .int .i64 0, .int .i64 0, .slice none 0 0] 28)) W.heap.size 28 (cel (l.getD 13 false) q r) := by rw [cel_off e9]; exact Blk.new W _ _
      exact ⟨h.f0, fun h1 h4 => (h.f1 h1 h4).imp fun _ k => ⟨k.1, k.2.below al⟩, h.f2, fun h1 h4 => (h.f3 h1 h4).imp fun _ k => ⟨k.1, k.2.below al⟩, h.f4, fun h1 h4 => (h.f5 h1 h4).imp fun _ k => ⟨k.1, k.2.below al⟩, h.f6, fun h1 h4 => (h.f7 h1 h4).imp fun _ k => ⟨k.1, k.2.below al⟩, fun h4 => ⟨(h.f8 h4).1, (h.f8 h4).2.1.below al, fun _ W'' hw => (h.f8 h4).2.1.below (al.trans (hw.below (B := W.heap.size) (fun p hp => Nat.le_of_eq hp.symm)))⟩, h.f9, h.f10, h.f11, fun _ => ⟨rfl, h.fb.size, k8⟩, h.f14, h.d8x1, h.d8x3, h.d8x5, h.d8x7, h.d9x8, h.d10x9, h.d11x9, fun _ => rfl, h.d13x8, below_tr h.fb al⟩
    · obtain ⟨hun, o, ho, hall⟩ := mem_ready.1 hi
      obtain rfl : _ = o := Option.some.inj ho
      have hoff : l.getD 13 false = false := inv.off l 13 hun
      have hup := inv.upd_eq l 13 hun
      have d8 : l.getD 8 false = true := hall ⟨8, .chain⟩ (by simp) (by decide)
      have d10 : l.getD 10 false = true := hall ⟨10, .data⟩ (by simp) (by decide)
      have d12 : l.getD 12 false = true := hall ⟨12, .data⟩ (by simp) (by decide)
      obtain ⟨ra, rn, rc, rfl⟩ := (h.f8 d8).2.1.shape
      obtain rfl := h.f10 d10
      obtain ⟨e6, hg, hk⟩ := h.f12 d12
      subst e6
      have hk : Blk W g 28 (cel (l.getD 13 false) q (.slice ra rn rc)) := hk
      rw [cel_off hoff] at hk
      unfold zer at hk
      obtain ⟨c0, c1, c2, c3, c4⟩ := four_cells hk
      have rf : ∀ k, W.frozen? ⟨g, k, none⟩ = false := fun k => Joins.unfrozen_of_block hk k
      refine wpOp_step rfl (fun K' hK => ?_)
      have HK := Lib.hid hK
      clear hK hall ho
      go_simp
      refine HK.out _ (set4 W g (.int .i64 q.x) (.int .i64 q.y) (.int .i64 q.wh) (.slice ra rn rc)) ⟨g, (.slice ra rn rc), _, _, _, _, _, _, _, _, _, _, _, _, _, _, rfl, by simp [hsz], ?_⟩
      rw [hup]
      exact ⟨h.f0, fun _ h4 => no d8 h4, h.f2, fun _ h4 => no d8 h4, h.f4, fun _ h4 => no d8 h4, h.f6, fun _ h4 => no d8 h4, fun _ => ⟨(h.f8 d8).1, (h.f8 d8).2.2 d12 _ (set4_wrote W g (.int .i64 q.x) (.int .i64 q.y) (.int .i64 q.wh) (.slice ra rn rc)), fun _ W'' hw => (h.f8 d8).2.2 d12 _ ((set4_wrote W g (.int .i64 q.x) (.int .i64 q.y) (.int .i64 q.wh) (.slice ra rn rc)).trans hw)⟩, h.f9, h.f10, h.f11, fun _ => ⟨rfl, hg, set4_same _ _ _ _ hk⟩, h.f14, h.d8x1, h.d8x3, h.d8x5, h.d8x7, h.d9x8, h.d10x9, h.d11x9, fun _ => d12, fun _ => d8, set4_below _ _ _ _ h.fb hg⟩
    · obtain ⟨hun, o, ho, hall⟩ := mem_ready.1 hi
      obtain rfl : _ = o := Option.some.inj ho
      have hoff : l.getD 14 false = false := inv.off l 14 hun
      have hup := inv.upd_eq l 14 hun
      have d11 : l.getD 11 false = true := hall ⟨11, .data⟩ (by simp) (by decide)
      obtain rfl := h.f11 d11
      refine wpOp_step rfl (fun K' hK => ?_)
      have HK := Lib.hid hK
      clear hK hall ho
      go_simp
      refine HK.out _ _ ⟨g, r, _, _, _, _, _, _, _, _, _, _, _, _, _, _, rfl, by simp [hsz], ?_⟩
      rw [hup]
      exact ⟨h.f0, h.f1, h.f2, h.f3, h.f4, h.f5, h.f6, h.f7, h.f8, h.f9, h.f10, h.f11, h.f12, fun _ => rfl, h.d8x1, h.d8x3, h.d8x5, h.d8x7, h.d9x8, h.d10x9, h.d11x9, h.d13x12, h.d13x8, h.fb⟩
  · rintro l a' W ⟨g, r, s0, s1, s2, s3, s4, s5, s6, s7, s8, s9, s10, s11, s12, s14, rfl, hsz, h⟩ hr
    have hup : ∀ i, i < 15 → l.getD i false = true := inv.all_upm (by kernel_rfl) hsz hr
    obtain rfl := h.f0 (hup 0 (by omega))
    obtain rfl := h.f2 (hup 2 (by omega))
    obtain rfl := h.f4 (hup 4 (by omega))
    obtain rfl := h.f6 (hup 6 (by omega))
    obtain rfl := h.f9 (hup 9 (by omega))
    obtain rfl := h.f10 (hup 10 (by omega))
    obtain rfl := h.f11 (hup 11 (by omega))
    obtain rfl := h.f14 (hup 14 (by omega))
    obtain ⟨e32, huW, _⟩ := h.f8 (hup 8 (by omega))
    subst e32
    obtain ⟨e6, hgb, hk⟩ := h.f12 (hup 12 (by omega))
    subst e6
    have hk : Blk W g 28 (cel (l.getD 13 false) q r) := hk
    rw [cel_on (hup 13 (by omega))] at hk
    have hbt := h.fb
    clear h hup hr hsz HA0 HA1 HA2 HA3
    obtain ⟨Wa, Wn, Wc, rfl⟩ := huW.shape
    obtain rfl := HQ.out
    clear HQ
    clear p0c0 p0c1 p0c2 p0c3 p0c4 p1c0 p1c1 p1c2 p1c3 p1c4
    have BE39 := Lib.hid (below_tr BE38.out hbt)
    have KBp039 := Lib.hid (KBp038.out.below hbt)
    have KBp139 := Lib.hid (KBp138.out.below hbt)
    have ZZ39 : Hid (wz37.heap.size ≤ W.heap.size) := Lib.hid (by have := (hbt).size; simpa using this)
    clear BE38 KBp038 KBp138
    obtain ⟨p0c0, p0c1, p0c2, p0c3, p0c4⟩ := four_cells KBp039.out
    obtain ⟨p1c0, p1c1, p1c2, p1c3, p1c4⟩ := four_cells KBp139.out
    clear hbt hgb
    have VWW := Lib.hid huW
    have HBW := Lib.hid (Below.refl W.heap.size W)
    clear huW
    have ZZgW : Hid (g + 1 ≤ W.heap.size) := Lib.hid hk.lt
    have KBbW0 := Lib.hid hk
    clear hk
    obtain ⟨bWc0, bWc1, bWc2, bWc3, bWc4⟩ := four_cells KBbW0.out
    go_wp2_with fail
    refine (box.to_any x0 y0 wh0 _ xss0 _ (H0.out.below BE39.out) hn0).mono ?_
    rintro e wc40 ⟨ux0, rfl, hu, hb⟩
    obtain ⟨x0a, x0n, x0c, rfl⟩ := hu.rows.shape
    clear p0c0 p0c1 p0c2 p0c3 p0c4 p1c0 p1c1 p1c2 p1c3 p1c4 bWc0 bWc1 bWc2 bWc3 bWc4
    have BE41 := Lib.hid (below_tr BE39.out hb)
    have HBW41 := Lib.hid (below_tr HBW.out hb)
    have KBp041 := Lib.hid (KBp039.out.below hb)
    have KBp141 := Lib.hid (KBp139.out.below hb)
    have KBbW41 := Lib.hid (KBbW0.out.below hb)
    have ZZ41 : Hid (W.heap.size ≤ wc40.heap.size) := Lib.hid (by have := (hb).size; simpa using this)
    clear BE39 HBW KBp039 KBp139 KBbW0
    obtain ⟨p0c0, p0c1, p0c2, p0c3, p0c4⟩ := four_cells KBp041.out
    obtain ⟨p1c0, p1c1, p1c2, p1c3, p1c4⟩ := four_cells KBp141.out
    obtain ⟨bWc0, bWc1, bWc2, bWc3, bWc4⟩ := four_cells KBbW41.out
    have OWx0 := Lib.hid (hu.mono (B' := W.heap.size) (by simp) (Nat.le_refl _))
    clear hu hb
    go_wp2_with fail
    have BE42 := Lib.hid (below_al BE41.out (.cells #[.int .i64 x0, .int .i64 y0, .int .i64 wh0, .slice x0a x0n x0c] 28))
    have HBW42 := Lib.hid (below_al HBW41.out (.cells #[.int .i64 x0, .int .i64 y0, .int .i64 wh0, .slice x0a x0n x0c] 28))
    have OWx042 := Lib.hid (OWx0.out.keep (below_al (Below.refl _ _) (.cells #[.int .i64 x0, .int .i64 y0, .int .i64 wh0, .slice x0a x0n x0c] 28)))
    have KBp042 := Lib.hid (KBp041.out.alloc (.cells #[.int .i64 x0, .int .i64 y0, .int .i64 wh0, .slice x0a x0n x0c] 28))
    have KBp142 := Lib.hid (KBp141.out.alloc (.cells #[.int .i64 x0, .int .i64 y0, .int .i64 wh0, .slice x0a x0n x0c] 28))
    have KBbW42 := Lib.hid (KBbW41.out.alloc (.cells #[.int .i64 x0, .int .i64 y0, .int .i64 wh0, .slice x0a x0n x0c] 28))
    have KBbx042 := Lib.hid (Blk.new wc40 28 #[.int .i64 x0, .int .i64 y0, .int .i64 wh0, .slice x0a x0n x0c])
    clear BE41 HBW41 OWx0 KBp041 KBp141 KBbW41
    go_wp2_with fail
    refine (box.to_any x1 y1 wh1 _ xss1 _ (H1.out.below BE42.out) hn1).mono ?_
    rintro e wc43 ⟨ux1, rfl, hu, hb⟩
    obtain ⟨x1a, x1n, x1c, rfl⟩ := hu.rows.shape
    clear p0c0 p0c1 p0c2 p0c3 p0c4 p1c0 p1c1 p1c2 p1c3 p1c4 bWc0 bWc1 bWc2 bWc3 bWc4
    have BE44 := Lib.hid (below_tr BE42.out hb)
    have HBW44 := Lib.hid (below_tr HBW42.out hb)
    have OWx044 := Lib.hid (OWx042.out.keep hb)
    have KBp044 := Lib.hid (KBp042.out.below hb)
    have KBp144 := Lib.hid (KBp142.out.below hb)
    have KBbW44 := Lib.hid (KBbW42.out.below hb)
    have KBbx044 := Lib.hid (KBbx042.out.below hb)
    have ZZ44 : Hid (wc40.heap.size + 1 ≤ wc43.heap.size) := Lib.hid (by have := (hb).size; simpa using this)
    clear BE42 HBW42 OWx042 KBp042 KBp142 KBbW42 KBbx042
    obtain ⟨p0c0, p0c1, p0c2, p0c3, p0c4⟩ := four_cells KBp044.out
    obtain ⟨p1c0, p1c1, p1c2, p1c3, p1c4⟩ := four_cells KBp144.out
    obtain ⟨bWc0, bWc1, bWc2, bWc3, bWc4⟩ := four_cells KBbW44.out
    obtain ⟨bx0c0, bx0c1, bx0c2, bx0c3, bx0c4⟩ := four_cells KBbx044.out
    have OWx1 := Lib.hid (hu.mono (B' := wc40.heap.size + 1) (by simp) (Nat.le_refl _))
    clear hu hb
    go_wp2_with fail
    have BE45 := Lib.hid (below_al BE44.out (.cells #[.int .i64 x1, .int .i64 y1, .int .i64 wh1, .slice x1a x1n x1c] 28))
    have HBW45 := Lib.hid (below_al HBW44.out (.cells #[.int .i64 x1, .int .i64 y1, .int .i64 wh1, .slice x1a x1n x1c] 28))
    have OWx045 := Lib.hid (OWx044.out.keep (below_al (Below.refl _ _) (.cells #[.int .i64 x1, .int .i64 y1, .int .i64 wh1, .slice x1a x1n x1c] 28)))
    have OWx145 := Lib.hid (OWx1.out.keep (below_al (Below.refl _ _) (.cells #[.int .i64 x1, .int .i64 y1, .int .i64 wh1, .slice x1a x1n x1c] 28)))
    have KBp045 := Lib.hid (KBp044.out.alloc (.cells #[.int .i64 x1, .int .i64 y1, .int .i64 wh1, .slice x1a x1n x1c] 28))
    have KBp145 := Lib.hid (KBp144.out.alloc (.cells #[.int .i64 x1, .int .i64 y1, .int .i64 wh1, .slice x1a x1n x1c] 28))
    have KBbW45 := Lib.hid (KBbW44.out.alloc (.cells #[.int .i64 x1, .int .i64 y1, .int .i64 wh1, .slice x1a x1n x1c] 28))
    have KBbx045 := Lib.hid (KBbx044.out.alloc (.cells #[.int .i64 x1, .int .i64 y1, .int .i64 wh1, .slice x1a x1n x1c] 28))
    have KBbx145 := Lib.hid (Blk.new wc43 28 #[.int .i64 x1, .int .i64 y1, .int .i64 wh1, .slice x1a x1n x1c])
    clear BE44 HBW44 OWx044 OWx1 KBp044 KBp144 KBbW44 KBbx044
    go_wp2_with fail
    refine (rls.to_any _ rs2 _ (H2.out.below BE45.out) hn2 HM2.out).mono ?_
    rintro e wc46 ⟨ux2, rfl, hu, hb⟩
    obtain ⟨x2a, x2n, x2c, rfl⟩ := rop.shape hu.view
    clear p0c0 p0c1 p0c2 p0c3 p0c4 p1c0 p1c1 p1c2 p1c3 p1c4 bWc0 bWc1 bWc2 bWc3 bWc4 bx0c0 bx0c1 bx0c2 bx0c3 bx0c4
    have BE47 := Lib.hid (below_tr BE45.out hb)
    have HBW47 := Lib.hid (below_tr HBW45.out hb)
    have OWx047 := Lib.hid (OWx045.out.keep hb)
    have OWx147 := Lib.hid (OWx145.out.keep hb)
    have KBp047 := Lib.hid (KBp045.out.below hb)
    have KBp147 := Lib.hid (KBp145.out.below hb)
    have KBbW47 := Lib.hid (KBbW45.out.below hb)
    have KBbx047 := Lib.hid (KBbx045.out.below hb)
    have KBbx147 := Lib.hid (KBbx145.out.below hb)
    have ZZ47 : Hid (wc43.heap.size + 1 ≤ wc46.heap.size) := Lib.hid (by have := (hb).size; simpa using this)
    clear BE45 HBW45 OWx045 OWx145 KBp045 KBp145 KBbW45 KBbx045 KBbx145
    obtain ⟨p0c0, p0c1, p0c2, p0c3, p0c4⟩ := four_cells KBp047.out
    obtain ⟨p1c0, p1c1, p1c2, p1c3, p1c4⟩ := four_cells KBp147.out
    obtain ⟨bWc0, bWc1, bWc2, bWc3, bWc4⟩ := four_cells KBbW47.out
    obtain ⟨bx0c0, bx0c1, bx0c2, bx0c3, bx0c4⟩ := four_cells KBbx047.out
    obtain ⟨bx1c0, bx1c1, bx1c2, bx1c3, bx1c4⟩ := four_cells KBbx147.out
    have OWx2 := Lib.hid (hu.mono (B' := wc43.heap.size + 1) (by simp) (Nat.le_refl _))
    clear hu hb
    go_wp2_with fail
    refine (rls.to_any _ rs3 _ (H3.out.below BE47.out) hn3 HM3.out).mono ?_
    rintro e wc48 ⟨ux3, rfl, hu, hb⟩
    obtain ⟨x3a, x3n, x3c, rfl⟩ := rop.shape hu.view
    clear p0c0 p0c1 p0c2 p0c3 p0c4 p1c0 p1c1 p1c2 p1c3 p1c4 bWc0 bWc1 bWc2 bWc3 bWc4 bx0c0 bx0c1 bx0c2 bx0c3 bx0c4 bx1c0 bx1c1 bx1c2 bx1c3 bx1c4
    have BE49 := Lib.hid (below_tr BE47.out hb)
    have HBW49 := Lib.hid (below_tr HBW47.out hb)
    have OWx049 := Lib.hid (OWx047.out.keep hb)
    have OWx149 := Lib.hid (OWx147.out.keep hb)
    have OWx249 := Lib.hid (OWx2.out.keep hb)
    have KBp049 := Lib.hid (KBp047.out.below hb)
    have KBp149 := Lib.hid (KBp147.out.below hb)
    have KBbW49 := Lib.hid (KBbW47.out.below hb)
    have KBbx049 := Lib.hid (KBbx047.out.below hb)
    have KBbx149 := Lib.hid (KBbx147.out.below hb)
    have ZZ49 : Hid (wc46.heap.size ≤ wc48.heap.size) := Lib.hid (by have := (hb).size; simpa using this)
    clear BE47 HBW47 OWx047 OWx147 OWx2 KBp047 KBp147 KBbW47 KBbx047 KBbx147
    obtain ⟨p0c0, p0c1, p0c2, p0c3, p0c4⟩ := four_cells KBp049.out
    obtain ⟨p1c0, p1c1, p1c2, p1c3, p1c4⟩ := four_cells KBp149.out
    obtain ⟨bWc0, bWc1, bWc2, bWc3, bWc4⟩ := four_cells KBbW49.out
    obtain ⟨bx0c0, bx0c1, bx0c2, bx0c3, bx0c4⟩ := four_cells KBbx049.out
    obtain ⟨bx1c0, bx1c1, bx1c2, bx1c3, bx1c4⟩ := four_cells KBbx149.out
    have OWx3 := Lib.hid (hu.mono (B' := wc46.heap.size) (by simp) (Nat.le_refl _))
    clear hu hb
    go_wp2_with fail
    refine (mxw.impl_any x0 y0 wh0 (.slice x0a x0n x0c) xss0 x1 y1 wh1 (.slice x1a x1n x1c) xss1 (.slice x2a x2n x2c) rs2 (.slice x3a x3n x3c) rs3 _ OWx049.out.rows OWx149.out.rows hn0 hn1 OWx249.out.view OWx3.out.view).mono ?_
    rintro e wf50 ⟨uG, rfl, hu, hb⟩
    obtain ⟨Ga, Gn, Gc, rfl⟩ := hu.rows.shape
    clear p0c0 p0c1 p0c2 p0c3 p0c4 p1c0 p1c1 p1c2 p1c3 p1c4 bWc0 bWc1 bWc2 bWc3 bWc4 bx0c0 bx0c1 bx0c2 bx0c3 bx0c4 bx1c0 bx1c1 bx1c2 bx1c3 bx1c4
    have BE51 := Lib.hid (below_tr BE49.out hb)
    have HBW51 := Lib.hid (below_tr HBW49.out hb)
    have OWx051 := Lib.hid (OWx049.out.keep hb)
    have OWx151 := Lib.hid (OWx149.out.keep hb)
    have OWx251 := Lib.hid (OWx249.out.keep hb)
    have OWx351 := Lib.hid (OWx3.out.keep hb)
    have KBp051 := Lib.hid (KBp049.out.below hb)
    have KBp151 := Lib.hid (KBp149.out.below hb)
    have KBbW51 := Lib.hid (KBbW49.out.below hb)
    have KBbx051 := Lib.hid (KBbx049.out.below hb)
    have KBbx151 := Lib.hid (KBbx149.out.below hb)
    have ZZ51 : Hid (wc48.heap.size ≤ wf50.heap.size) := Lib.hid (by have := (hb).size; simpa using this)
    clear BE49 HBW49 OWx049 OWx149 OWx249 OWx3 KBp049 KBp149 KBbW49 KBbx049 KBbx149
    obtain ⟨p0c0, p0c1, p0c2, p0c3, p0c4⟩ := four_cells KBp051.out
    obtain ⟨p1c0, p1c1, p1c2, p1c3, p1c4⟩ := four_cells KBp151.out
    obtain ⟨bWc0, bWc1, bWc2, bWc3, bWc4⟩ := four_cells KBbW51.out
    obtain ⟨bx0c0, bx0c1, bx0c2, bx0c3, bx0c4⟩ := four_cells KBbx051.out
    obtain ⟨bx1c0, bx1c1, bx1c2, bx1c3, bx1c4⟩ := four_cells KBbx151.out
    have OWG := Lib.hid (hu.mono (B' := wc48.heap.size) (by simp) (Nat.le_refl _))
    clear hu hb
    go_wp2_with fail
    have BE52 := Lib.hid (below_al BE51.out (.cells #[.int .i64 ((mxw.res x0 y0 wh0 xss0 x1 y1 wh1 xss1 rs2 rs3).x), .int .i64 ((mxw.res x0 y0 wh0 xss0 x1 y1 wh1 xss1 rs2 rs3).y), .int .i64 ((mxw.res x0 y0 wh0 xss0 x1 y1 wh1 xss1 rs2 rs3).wh), .slice Ga Gn Gc] 28))
    have HBW52 := Lib.hid (below_al HBW51.out (.cells #[.int .i64 ((mxw.res x0 y0 wh0 xss0 x1 y1 wh1 xss1 rs2 rs3).x), .int .i64 ((mxw.res x0 y0 wh0 xss0 x1 y1 wh1 xss1 rs2 rs3).y), .int .i64 ((mxw.res x0 y0 wh0 xss0 x1 y1 wh1 xss1 rs2 rs3).wh), .slice Ga Gn Gc] 28))
    have OWx052 := Lib.hid (OWx051.out.keep (below_al (Below.refl _ _) (.cells #[.int .i64 ((mxw.res x0 y0 wh0 xss0 x1 y1 wh1 xss1 rs2 rs3).x), .int .i64 ((mxw.res x0 y0 wh0 xss0 x1 y1 wh1 xss1 rs2 rs3).y), .int .i64 ((mxw.res x0 y0 wh0 xss0 x1 y1 wh1 xss1 rs2 rs3).wh), .slice Ga Gn Gc] 28)))
    have OWx152 := Lib.hid (OWx151.out.keep (below_al (Below.refl _ _) (.cells #[.int .i64 ((mxw.res x0 y0 wh0 xss0 x1 y1 wh1 xss1 rs2 rs3).x), .int .i64 ((mxw.res x0 y0 wh0 xss0 x1 y1 wh1 xss1 rs2 rs3).y), .int .i64 ((mxw.res x0 y0 wh0 xss0 x1 y1 wh1 xss1 rs2 rs3).wh), .slice Ga Gn Gc] 28)))
    have OWx252 := Lib.hid (OWx251.out.keep (below_al (Below.refl _ _) (.cells #[.int .i64 ((mxw.res x0 y0 wh0 xss0 x1 y1 wh1 xss1 rs2 rs3).x), .int .i64 ((mxw.res x0 y0 wh0 xss0 x1 y1 wh1 xss1 rs2 rs3).y), .int .i64 ((mxw.res x0 y0 wh0 xss0 x1 y1 wh1 xss1 rs2 rs3).wh), .slice Ga Gn Gc] 28)))
    have OWx352 := Lib.hid (OWx351.out.keep (below_al (Below.refl _ _) (.cells #[.int .i64 ((mxw.res x0 y0 wh0 xss0 x1 y1 wh1 xss1 rs2 rs3).x), .int .i64 ((mxw.res x0 y0 wh0 xss0 x1 y1 wh1 xss1 rs2 rs3).y), .int .i64 ((mxw.res x0 y0 wh0 xss0 x1 y1 wh1 xss1 rs2 rs3).wh), .slice Ga Gn Gc] 28)))
    have OWG52 := Lib.hid (OWG.out.keep (below_al (Below.refl _ _) (.cells #[.int .i64 ((mxw.res x0 y0 wh0 xss0 x1 y1 wh1 xss1 rs2 rs3).x), .int .i64 ((mxw.res x0 y0 wh0 xss0 x1 y1 wh1 xss1 rs2 rs3).y), .int .i64 ((mxw.res x0 y0 wh0 xss0 x1 y1 wh1 xss1 rs2 rs3).wh), .slice Ga Gn Gc] 28)))
    have KBp052 := Lib.hid (KBp051.out.alloc (.cells #[.int .i64 ((mxw.res x0 y0 wh0 xss0 x1 y1 wh1 xss1 rs2 rs3).x), .int .i64 ((mxw.res x0 y0 wh0 xss0 x1 y1 wh1 xss1 rs2 rs3).y), .int .i64 ((mxw.res x0 y0 wh0 xss0 x1 y1 wh1 xss1 rs2 rs3).wh), .slice Ga Gn Gc] 28))
    have KBp152 := Lib.hid (KBp151.out.alloc (.cells #[.int .i64 ((mxw.res x0 y0 wh0 xss0 x1 y1 wh1 xss1 rs2 rs3).x), .int .i64 ((mxw.res x0 y0 wh0 xss0 x1 y1 wh1 xss1 rs2 rs3).y), .int .i64 ((mxw.res x0 y0 wh0 xss0 x1 y1 wh1 xss1 rs2 rs3).wh), .slice Ga Gn Gc] 28))
    have KBbW52 := Lib.hid (KBbW51.out.alloc (.cells #[.int .i64 ((mxw.res x0 y0 wh0 xss0 x1 y1 wh1 xss1 rs2 rs3).x), .int .i64 ((mxw.res x0 y0 wh0 xss0 x1 y1 wh1 xss1 rs2 rs3).y), .int .i64 ((mxw.res x0 y0 wh0 xss0 x1 y1 wh1 xss1 rs2 rs3).wh), .slice Ga Gn Gc] 28))
    have KBbx052 := Lib.hid (KBbx051.out.alloc (.cells #[.int .i64 ((mxw.res x0 y0 wh0 xss0 x1 y1 wh1 xss1 rs2 rs3).x), .int .i64 ((mxw.res x0 y0 wh0 xss0 x1 y1 wh1 xss1 rs2 rs3).y), .int .i64 ((mxw.res x0 y0 wh0 xss0 x1 y1 wh1 xss1 rs2 rs3).wh), .slice Ga Gn Gc] 28))
    have KBbx152 := Lib.hid (KBbx151.out.alloc (.cells #[.int .i64 ((mxw.res x0 y0 wh0 xss0 x1 y1 wh1 xss1 rs2 rs3).x), .int .i64 ((mxw.res x0 y0 wh0 xss0 x1 y1 wh1 xss1 rs2 rs3).y), .int .i64 ((mxw.res x0 y0 wh0 xss0 x1 y1 wh1 xss1 rs2 rs3).wh), .slice Ga Gn Gc] 28))
    have KBbG52 := Lib.hid (Blk.new wf50 28 #[.int .i64 ((mxw.res x0 y0 wh0 xss0 x1 y1 wh1 xss1 rs2 rs3).x), .int .i64 ((mxw.res x0 y0 wh0 xss0 x1 y1 wh1 xss1 rs2 rs3).y), .int .i64 ((mxw.res x0 y0 wh0 xss0 x1 y1 wh1 xss1 rs2 rs3).wh), .slice Ga Gn Gc])
    clear BE51 HBW51 OWx051 OWx151 OWx251 OWx351 OWG KBp051 KBp151 KBbW51 KBbx051 KBbx151
    have tk0 : (((mxw.res x0 y0 wh0 xss0 x1 y1 wh1 xss1 rs2 rs3).ok) != ((mxw.res x0 y0 wh0 xss0 x1 y1 wh1 xss1 rs2 rs3).ok)) = false := bne_self_eq_false _
    go_wp2_with fail
    refine (box.eq_same ((mxw.res x0 y0 wh0 xss0 x1 y1 wh1 xss1 rs2 rs3).x) ((mxw.res x0 y0 wh0 xss0 x1 y1 wh1 xss1 rs2 rs3).y) ((mxw.res x0 y0 wh0 xss0 x1 y1 wh1 xss1 rs2 rs3).wh) _ _ ((mxw.res x0 y0 wh0 xss0 x1 y1 wh1 xss1 rs2 rs3).rows) _ OWG52.out.rows (VWW.out.below HBW52.out) mxw.tot_res).mono ?_
    rintro e we53 ⟨rfl, hb⟩
    clear p0c0 p0c1 p0c2 p0c3 p0c4 p1c0 p1c1 p1c2 p1c3 p1c4 bWc0 bWc1 bWc2 bWc3 bWc4 bx0c0 bx0c1 bx0c2 bx0c3 bx0c4 bx1c0 bx1c1 bx1c2 bx1c3 bx1c4
    have BE54 := Lib.hid (below_tr BE52.out hb)
    have HBW54 := Lib.hid (below_tr HBW52.out hb)
    have OWx054 := Lib.hid (OWx052.out.keep hb)
    have OWx154 := Lib.hid (OWx152.out.keep hb)
    have OWx254 := Lib.hid (OWx252.out.keep hb)
    have OWx354 := Lib.hid (OWx352.out.keep hb)
    have OWG54 := Lib.hid (OWG52.out.keep hb)
    have KBp054 := Lib.hid (KBp052.out.below hb)
    have KBp154 := Lib.hid (KBp152.out.below hb)
    have KBbW54 := Lib.hid (KBbW52.out.below hb)
    have KBbx054 := Lib.hid (KBbx052.out.below hb)
    have KBbx154 := Lib.hid (KBbx152.out.below hb)
    have KBbG54 := Lib.hid (KBbG52.out.below hb)
    have ZZ54 : Hid (wf50.heap.size + 1 ≤ we53.heap.size) := Lib.hid (by have := (hb).size; simpa using this)
    clear BE52 HBW52 OWx052 OWx152 OWx252 OWx352 OWG52 KBp052 KBp152 KBbW52 KBbx052 KBbx152 KBbG52
    obtain ⟨p0c0, p0c1, p0c2, p0c3, p0c4⟩ := four_cells KBp054.out
    obtain ⟨p1c0, p1c1, p1c2, p1c3, p1c4⟩ := four_cells KBp154.out
    obtain ⟨bWc0, bWc1, bWc2, bWc3, bWc4⟩ := four_cells KBbW54.out
    obtain ⟨bx0c0, bx0c1, bx0c2, bx0c3, bx0c4⟩ := four_cells KBbx054.out
    obtain ⟨bx1c0, bx1c1, bx1c2, bx1c3, bx1c4⟩ := four_cells KBbx154.out
    obtain ⟨bGc0, bGc1, bGc2, bGc3, bGc4⟩ := four_cells KBbG54.out
    clear hb
    go_wp2_with fail
    have HA := Lib.hid (H0.out.below BE54.out)
    have HX := Lib.hid (OWx054.out.rows)
    go_region_held3 (fun w' => w'.cell? ⟨w.heap.size, 0, none⟩ = some (.int .i64 x0) ∧ w'.cell? ⟨w.heap.size, 1, none⟩ = some (.int .i64 y0) ∧ w'.cell? ⟨w.heap.size, 2, none⟩ = some (.int .i64 wh0) ∧ w'.cell? ⟨w.heap.size, 3, none⟩ = some (.slice va0 vn0 vc0) ∧ w'.cell? ⟨wc40.heap.size, 0, none⟩ = some (.int .i64 x0) ∧ w'.cell? ⟨wc40.heap.size, 1, none⟩ = some (.int .i64 y0) ∧ w'.cell? ⟨wc40.heap.size, 2, none⟩ = some (.int .i64 wh0) ∧ w'.cell? ⟨wc40.heap.size, 3, none⟩ = some (.slice x0a x0n x0c) ∧ Below we53.heap.size we53 w')
      ((refine held8 p0c0 p0c1 p0c2 p0c3 bx0c0 bx0c1 bx0c2 bx0c3 ?_; repeat (first | exact Below.refl _ _ | assumption | refine below_dr ?_ | refine below_tr ?_ (by assumption))))
      (first | (go_at_call 18; refine (box.to_any x0 y0 wh0 _ xss0 _ (HA.out.below ?_) hn0).mono ?_; (simp [*]); rintro e wq ⟨uqq0, rfl, huq, hbq⟩) | (go_at_call 21; refine (box.eq_same x0 y0 wh0 _ _ xss0 _ (HX.out.below (below_tr (below_dr (Below.refl _ _)) hbq)) huq.rows hn0).mono ?_; rintro e wd55 ⟨rfl, hbr⟩))
    have hbt := below_tr (below_tr (below_dr (Below.refl _ _)) hbq) hbr
    clear HA HX huq hbq hbr
    clear p0c0 p0c1 p0c2 p0c3 p0c4 p1c0 p1c1 p1c2 p1c3 p1c4 bWc0 bWc1 bWc2 bWc3 bWc4 bx0c0 bx0c1 bx0c2 bx0c3 bx0c4 bx1c0 bx1c1 bx1c2 bx1c3 bx1c4 bGc0 bGc1 bGc2 bGc3 bGc4
    have BE56 := Lib.hid (below_tr BE54.out hbt)
    have HBW56 := Lib.hid (below_tr HBW54.out hbt)
    have OWx056 := Lib.hid (OWx054.out.keep hbt)
    have OWx156 := Lib.hid (OWx154.out.keep hbt)
    have OWx256 := Lib.hid (OWx254.out.keep hbt)
    have OWx356 := Lib.hid (OWx354.out.keep hbt)
    have OWG56 := Lib.hid (OWG54.out.keep hbt)
    have KBp056 := Lib.hid (KBp054.out.below hbt)
    have KBp156 := Lib.hid (KBp154.out.below hbt)
    have KBbW56 := Lib.hid (KBbW54.out.below hbt)
    have KBbx056 := Lib.hid (KBbx054.out.below hbt)
    have KBbx156 := Lib.hid (KBbx154.out.below hbt)
    have KBbG56 := Lib.hid (KBbG54.out.below hbt)
    have ZZ56 : Hid (we53.heap.size ≤ wd55.heap.size) := Lib.hid (by have := (hbt).size; simpa using this)
    clear BE54 HBW54 OWx054 OWx154 OWx254 OWx354 OWG54 KBp054 KBp154 KBbW54 KBbx054 KBbx154 KBbG54
    obtain ⟨p0c0, p0c1, p0c2, p0c3, p0c4⟩ := four_cells KBp056.out
    obtain ⟨p1c0, p1c1, p1c2, p1c3, p1c4⟩ := four_cells KBp156.out
    obtain ⟨bWc0, bWc1, bWc2, bWc3, bWc4⟩ := four_cells KBbW56.out
    obtain ⟨bx0c0, bx0c1, bx0c2, bx0c3, bx0c4⟩ := four_cells KBbx056.out
    obtain ⟨bx1c0, bx1c1, bx1c2, bx1c3, bx1c4⟩ := four_cells KBbx156.out
    obtain ⟨bGc0, bGc1, bGc2, bGc3, bGc4⟩ := four_cells KBbG56.out
    clear hbt
    go_wp2_with fail
    have HA := Lib.hid (H1.out.below BE56.out)
    have HX := Lib.hid (OWx156.out.rows)
    go_region_held3 (fun w' => w'.cell? ⟨w.heap.size + 1, 0, none⟩ = some (.int .i64 x1) ∧ w'.cell? ⟨w.heap.size + 1, 1, none⟩ = some (.int .i64 y1) ∧ w'.cell? ⟨w.heap.size + 1, 2, none⟩ = some (.int .i64 wh1) ∧ w'.cell? ⟨w.heap.size + 1, 3, none⟩ = some (.slice va1 vn1 vc1) ∧ w'.cell? ⟨wc43.heap.size, 0, none⟩ = some (.int .i64 x1) ∧ w'.cell? ⟨wc43.heap.size, 1, none⟩ = some (.int .i64 y1) ∧ w'.cell? ⟨wc43.heap.size, 2, none⟩ = some (.int .i64 wh1) ∧ w'.cell? ⟨wc43.heap.size, 3, none⟩ = some (.slice x1a x1n x1c) ∧ Below wd55.heap.size wd55 w')
      ((refine held8 p1c0 p1c1 p1c2 p1c3 bx1c0 bx1c1 bx1c2 bx1c3 ?_; repeat (first | exact Below.refl _ _ | assumption | refine below_dr ?_ | refine below_tr ?_ (by assumption))))
      (first | (go_at_call 18; refine (box.to_any x1 y1 wh1 _ xss1 _ (HA.out.below ?_) hn1).mono ?_; (simp [*]); rintro e wq ⟨uqq1, rfl, huq, hbq⟩) | (go_at_call 21; refine (box.eq_same x1 y1 wh1 _ _ xss1 _ (HX.out.below (below_tr (below_dr (Below.refl _ _)) hbq)) huq.rows hn1).mono ?_; rintro e wd57 ⟨rfl, hbr⟩))
    have hbt := below_tr (below_tr (below_dr (Below.refl _ _)) hbq) hbr
    clear HA HX huq hbq hbr
    clear p0c0 p0c1 p0c2 p0c3 p0c4 p1c0 p1c1 p1c2 p1c3 p1c4 bWc0 bWc1 bWc2 bWc3 bWc4 bx0c0 bx0c1 bx0c2 bx0c3 bx0c4 bx1c0 bx1c1 bx1c2 bx1c3 bx1c4 bGc0 bGc1 bGc2 bGc3 bGc4
    have BE58 := Lib.hid (below_tr BE56.out hbt)
    have HBW58 := Lib.hid (below_tr HBW56.out hbt)
    have OWx058 := Lib.hid (OWx056.out.keep hbt)
    have OWx158 := Lib.hid (OWx156.out.keep hbt)
    have OWx258 := Lib.hid (OWx256.out.keep hbt)
    have OWx358 := Lib.hid (OWx356.out.keep hbt)
    have OWG58 := Lib.hid (OWG56.out.keep hbt)
    have KBp058 := Lib.hid (KBp056.out.below hbt)
    have KBp158 := Lib.hid (KBp156.out.below hbt)
    have KBbW58 := Lib.hid (KBbW56.out.below hbt)
    have KBbx058 := Lib.hid (KBbx056.out.below hbt)
    have KBbx158 := Lib.hid (KBbx156.out.below hbt)
    have KBbG58 := Lib.hid (KBbG56.out.below hbt)
    have ZZ58 : Hid (wd55.heap.size ≤ wd57.heap.size) := Lib.hid (by have := (hbt).size; simpa using this)
    clear BE56 HBW56 OWx056 OWx156 OWx256 OWx356 OWG56 KBp056 KBp156 KBbW56 KBbx056 KBbx156 KBbG56
    obtain ⟨p0c0, p0c1, p0c2, p0c3, p0c4⟩ := four_cells KBp058.out
    obtain ⟨p1c0, p1c1, p1c2, p1c3, p1c4⟩ := four_cells KBp158.out
    obtain ⟨bWc0, bWc1, bWc2, bWc3, bWc4⟩ := four_cells KBbW58.out
    obtain ⟨bx0c0, bx0c1, bx0c2, bx0c3, bx0c4⟩ := four_cells KBbx058.out
    obtain ⟨bx1c0, bx1c1, bx1c2, bx1c3, bx1c4⟩ := four_cells KBbx158.out
    obtain ⟨bGc0, bGc1, bGc2, bGc3, bGc4⟩ := four_cells KBbG58.out
    clear hbt
    go_wp2_with fail
    go_wp2_with fail
    refine (rls.to_any _ rs2 _ (H2.out.below BE58.out) hn2 HM2.out).mono ?_
    rintro e wc59 ⟨uy2, rfl, hu, hb⟩
    obtain ⟨y2a, y2n, y2c, rfl⟩ := rop.shape hu.view
    clear p0c0 p0c1 p0c2 p0c3 p0c4 p1c0 p1c1 p1c2 p1c3 p1c4 bWc0 bWc1 bWc2 bWc3 bWc4 bx0c0 bx0c1 bx0c2 bx0c3 bx0c4 bx1c0 bx1c1 bx1c2 bx1c3 bx1c4 bGc0 bGc1 bGc2 bGc3 bGc4
    have BE60 := Lib.hid (below_tr BE58.out hb)
    have HBW60 := Lib.hid (below_tr HBW58.out hb)
    have OWx060 := Lib.hid (OWx058.out.keep hb)
    have OWx160 := Lib.hid (OWx158.out.keep hb)
    have OWx260 := Lib.hid (OWx258.out.keep hb)
    have OWx360 := Lib.hid (OWx358.out.keep hb)
    have OWG60 := Lib.hid (OWG58.out.keep hb)
    have KBp060 := Lib.hid (KBp058.out.below hb)
    have KBp160 := Lib.hid (KBp158.out.below hb)
    have KBbW60 := Lib.hid (KBbW58.out.below hb)
    have KBbx060 := Lib.hid (KBbx058.out.below hb)
    have KBbx160 := Lib.hid (KBbx158.out.below hb)
    have KBbG60 := Lib.hid (KBbG58.out.below hb)
    have ZZ60 : Hid (wd57.heap.size ≤ wc59.heap.size) := Lib.hid (by have := (hb).size; simpa using this)
    clear BE58 HBW58 OWx058 OWx158 OWx258 OWx358 OWG58 KBp058 KBp158 KBbW58 KBbx058 KBbx158 KBbG58
    obtain ⟨p0c0, p0c1, p0c2, p0c3, p0c4⟩ := four_cells KBp060.out
    obtain ⟨p1c0, p1c1, p1c2, p1c3, p1c4⟩ := four_cells KBp160.out
    obtain ⟨bWc0, bWc1, bWc2, bWc3, bWc4⟩ := four_cells KBbW60.out
    obtain ⟨bx0c0, bx0c1, bx0c2, bx0c3, bx0c4⟩ := four_cells KBbx060.out
    obtain ⟨bx1c0, bx1c1, bx1c2, bx1c3, bx1c4⟩ := four_cells KBbx160.out
    obtain ⟨bGc0, bGc1, bGc2, bGc3, bGc4⟩ := four_cells KBbG60.out
    have OWy2 := Lib.hid (hu.mono (B' := wd57.heap.size) (by simp) (Nat.le_refl _))
    clear hu hb
    go_wp2_with fail
    refine (rls.eq_same _ _ rs2 _ OWx260.out.view OWy2.out.view HM2.out).mono ?_
    rintro e we61 ⟨rfl, hb⟩
    clear p0c0 p0c1 p0c2 p0c3 p0c4 p1c0 p1c1 p1c2 p1c3 p1c4 bWc0 bWc1 bWc2 bWc3 bWc4 bx0c0 bx0c1 bx0c2 bx0c3 bx0c4 bx1c0 bx1c1 bx1c2 bx1c3 bx1c4 bGc0 bGc1 bGc2 bGc3 bGc4
    have BE62 := Lib.hid (below_tr BE60.out hb)
    have HBW62 := Lib.hid (below_tr HBW60.out hb)
    have OWx062 := Lib.hid (OWx060.out.keep hb)
    have OWx162 := Lib.hid (OWx160.out.keep hb)
    have OWx262 := Lib.hid (OWx260.out.keep hb)
    have OWx362 := Lib.hid (OWx360.out.keep hb)
    have OWG62 := Lib.hid (OWG60.out.keep hb)
    have OWy262 := Lib.hid (OWy2.out.keep hb)
    have KBp062 := Lib.hid (KBp060.out.below hb)
    have KBp162 := Lib.hid (KBp160.out.below hb)
    have KBbW62 := Lib.hid (KBbW60.out.below hb)
    have KBbx062 := Lib.hid (KBbx060.out.below hb)
    have KBbx162 := Lib.hid (KBbx160.out.below hb)
    have KBbG62 := Lib.hid (KBbG60.out.below hb)
    have ZZ62 : Hid (wc59.heap.size ≤ we61.heap.size) := Lib.hid (by have := (hb).size; simpa using this)
    clear BE60 HBW60 OWx060 OWx160 OWx260 OWx360 OWG60 OWy2 KBp060 KBp160 KBbW60 KBbx060 KBbx160 KBbG60
    obtain ⟨p0c0, p0c1, p0c2, p0c3, p0c4⟩ := four_cells KBp062.out
    obtain ⟨p1c0, p1c1, p1c2, p1c3, p1c4⟩ := four_cells KBp162.out
    obtain ⟨bWc0, bWc1, bWc2, bWc3, bWc4⟩ := four_cells KBbW62.out
    obtain ⟨bx0c0, bx0c1, bx0c2, bx0c3, bx0c4⟩ := four_cells KBbx062.out
    obtain ⟨bx1c0, bx1c1, bx1c2, bx1c3, bx1c4⟩ := four_cells KBbx162.out
    obtain ⟨bGc0, bGc1, bGc2, bGc3, bGc4⟩ := four_cells KBbG62.out
    clear hb
    clear OWy262
    go_wp2_with fail
    go_wp2_with fail
    refine (rls.to_any _ rs3 _ (H3.out.below BE62.out) hn3 HM3.out).mono ?_
    rintro e wc63 ⟨uy3, rfl, hu, hb⟩
    obtain ⟨y3a, y3n, y3c, rfl⟩ := rop.shape hu.view
    clear p0c0 p0c1 p0c2 p0c3 p0c4 p1c0 p1c1 p1c2 p1c3 p1c4 bWc0 bWc1 bWc2 bWc3 bWc4 bx0c0 bx0c1 bx0c2 bx0c3 bx0c4 bx1c0 bx1c1 bx1c2 bx1c3 bx1c4 bGc0 bGc1 bGc2 bGc3 bGc4
    have BE64 := Lib.hid (below_tr BE62.out hb)
    have HBW64 := Lib.hid (below_tr HBW62.out hb)
    have OWx064 := Lib.hid (OWx062.out.keep hb)
    have OWx164 := Lib.hid (OWx162.out.keep hb)
    have OWx264 := Lib.hid (OWx262.out.keep hb)
    have OWx364 := Lib.hid (OWx362.out.keep hb)
    have OWG64 := Lib.hid (OWG62.out.keep hb)
    have KBp064 := Lib.hid (KBp062.out.below hb)
    have KBp164 := Lib.hid (KBp162.out.below hb)
    have KBbW64 := Lib.hid (KBbW62.out.below hb)
    have KBbx064 := Lib.hid (KBbx062.out.below hb)
    have KBbx164 := Lib.hid (KBbx162.out.below hb)
    have KBbG64 := Lib.hid (KBbG62.out.below hb)
    have ZZ64 : Hid (we61.heap.size ≤ wc63.heap.size) := Lib.hid (by have := (hb).size; simpa using this)
    clear BE62 HBW62 OWx062 OWx162 OWx262 OWx362 OWG62 KBp062 KBp162 KBbW62 KBbx062 KBbx162 KBbG62
    obtain ⟨p0c0, p0c1, p0c2, p0c3, p0c4⟩ := four_cells KBp064.out
    obtain ⟨p1c0, p1c1, p1c2, p1c3, p1c4⟩ := four_cells KBp164.out
    obtain ⟨bWc0, bWc1, bWc2, bWc3, bWc4⟩ := four_cells KBbW64.out
    obtain ⟨bx0c0, bx0c1, bx0c2, bx0c3, bx0c4⟩ := four_cells KBbx064.out
    obtain ⟨bx1c0, bx1c1, bx1c2, bx1c3, bx1c4⟩ := four_cells KBbx164.out
    obtain ⟨bGc0, bGc1, bGc2, bGc3, bGc4⟩ := four_cells KBbG64.out
    have OWy3 := Lib.hid (hu.mono (B' := we61.heap.size) (by simp) (Nat.le_refl _))
    clear hu hb
    go_wp2_with fail
    refine (rls.eq_same _ _ rs3 _ OWx364.out.view OWy3.out.view HM3.out).mono ?_
    rintro e we65 ⟨rfl, hb⟩
    clear p0c0 p0c1 p0c2 p0c3 p0c4 p1c0 p1c1 p1c2 p1c3 p1c4 bWc0 bWc1 bWc2 bWc3 bWc4 bx0c0 bx0c1 bx0c2 bx0c3 bx0c4 bx1c0 bx1c1 bx1c2 bx1c3 bx1c4 bGc0 bGc1 bGc2 bGc3 bGc4
    have BE66 := Lib.hid (below_tr BE64.out hb)
    have HBW66 := Lib.hid (below_tr HBW64.out hb)
    have OWx066 := Lib.hid (OWx064.out.keep hb)
    have OWx166 := Lib.hid (OWx164.out.keep hb)
    have OWx266 := Lib.hid (OWx264.out.keep hb)
    have OWx366 := Lib.hid (OWx364.out.keep hb)
    have OWG66 := Lib.hid (OWG64.out.keep hb)
    have OWy366 := Lib.hid (OWy3.out.keep hb)
    have KBp066 := Lib.hid (KBp064.out.below hb)
    have KBp166 := Lib.hid (KBp164.out.below hb)
    have KBbW66 := Lib.hid (KBbW64.out.below hb)
    have KBbx066 := Lib.hid (KBbx064.out.below hb)
    have KBbx166 := Lib.hid (KBbx164.out.below hb)
    have KBbG66 := Lib.hid (KBbG64.out.below hb)
    have ZZ66 : Hid (wc63.heap.size ≤ we65.heap.size) := Lib.hid (by have := (hb).size; simpa using this)
    clear BE64 HBW64 OWx064 OWx164 OWx264 OWx364 OWG64 OWy3 KBp064 KBp164 KBbW64 KBbx064 KBbx164 KBbG64
    obtain ⟨p0c0, p0c1, p0c2, p0c3, p0c4⟩ := four_cells KBp066.out
    obtain ⟨p1c0, p1c1, p1c2, p1c3, p1c4⟩ := four_cells KBp166.out
    obtain ⟨bWc0, bWc1, bWc2, bWc3, bWc4⟩ := four_cells KBbW66.out
    obtain ⟨bx0c0, bx0c1, bx0c2, bx0c3, bx0c4⟩ := four_cells KBbx066.out
    obtain ⟨bx1c0, bx1c1, bx1c2, bx1c3, bx1c4⟩ := four_cells KBbx166.out
    obtain ⟨bGc0, bGc1, bGc2, bGc3, bGc4⟩ := four_cells KBbG66.out
    clear hb
    clear OWy366
    have bl0 := rws.before_le xss0 xss0.length
    go_wp2_with fail
    refine (box.mark_any x0 y0 wh0 _ xss0 (1) (W.heap.size) (wc40.heap.size) _ OWx066.out hn0 (by omega) (by omega)).mono ?_
    rintro e wm67 ⟨rfl, hi, S, wl68, hb, hw, hs⟩
    clear OWx066
    clear p0c0 p0c1 p0c2 p0c3 p0c4 p1c0 p1c1 p1c2 p1c3 p1c4 bWc0 bWc1 bWc2 bWc3 bWc4 bx0c0 bx0c1 bx0c2 bx0c3 bx0c4 bx1c0 bx1c1 bx1c2 bx1c3 bx1c4 bGc0 bGc1 bGc2 bGc3 bGc4
    have BE69 := Lib.hid (below_tr BE66.out hb)
    have HBW69 := Lib.hid (below_tr HBW66.out hb)
    have OWx169 := Lib.hid (OWx166.out.keep hb)
    have OWx269 := Lib.hid (OWx266.out.keep hb)
    have OWx369 := Lib.hid (OWx366.out.keep hb)
    have OWG69 := Lib.hid (OWG66.out.keep hb)
    have KBp069 := Lib.hid (KBp066.out.below hb)
    have KBp169 := Lib.hid (KBp166.out.below hb)
    have KBbW69 := Lib.hid (KBbW66.out.below hb)
    have KBbx069 := Lib.hid (KBbx066.out.below hb)
    have KBbx169 := Lib.hid (KBbx166.out.below hb)
    have KBbG69 := Lib.hid (KBbG66.out.below hb)
    have ZZ69 : Hid (we65.heap.size ≤ wl68.heap.size) := Lib.hid (by have := (hb).size; simpa using this)
    clear BE66 HBW66 OWx166 OWx266 OWx366 OWG66 KBp066 KBp166 KBbW66 KBbx066 KBbx166 KBbG66
    obtain ⟨p0c0, p0c1, p0c2, p0c3, p0c4⟩ := four_cells KBp069.out
    obtain ⟨p1c0, p1c1, p1c2, p1c3, p1c4⟩ := four_cells KBp169.out
    obtain ⟨bWc0, bWc1, bWc2, bWc3, bWc4⟩ := four_cells KBbW69.out
    obtain ⟨bx0c0, bx0c1, bx0c2, bx0c3, bx0c4⟩ := four_cells KBbx069.out
    obtain ⟨bx1c0, bx1c1, bx1c2, bx1c3, bx1c4⟩ := four_cells KBbx169.out
    obtain ⟨bGc0, bGc1, bGc2, bGc3, bGc4⟩ := four_cells KBbG69.out
    clear p0c0 p0c1 p0c2 p0c3 p0c4 p1c0 p1c1 p1c2 p1c3 p1c4 bWc0 bWc1 bWc2 bWc3 bWc4 bx0c0 bx0c1 bx0c2 bx0c3 bx0c4 bx1c0 bx1c1 bx1c2 bx1c3 bx1c4 bGc0 bGc1 bGc2 bGc3 bGc4
    have BE70 := Lib.hid (BE69.out.trans (hw.below (fun p hp => by have := (hs p hp).1; have := ZZ32.out; have := ZZ34.out; have := ZZ36.out; have := ZZ38.out; have := ZZaW.out; have := ZZ39.out; have := ZZgW.out; have := ZZ41.out; have := ZZ44.out; have := ZZ47.out; have := ZZ49.out; have := ZZ51.out; have := ZZ54.out; have := ZZ56.out; have := ZZ58.out; have := ZZ60.out; have := ZZ62.out; have := ZZ64.out; have := ZZ66.out; have := ZZ69.out; omega)))
    have HBW70 := Lib.hid (HBW69.out.trans (hw.below (fun p hp => by have := (hs p hp).1; have := ZZ32.out; have := ZZ34.out; have := ZZ36.out; have := ZZ38.out; have := ZZaW.out; have := ZZ39.out; have := ZZgW.out; have := ZZ41.out; have := ZZ44.out; have := ZZ47.out; have := ZZ49.out; have := ZZ51.out; have := ZZ54.out; have := ZZ56.out; have := ZZ58.out; have := ZZ60.out; have := ZZ62.out; have := ZZ64.out; have := ZZ66.out; have := ZZ69.out; omega)))
    have OWx170 := Lib.hid (OWx169.out.wrote hw (fun p hp => by have := hs p hp; have := ZZ32.out; have := ZZ34.out; have := ZZ36.out; have := ZZ38.out; have := ZZaW.out; have := ZZ39.out; have := ZZgW.out; have := ZZ41.out; have := ZZ44.out; have := ZZ47.out; have := ZZ49.out; have := ZZ51.out; have := ZZ54.out; have := ZZ56.out; have := ZZ58.out; have := ZZ60.out; have := ZZ62.out; have := ZZ64.out; have := ZZ66.out; have := ZZ69.out; omega))
    have OWx270 := Lib.hid (OWx269.out.wrote hw (fun p hp => by have := hs p hp; have := ZZ32.out; have := ZZ34.out; have := ZZ36.out; have := ZZ38.out; have := ZZaW.out; have := ZZ39.out; have := ZZgW.out; have := ZZ41.out; have := ZZ44.out; have := ZZ47.out; have := ZZ49.out; have := ZZ51.out; have := ZZ54.out; have := ZZ56.out; have := ZZ58.out; have := ZZ60.out; have := ZZ62.out; have := ZZ64.out; have := ZZ66.out; have := ZZ69.out; omega))
    have OWx370 := Lib.hid (OWx369.out.wrote hw (fun p hp => by have := hs p hp; have := ZZ32.out; have := ZZ34.out; have := ZZ36.out; have := ZZ38.out; have := ZZaW.out; have := ZZ39.out; have := ZZgW.out; have := ZZ41.out; have := ZZ44.out; have := ZZ47.out; have := ZZ49.out; have := ZZ51.out; have := ZZ54.out; have := ZZ56.out; have := ZZ58.out; have := ZZ60.out; have := ZZ62.out; have := ZZ64.out; have := ZZ66.out; have := ZZ69.out; omega))
    have OWG70 := Lib.hid (OWG69.out.wrote hw (fun p hp => by have := hs p hp; have := ZZ32.out; have := ZZ34.out; have := ZZ36.out; have := ZZ38.out; have := ZZaW.out; have := ZZ39.out; have := ZZgW.out; have := ZZ41.out; have := ZZ44.out; have := ZZ47.out; have := ZZ49.out; have := ZZ51.out; have := ZZ54.out; have := ZZ56.out; have := ZZ58.out; have := ZZ60.out; have := ZZ62.out; have := ZZ64.out; have := ZZ66.out; have := ZZ69.out; omega))
    have KBp070 := Lib.hid (KBp069.out.wrote hw (fun p hp e => by have := hs p hp; have := ZZ32.out; have := ZZ34.out; have := ZZ36.out; have := ZZ38.out; have := ZZaW.out; have := ZZ39.out; have := ZZgW.out; have := ZZ41.out; have := ZZ44.out; have := ZZ47.out; have := ZZ49.out; have := ZZ51.out; have := ZZ54.out; have := ZZ56.out; have := ZZ58.out; have := ZZ60.out; have := ZZ62.out; have := ZZ64.out; have := ZZ66.out; have := ZZ69.out; omega))
    have KBp170 := Lib.hid (KBp169.out.wrote hw (fun p hp e => by have := hs p hp; have := ZZ32.out; have := ZZ34.out; have := ZZ36.out; have := ZZ38.out; have := ZZaW.out; have := ZZ39.out; have := ZZgW.out; have := ZZ41.out; have := ZZ44.out; have := ZZ47.out; have := ZZ49.out; have := ZZ51.out; have := ZZ54.out; have := ZZ56.out; have := ZZ58.out; have := ZZ60.out; have := ZZ62.out; have := ZZ64.out; have := ZZ66.out; have := ZZ69.out; omega))
    have KBbW70 := Lib.hid (KBbW69.out.wrote hw (fun p hp e => by have := hs p hp; have := ZZ32.out; have := ZZ34.out; have := ZZ36.out; have := ZZ38.out; have := ZZaW.out; have := ZZ39.out; have := ZZgW.out; have := ZZ41.out; have := ZZ44.out; have := ZZ47.out; have := ZZ49.out; have := ZZ51.out; have := ZZ54.out; have := ZZ56.out; have := ZZ58.out; have := ZZ60.out; have := ZZ62.out; have := ZZ64.out; have := ZZ66.out; have := ZZ69.out; omega))
    have KBbx070 := Lib.hid (KBbx069.out.wrote hw (fun p hp e => by have := hs p hp; have := ZZ32.out; have := ZZ34.out; have := ZZ36.out; have := ZZ38.out; have := ZZaW.out; have := ZZ39.out; have := ZZgW.out; have := ZZ41.out; have := ZZ44.out; have := ZZ47.out; have := ZZ49.out; have := ZZ51.out; have := ZZ54.out; have := ZZ56.out; have := ZZ58.out; have := ZZ60.out; have := ZZ62.out; have := ZZ64.out; have := ZZ66.out; have := ZZ69.out; omega))
    have KBbx170 := Lib.hid (KBbx169.out.wrote hw (fun p hp e => by have := hs p hp; have := ZZ32.out; have := ZZ34.out; have := ZZ36.out; have := ZZ38.out; have := ZZaW.out; have := ZZ39.out; have := ZZgW.out; have := ZZ41.out; have := ZZ44.out; have := ZZ47.out; have := ZZ49.out; have := ZZ51.out; have := ZZ54.out; have := ZZ56.out; have := ZZ58.out; have := ZZ60.out; have := ZZ62.out; have := ZZ64.out; have := ZZ66.out; have := ZZ69.out; omega))
    have KBbG70 := Lib.hid (KBbG69.out.wrote hw (fun p hp e => by have := hs p hp; have := ZZ32.out; have := ZZ34.out; have := ZZ36.out; have := ZZ38.out; have := ZZaW.out; have := ZZ39.out; have := ZZgW.out; have := ZZ41.out; have := ZZ44.out; have := ZZ47.out; have := ZZ49.out; have := ZZ51.out; have := ZZ54.out; have := ZZ56.out; have := ZZ58.out; have := ZZ60.out; have := ZZ62.out; have := ZZ64.out; have := ZZ66.out; have := ZZ69.out; omega))
    have ZZ70 : Hid (wl68.heap.size ≤ wm67.heap.size) := Lib.hid (by have := hw.size; omega)
    clear BE69 HBW69 OWx169 OWx269 OWx369 OWG69 KBp069 KBp169 KBbW69 KBbx069 KBbx169 KBbG69
    obtain ⟨p0c0, p0c1, p0c2, p0c3, p0c4⟩ := four_cells KBp070.out
    obtain ⟨p1c0, p1c1, p1c2, p1c3, p1c4⟩ := four_cells KBp170.out
    obtain ⟨bWc0, bWc1, bWc2, bWc3, bWc4⟩ := four_cells KBbW70.out
    obtain ⟨bx0c0, bx0c1, bx0c2, bx0c3, bx0c4⟩ := four_cells KBbx070.out
    obtain ⟨bx1c0, bx1c1, bx1c2, bx1c3, bx1c4⟩ := four_cells KBbx170.out
    obtain ⟨bGc0, bGc1, bGc2, bGc3, bGc4⟩ := four_cells KBbG70.out
    clear hb
    clear hw hs
    clear hi
    have bl1 := rws.before_le xss1 xss1.length
    go_wp2_with fail
    refine (box.mark_any x1 y1 wh1 _ xss1 (1 + (rws.before xss0 xss0.length : Int)) (wc40.heap.size + 1) (wc43.heap.size) _ OWx170.out hn1 (by omega) (by omega)).mono ?_
    rintro e wm71 ⟨rfl, hi, S, wl72, hb, hw, hs⟩
    clear OWx170
    clear p0c0 p0c1 p0c2 p0c3 p0c4 p1c0 p1c1 p1c2 p1c3 p1c4 bWc0 bWc1 bWc2 bWc3 bWc4 bx0c0 bx0c1 bx0c2 bx0c3 bx0c4 bx1c0 bx1c1 bx1c2 bx1c3 bx1c4 bGc0 bGc1 bGc2 bGc3 bGc4
    have BE73 := Lib.hid (below_tr BE70.out hb)
    have HBW73 := Lib.hid (below_tr HBW70.out hb)
    have OWx273 := Lib.hid (OWx270.out.keep hb)
    have OWx373 := Lib.hid (OWx370.out.keep hb)
    have OWG73 := Lib.hid (OWG70.out.keep hb)
    have KBp073 := Lib.hid (KBp070.out.below hb)
    have KBp173 := Lib.hid (KBp170.out.below hb)
    have KBbW73 := Lib.hid (KBbW70.out.below hb)
    have KBbx073 := Lib.hid (KBbx070.out.below hb)
    have KBbx173 := Lib.hid (KBbx170.out.below hb)
    have KBbG73 := Lib.hid (KBbG70.out.below hb)
    have ZZ73 : Hid (wm67.heap.size ≤ wl72.heap.size) := Lib.hid (by have := (hb).size; simpa using this)
    clear BE70 HBW70 OWx270 OWx370 OWG70 KBp070 KBp170 KBbW70 KBbx070 KBbx170 KBbG70
    obtain ⟨p0c0, p0c1, p0c2, p0c3, p0c4⟩ := four_cells KBp073.out
    obtain ⟨p1c0, p1c1, p1c2, p1c3, p1c4⟩ := four_cells KBp173.out
    obtain ⟨bWc0, bWc1, bWc2, bWc3, bWc4⟩ := four_cells KBbW73.out
    obtain ⟨bx0c0, bx0c1, bx0c2, bx0c3, bx0c4⟩ := four_cells KBbx073.out
    obtain ⟨bx1c0, bx1c1, bx1c2, bx1c3, bx1c4⟩ := four_cells KBbx173.out
    obtain ⟨bGc0, bGc1, bGc2, bGc3, bGc4⟩ := four_cells KBbG73.out
    clear p0c0 p0c1 p0c2 p0c3 p0c4 p1c0 p1c1 p1c2 p1c3 p1c4 bWc0 bWc1 bWc2 bWc3 bWc4 bx0c0 bx0c1 bx0c2 bx0c3 bx0c4 bx1c0 bx1c1 bx1c2 bx1c3 bx1c4 bGc0 bGc1 bGc2 bGc3 bGc4
    have BE74 := Lib.hid (BE73.out.trans (hw.below (fun p hp => by have := (hs p hp).1; have := ZZ32.out; have := ZZ34.out; have := ZZ36.out; have := ZZ38.out; have := ZZaW.out; have := ZZ39.out; have := ZZgW.out; have := ZZ41.out; have := ZZ44.out; have := ZZ47.out; have := ZZ49.out; have := ZZ51.out; have := ZZ54.out; have := ZZ56.out; have := ZZ58.out; have := ZZ60.out; have := ZZ62.out; have := ZZ64.out; have := ZZ66.out; have := ZZ69.out; have := ZZ70.out; have := ZZ73.out; omega)))
    have HBW74 := Lib.hid (HBW73.out.trans (hw.below (fun p hp => by have := (hs p hp).1; have := ZZ32.out; have := ZZ34.out; have := ZZ36.out; have := ZZ38.out; have := ZZaW.out; have := ZZ39.out; have := ZZgW.out; have := ZZ41.out; have := ZZ44.out; have := ZZ47.out; have := ZZ49.out; have := ZZ51.out; have := ZZ54.out; have := ZZ56.out; have := ZZ58.out; have := ZZ60.out; have := ZZ62.out; have := ZZ64.out; have := ZZ66.out; have := ZZ69.out; have := ZZ70.out; have := ZZ73.out; omega)))
    have OWx274 := Lib.hid (OWx273.out.wrote hw (fun p hp => by have := hs p hp; have := ZZ32.out; have := ZZ34.out; have := ZZ36.out; have := ZZ38.out; have := ZZaW.out; have := ZZ39.out; have := ZZgW.out; have := ZZ41.out; have := ZZ44.out; have := ZZ47.out; have := ZZ49.out; have := ZZ51.out; have := ZZ54.out; have := ZZ56.out; have := ZZ58.out; have := ZZ60.out; have := ZZ62.out; have := ZZ64.out; have := ZZ66.out; have := ZZ69.out; have := ZZ70.out; have := ZZ73.out; omega))
    have OWx374 := Lib.hid (OWx373.out.wrote hw (fun p hp => by have := hs p hp; have := ZZ32.out; have := ZZ34.out; have := ZZ36.out; have := ZZ38.out; have := ZZaW.out; have := ZZ39.out; have := ZZgW.out; have := ZZ41.out; have := ZZ44.out; have := ZZ47.out; have := ZZ49.out; have := ZZ51.out; have := ZZ54.out; have := ZZ56.out; have := ZZ58.out; have := ZZ60.out; have := ZZ62.out; have := ZZ64.out; have := ZZ66.out; have := ZZ69.out; have := ZZ70.out; have := ZZ73.out; omega))
    have OWG74 := Lib.hid (OWG73.out.wrote hw (fun p hp => by have := hs p hp; have := ZZ32.out; have := ZZ34.out; have := ZZ36.out; have := ZZ38.out; have := ZZaW.out; have := ZZ39.out; have := ZZgW.out; have := ZZ41.out; have := ZZ44.out; have := ZZ47.out; have := ZZ49.out; have := ZZ51.out; have := ZZ54.out; have := ZZ56.out; have := ZZ58.out; have := ZZ60.out; have := ZZ62.out; have := ZZ64.out; have := ZZ66.out; have := ZZ69.out; have := ZZ70.out; have := ZZ73.out; omega))
    have KBp074 := Lib.hid (KBp073.out.wrote hw (fun p hp e => by have := hs p hp; have := ZZ32.out; have := ZZ34.out; have := ZZ36.out; have := ZZ38.out; have := ZZaW.out; have := ZZ39.out; have := ZZgW.out; have := ZZ41.out; have := ZZ44.out; have := ZZ47.out; have := ZZ49.out; have := ZZ51.out; have := ZZ54.out; have := ZZ56.out; have := ZZ58.out; have := ZZ60.out; have := ZZ62.out; have := ZZ64.out; have := ZZ66.out; have := ZZ69.out; have := ZZ70.out; have := ZZ73.out; omega))
    have KBp174 := Lib.hid (KBp173.out.wrote hw (fun p hp e => by have := hs p hp; have := ZZ32.out; have := ZZ34.out; have := ZZ36.out; have := ZZ38.out; have := ZZaW.out; have := ZZ39.out; have := ZZgW.out; have := ZZ41.out; have := ZZ44.out; have := ZZ47.out; have := ZZ49.out; have := ZZ51.out; have := ZZ54.out; have := ZZ56.out; have := ZZ58.out; have := ZZ60.out; have := ZZ62.out; have := ZZ64.out; have := ZZ66.out; have := ZZ69.out; have := ZZ70.out; have := ZZ73.out; omega))
    have KBbW74 := Lib.hid (KBbW73.out.wrote hw (fun p hp e => by have := hs p hp; have := ZZ32.out; have := ZZ34.out; have := ZZ36.out; have := ZZ38.out; have := ZZaW.out; have := ZZ39.out; have := ZZgW.out; have := ZZ41.out; have := ZZ44.out; have := ZZ47.out; have := ZZ49.out; have := ZZ51.out; have := ZZ54.out; have := ZZ56.out; have := ZZ58.out; have := ZZ60.out; have := ZZ62.out; have := ZZ64.out; have := ZZ66.out; have := ZZ69.out; have := ZZ70.out; have := ZZ73.out; omega))
    have KBbx074 := Lib.hid (KBbx073.out.wrote hw (fun p hp e => by have := hs p hp; have := ZZ32.out; have := ZZ34.out; have := ZZ36.out; have := ZZ38.out; have := ZZaW.out; have := ZZ39.out; have := ZZgW.out; have := ZZ41.out; have := ZZ44.out; have := ZZ47.out; have := ZZ49.out; have := ZZ51.out; have := ZZ54.out; have := ZZ56.out; have := ZZ58.out; have := ZZ60.out; have := ZZ62.out; have := ZZ64.out; have := ZZ66.out; have := ZZ69.out; have := ZZ70.out; have := ZZ73.out; omega))
    have KBbx174 := Lib.hid (KBbx173.out.wrote hw (fun p hp e => by have := hs p hp; have := ZZ32.out; have := ZZ34.out; have := ZZ36.out; have := ZZ38.out; have := ZZaW.out; have := ZZ39.out; have := ZZgW.out; have := ZZ41.out; have := ZZ44.out; have := ZZ47.out; have := ZZ49.out; have := ZZ51.out; have := ZZ54.out; have := ZZ56.out; have := ZZ58.out; have := ZZ60.out; have := ZZ62.out; have := ZZ64.out; have := ZZ66.out; have := ZZ69.out; have := ZZ70.out; have := ZZ73.out; omega))
    have KBbG74 := Lib.hid (KBbG73.out.wrote hw (fun p hp e => by have := hs p hp; have := ZZ32.out; have := ZZ34.out; have := ZZ36.out; have := ZZ38.out; have := ZZaW.out; have := ZZ39.out; have := ZZgW.out; have := ZZ41.out; have := ZZ44.out; have := ZZ47.out; have := ZZ49.out; have := ZZ51.out; have := ZZ54.out; have := ZZ56.out; have := ZZ58.out; have := ZZ60.out; have := ZZ62.out; have := ZZ64.out; have := ZZ66.out; have := ZZ69.out; have := ZZ70.out; have := ZZ73.out; omega))
    have ZZ74 : Hid (wl72.heap.size ≤ wm71.heap.size) := Lib.hid (by have := hw.size; omega)
    clear BE73 HBW73 OWx273 OWx373 OWG73 KBp073 KBp173 KBbW73 KBbx073 KBbx173 KBbG73
    obtain ⟨p0c0, p0c1, p0c2, p0c3, p0c4⟩ := four_cells KBp074.out
    obtain ⟨p1c0, p1c1, p1c2, p1c3, p1c4⟩ := four_cells KBp174.out
    obtain ⟨bWc0, bWc1, bWc2, bWc3, bWc4⟩ := four_cells KBbW74.out
    obtain ⟨bx0c0, bx0c1, bx0c2, bx0c3, bx0c4⟩ := four_cells KBbx074.out
    obtain ⟨bx1c0, bx1c1, bx1c2, bx1c3, bx1c4⟩ := four_cells KBbx174.out
    obtain ⟨bGc0, bGc1, bGc2, bGc3, bGc4⟩ := four_cells KBbG74.out
    clear hb
    clear hw hs
    clear hi
    go_wp2_with fail
    refine (rls.mark_any _ rs2 (1 + (rws.before xss0 xss0.length : Int) + (rws.before xss1 xss1.length : Int)) (wc43.heap.size + 1) (wc46.heap.size) _ OWx274.out HM2.out (by omega) (by omega) (by omega)).mono ?_
    rintro e wm75 ⟨rfl, S, hw, hs⟩
    clear OWx274
    clear p0c0 p0c1 p0c2 p0c3 p0c4 p1c0 p1c1 p1c2 p1c3 p1c4 bWc0 bWc1 bWc2 bWc3 bWc4 bx0c0 bx0c1 bx0c2 bx0c3 bx0c4 bx1c0 bx1c1 bx1c2 bx1c3 bx1c4 bGc0 bGc1 bGc2 bGc3 bGc4
    have BE77 := Lib.hid (BE74.out.trans (hw.below (fun p hp => by have := (hs p hp).1; have := ZZ32.out; have := ZZ34.out; have := ZZ36.out; have := ZZ38.out; have := ZZaW.out; have := ZZ39.out; have := ZZgW.out; have := ZZ41.out; have := ZZ44.out; have := ZZ47.out; have := ZZ49.out; have := ZZ51.out; have := ZZ54.out; have := ZZ56.out; have := ZZ58.out; have := ZZ60.out; have := ZZ62.out; have := ZZ64.out; have := ZZ66.out; have := ZZ69.out; have := ZZ70.out; have := ZZ73.out; have := ZZ74.out; omega)))
    have HBW77 := Lib.hid (HBW74.out.trans (hw.below (fun p hp => by have := (hs p hp).1; have := ZZ32.out; have := ZZ34.out; have := ZZ36.out; have := ZZ38.out; have := ZZaW.out; have := ZZ39.out; have := ZZgW.out; have := ZZ41.out; have := ZZ44.out; have := ZZ47.out; have := ZZ49.out; have := ZZ51.out; have := ZZ54.out; have := ZZ56.out; have := ZZ58.out; have := ZZ60.out; have := ZZ62.out; have := ZZ64.out; have := ZZ66.out; have := ZZ69.out; have := ZZ70.out; have := ZZ73.out; have := ZZ74.out; omega)))
    have OWx377 := Lib.hid (OWx374.out.wrote hw (fun p hp => by have := hs p hp; have := ZZ32.out; have := ZZ34.out; have := ZZ36.out; have := ZZ38.out; have := ZZaW.out; have := ZZ39.out; have := ZZgW.out; have := ZZ41.out; have := ZZ44.out; have := ZZ47.out; have := ZZ49.out; have := ZZ51.out; have := ZZ54.out; have := ZZ56.out; have := ZZ58.out; have := ZZ60.out; have := ZZ62.out; have := ZZ64.out; have := ZZ66.out; have := ZZ69.out; have := ZZ70.out; have := ZZ73.out; have := ZZ74.out; omega))
    have OWG77 := Lib.hid (OWG74.out.wrote hw (fun p hp => by have := hs p hp; have := ZZ32.out; have := ZZ34.out; have := ZZ36.out; have := ZZ38.out; have := ZZaW.out; have := ZZ39.out; have := ZZgW.out; have := ZZ41.out; have := ZZ44.out; have := ZZ47.out; have := ZZ49.out; have := ZZ51.out; have := ZZ54.out; have := ZZ56.out; have := ZZ58.out; have := ZZ60.out; have := ZZ62.out; have := ZZ64.out; have := ZZ66.out; have := ZZ69.out; have := ZZ70.out; have := ZZ73.out; have := ZZ74.out; omega))
    have KBp077 := Lib.hid (KBp074.out.wrote hw (fun p hp e => by have := hs p hp; have := ZZ32.out; have := ZZ34.out; have := ZZ36.out; have := ZZ38.out; have := ZZaW.out; have := ZZ39.out; have := ZZgW.out; have := ZZ41.out; have := ZZ44.out; have := ZZ47.out; have := ZZ49.out; have := ZZ51.out; have := ZZ54.out; have := ZZ56.out; have := ZZ58.out; have := ZZ60.out; have := ZZ62.out; have := ZZ64.out; have := ZZ66.out; have := ZZ69.out; have := ZZ70.out; have := ZZ73.out; have := ZZ74.out; omega))
    have KBp177 := Lib.hid (KBp174.out.wrote hw (fun p hp e => by have := hs p hp; have := ZZ32.out; have := ZZ34.out; have := ZZ36.out; have := ZZ38.out; have := ZZaW.out; have := ZZ39.out; have := ZZgW.out; have := ZZ41.out; have := ZZ44.out; have := ZZ47.out; have := ZZ49.out; have := ZZ51.out; have := ZZ54.out; have := ZZ56.out; have := ZZ58.out; have := ZZ60.out; have := ZZ62.out; have := ZZ64.out; have := ZZ66.out; have := ZZ69.out; have := ZZ70.out; have := ZZ73.out; have := ZZ74.out; omega))
    have KBbW77 := Lib.hid (KBbW74.out.wrote hw (fun p hp e => by have := hs p hp; have := ZZ32.out; have := ZZ34.out; have := ZZ36.out; have := ZZ38.out; have := ZZaW.out; have := ZZ39.out; have := ZZgW.out; have := ZZ41.out; have := ZZ44.out; have := ZZ47.out; have := ZZ49.out; have := ZZ51.out; have := ZZ54.out; have := ZZ56.out; have := ZZ58.out; have := ZZ60.out; have := ZZ62.out; have := ZZ64.out; have := ZZ66.out; have := ZZ69.out; have := ZZ70.out; have := ZZ73.out; have := ZZ74.out; omega))
    have KBbx077 := Lib.hid (KBbx074.out.wrote hw (fun p hp e => by have := hs p hp; have := ZZ32.out; have := ZZ34.out; have := ZZ36.out; have := ZZ38.out; have := ZZaW.out; have := ZZ39.out; have := ZZgW.out; have := ZZ41.out; have := ZZ44.out; have := ZZ47.out; have := ZZ49.out; have := ZZ51.out; have := ZZ54.out; have := ZZ56.out; have := ZZ58.out; have := ZZ60.out; have := ZZ62.out; have := ZZ64.out; have := ZZ66.out; have := ZZ69.out; have := ZZ70.out; have := ZZ73.out; have := ZZ74.out; omega))
    have KBbx177 := Lib.hid (KBbx174.out.wrote hw (fun p hp e => by have := hs p hp; have := ZZ32.out; have := ZZ34.out; have := ZZ36.out; have := ZZ38.out; have := ZZaW.out; have := ZZ39.out; have := ZZgW.out; have := ZZ41.out; have := ZZ44.out; have := ZZ47.out; have := ZZ49.out; have := ZZ51.out; have := ZZ54.out; have := ZZ56.out; have := ZZ58.out; have := ZZ60.out; have := ZZ62.out; have := ZZ64.out; have := ZZ66.out; have := ZZ69.out; have := ZZ70.out; have := ZZ73.out; have := ZZ74.out; omega))
    have KBbG77 := Lib.hid (KBbG74.out.wrote hw (fun p hp e => by have := hs p hp; have := ZZ32.out; have := ZZ34.out; have := ZZ36.out; have := ZZ38.out; have := ZZaW.out; have := ZZ39.out; have := ZZgW.out; have := ZZ41.out; have := ZZ44.out; have := ZZ47.out; have := ZZ49.out; have := ZZ51.out; have := ZZ54.out; have := ZZ56.out; have := ZZ58.out; have := ZZ60.out; have := ZZ62.out; have := ZZ64.out; have := ZZ66.out; have := ZZ69.out; have := ZZ70.out; have := ZZ73.out; have := ZZ74.out; omega))
    have ZZ77 : Hid (wm71.heap.size ≤ wm75.heap.size) := Lib.hid (by have := hw.size; omega)
    clear BE74 HBW74 OWx374 OWG74 KBp074 KBp174 KBbW74 KBbx074 KBbx174 KBbG74
    obtain ⟨p0c0, p0c1, p0c2, p0c3, p0c4⟩ := four_cells KBp077.out
    obtain ⟨p1c0, p1c1, p1c2, p1c3, p1c4⟩ := four_cells KBp177.out
    obtain ⟨bWc0, bWc1, bWc2, bWc3, bWc4⟩ := four_cells KBbW77.out
    obtain ⟨bx0c0, bx0c1, bx0c2, bx0c3, bx0c4⟩ := four_cells KBbx077.out
    obtain ⟨bx1c0, bx1c1, bx1c2, bx1c3, bx1c4⟩ := four_cells KBbx177.out
    obtain ⟨bGc0, bGc1, bGc2, bGc3, bGc4⟩ := four_cells KBbG77.out
    clear hw hs
    go_wp2_with fail
    refine (rls.mark_any _ rs3 (1 + (rws.before xss0 xss0.length : Int) + (rws.before xss1 xss1.length : Int) + rls.cnt rs2) (wc46.heap.size) (wc48.heap.size) _ OWx377.out HM3.out (by omega) (by omega) (by omega)).mono ?_
    rintro e wm78 ⟨rfl, S, hw, hs⟩
    clear OWx377
    clear p0c0 p0c1 p0c2 p0c3 p0c4 p1c0 p1c1 p1c2 p1c3 p1c4 bWc0 bWc1 bWc2 bWc3 bWc4 bx0c0 bx0c1 bx0c2 bx0c3 bx0c4 bx1c0 bx1c1 bx1c2 bx1c3 bx1c4 bGc0 bGc1 bGc2 bGc3 bGc4
    have BE80 := Lib.hid (BE77.out.trans (hw.below (fun p hp => by have := (hs p hp).1; have := ZZ32.out; have := ZZ34.out; have := ZZ36.out; have := ZZ38.out; have := ZZaW.out; have := ZZ39.out; have := ZZgW.out; have := ZZ41.out; have := ZZ44.out; have := ZZ47.out; have := ZZ49.out; have := ZZ51.out; have := ZZ54.out; have := ZZ56.out; have := ZZ58.out; have := ZZ60.out; have := ZZ62.out; have := ZZ64.out; have := ZZ66.out; have := ZZ69.out; have := ZZ70.out; have := ZZ73.out; have := ZZ74.out; have := ZZ77.out; omega)))
    have HBW80 := Lib.hid (HBW77.out.trans (hw.below (fun p hp => by have := (hs p hp).1; have := ZZ32.out; have := ZZ34.out; have := ZZ36.out; have := ZZ38.out; have := ZZaW.out; have := ZZ39.out; have := ZZgW.out; have := ZZ41.out; have := ZZ44.out; have := ZZ47.out; have := ZZ49.out; have := ZZ51.out; have := ZZ54.out; have := ZZ56.out; have := ZZ58.out; have := ZZ60.out; have := ZZ62.out; have := ZZ64.out; have := ZZ66.out; have := ZZ69.out; have := ZZ70.out; have := ZZ73.out; have := ZZ74.out; have := ZZ77.out; omega)))
    have OWG80 := Lib.hid (OWG77.out.wrote hw (fun p hp => by have := hs p hp; have := ZZ32.out; have := ZZ34.out; have := ZZ36.out; have := ZZ38.out; have := ZZaW.out; have := ZZ39.out; have := ZZgW.out; have := ZZ41.out; have := ZZ44.out; have := ZZ47.out; have := ZZ49.out; have := ZZ51.out; have := ZZ54.out; have := ZZ56.out; have := ZZ58.out; have := ZZ60.out; have := ZZ62.out; have := ZZ64.out; have := ZZ66.out; have := ZZ69.out; have := ZZ70.out; have := ZZ73.out; have := ZZ74.out; have := ZZ77.out; omega))
    have KBp080 := Lib.hid (KBp077.out.wrote hw (fun p hp e => by have := hs p hp; have := ZZ32.out; have := ZZ34.out; have := ZZ36.out; have := ZZ38.out; have := ZZaW.out; have := ZZ39.out; have := ZZgW.out; have := ZZ41.out; have := ZZ44.out; have := ZZ47.out; have := ZZ49.out; have := ZZ51.out; have := ZZ54.out; have := ZZ56.out; have := ZZ58.out; have := ZZ60.out; have := ZZ62.out; have := ZZ64.out; have := ZZ66.out; have := ZZ69.out; have := ZZ70.out; have := ZZ73.out; have := ZZ74.out; have := ZZ77.out; omega))
    have KBp180 := Lib.hid (KBp177.out.wrote hw (fun p hp e => by have := hs p hp; have := ZZ32.out; have := ZZ34.out; have := ZZ36.out; have := ZZ38.out; have := ZZaW.out; have := ZZ39.out; have := ZZgW.out; have := ZZ41.out; have := ZZ44.out; have := ZZ47.out; have := ZZ49.out; have := ZZ51.out; have := ZZ54.out; have := ZZ56.out; have := ZZ58.out; have := ZZ60.out; have := ZZ62.out; have := ZZ64.out; have := ZZ66.out; have := ZZ69.out; have := ZZ70.out; have := ZZ73.out; have := ZZ74.out; have := ZZ77.out; omega))
    have KBbW80 := Lib.hid (KBbW77.out.wrote hw (fun p hp e => by have := hs p hp; have := ZZ32.out; have := ZZ34.out; have := ZZ36.out; have := ZZ38.out; have := ZZaW.out; have := ZZ39.out; have := ZZgW.out; have := ZZ41.out; have := ZZ44.out; have := ZZ47.out; have := ZZ49.out; have := ZZ51.out; have := ZZ54.out; have := ZZ56.out; have := ZZ58.out; have := ZZ60.out; have := ZZ62.out; have := ZZ64.out; have := ZZ66.out; have := ZZ69.out; have := ZZ70.out; have := ZZ73.out; have := ZZ74.out; have := ZZ77.out; omega))
    have KBbx080 := Lib.hid (KBbx077.out.wrote hw (fun p hp e => by have := hs p hp; have := ZZ32.out; have := ZZ34.out; have := ZZ36.out; have := ZZ38.out; have := ZZaW.out; have := ZZ39.out; have := ZZgW.out; have := ZZ41.out; have := ZZ44.out; have := ZZ47.out; have := ZZ49.out; have := ZZ51.out; have := ZZ54.out; have := ZZ56.out; have := ZZ58.out; have := ZZ60.out; have := ZZ62.out; have := ZZ64.out; have := ZZ66.out; have := ZZ69.out; have := ZZ70.out; have := ZZ73.out; have := ZZ74.out; have := ZZ77.out; omega))
    have KBbx180 := Lib.hid (KBbx177.out.wrote hw (fun p hp e => by have := hs p hp; have := ZZ32.out; have := ZZ34.out; have := ZZ36.out; have := ZZ38.out; have := ZZaW.out; have := ZZ39.out; have := ZZgW.out; have := ZZ41.out; have := ZZ44.out; have := ZZ47.out; have := ZZ49.out; have := ZZ51.out; have := ZZ54.out; have := ZZ56.out; have := ZZ58.out; have := ZZ60.out; have := ZZ62.out; have := ZZ64.out; have := ZZ66.out; have := ZZ69.out; have := ZZ70.out; have := ZZ73.out; have := ZZ74.out; have := ZZ77.out; omega))
    have KBbG80 := Lib.hid (KBbG77.out.wrote hw (fun p hp e => by have := hs p hp; have := ZZ32.out; have := ZZ34.out; have := ZZ36.out; have := ZZ38.out; have := ZZaW.out; have := ZZ39.out; have := ZZgW.out; have := ZZ41.out; have := ZZ44.out; have := ZZ47.out; have := ZZ49.out; have := ZZ51.out; have := ZZ54.out; have := ZZ56.out; have := ZZ58.out; have := ZZ60.out; have := ZZ62.out; have := ZZ64.out; have := ZZ66.out; have := ZZ69.out; have := ZZ70.out; have := ZZ73.out; have := ZZ74.out; have := ZZ77.out; omega))
    have ZZ80 : Hid (wm75.heap.size ≤ wm78.heap.size) := Lib.hid (by have := hw.size; omega)
    clear BE77 HBW77 OWG77 KBp077 KBp177 KBbW77 KBbx077 KBbx177 KBbG77
    obtain ⟨p0c0, p0c1, p0c2, p0c3, p0c4⟩ := four_cells KBp080.out
    obtain ⟨p1c0, p1c1, p1c2, p1c3, p1c4⟩ := four_cells KBp180.out
    obtain ⟨bWc0, bWc1, bWc2, bWc3, bWc4⟩ := four_cells KBbW80.out
    obtain ⟨bx0c0, bx0c1, bx0c2, bx0c3, bx0c4⟩ := four_cells KBbx080.out
    obtain ⟨bx1c0, bx1c1, bx1c2, bx1c3, bx1c4⟩ := four_cells KBbx180.out
    obtain ⟨bGc0, bGc1, bGc2, bGc3, bGc4⟩ := four_cells KBbG80.out
    clear hw hs
    have dk : decide (1 + (rws.before xss0 xss0.length : Int) + (rws.before xss1 xss1.length : Int) + rls.cnt rs2 + rls.cnt rs3 < 0) = false := by simp; omega
    have dk' : ¬ (1 + (rws.before xss0 xss0.length : Int) + (rws.before xss1 xss1.length : Int) + rls.cnt rs2 + rls.cnt rs3 < 0) := by omega
    go_wp2_with fail
    refine (box.eq_same ((mxw.res x0 y0 wh0 xss0 x1 y1 wh1 xss1 rs2 rs3).x) ((mxw.res x0 y0 wh0 xss0 x1 y1 wh1 xss1 rs2 rs3).y) ((mxw.res x0 y0 wh0 xss0 x1 y1 wh1 xss1 rs2 rs3).wh) _ _ ((mxw.res x0 y0 wh0 xss0 x1 y1 wh1 xss1 rs2 rs3).rows) _ OWG80.out.rows (VWW.out.below HBW80.out) mxw.tot_res).mono ?_
    rintro e we81 ⟨rfl, hb⟩
    clear p0c0 p0c1 p0c2 p0c3 p0c4 p1c0 p1c1 p1c2 p1c3 p1c4 bWc0 bWc1 bWc2 bWc3 bWc4 bx0c0 bx0c1 bx0c2 bx0c3 bx0c4 bx1c0 bx1c1 bx1c2 bx1c3 bx1c4 bGc0 bGc1 bGc2 bGc3 bGc4
    have BE82 := Lib.hid (below_tr BE80.out hb)
    have HBW82 := Lib.hid (below_tr HBW80.out hb)
    have OWG82 := Lib.hid (OWG80.out.keep hb)
    have KBp082 := Lib.hid (KBp080.out.below hb)
    have KBp182 := Lib.hid (KBp180.out.below hb)
    have KBbW82 := Lib.hid (KBbW80.out.below hb)
    have KBbx082 := Lib.hid (KBbx080.out.below hb)
    have KBbx182 := Lib.hid (KBbx180.out.below hb)
    have KBbG82 := Lib.hid (KBbG80.out.below hb)
    have ZZ82 : Hid (wm78.heap.size ≤ we81.heap.size) := Lib.hid (by have := (hb).size; simpa using this)
    clear BE80 HBW80 OWG80 KBp080 KBp180 KBbW80 KBbx080 KBbx180 KBbG80
    obtain ⟨p0c0, p0c1, p0c2, p0c3, p0c4⟩ := four_cells KBp082.out
    obtain ⟨p1c0, p1c1, p1c2, p1c3, p1c4⟩ := four_cells KBp182.out
    obtain ⟨bWc0, bWc1, bWc2, bWc3, bWc4⟩ := four_cells KBbW82.out
    obtain ⟨bx0c0, bx0c1, bx0c2, bx0c3, bx0c4⟩ := four_cells KBbx082.out
    obtain ⟨bx1c0, bx1c1, bx1c2, bx1c3, bx1c4⟩ := four_cells KBbx182.out
    obtain ⟨bGc0, bGc1, bGc2, bGc3, bGc4⟩ := four_cells KBbG82.out
    clear hb
    have blr := Nat.le_trans (rws.before_le ((mxw.res x0 y0 wh0 xss0 x1 y1 wh1 xss1 rs2 rs3).rows) ((mxw.res x0 y0 wh0 xss0 x1 y1 wh1 xss1 rs2 rs3).rows).length) mxw.tot_res
    have dq : ¬ (1 + (rws.before ((mxw.res x0 y0 wh0 xss0 x1 y1 wh1 xss1 rs2 rs3).rows) ((mxw.res x0 y0 wh0 xss0 x1 y1 wh1 xss1 rs2 rs3).rows).length : Int) < 0) := by omega
    have tq : ((1 + (rws.before ((mxw.res x0 y0 wh0 xss0 x1 y1 wh1 xss1 rs2 rs3).rows) ((mxw.res x0 y0 wh0 xss0 x1 y1 wh1 xss1 rs2 rs3).rows).length : Int)) != (1 + (rws.before ((mxw.res x0 y0 wh0 xss0 x1 y1 wh1 xss1 rs2 rs3).rows) ((mxw.res x0 y0 wh0 xss0 x1 y1 wh1 xss1 rs2 rs3).rows).length : Int))) = false := bne_self_eq_false _
    go_wp2_with fail
    refine (box.mark_any ((mxw.res x0 y0 wh0 xss0 x1 y1 wh1 xss1 rs2 rs3).x) ((mxw.res x0 y0 wh0 xss0 x1 y1 wh1 xss1 rs2 rs3).y) ((mxw.res x0 y0 wh0 xss0 x1 y1 wh1 xss1 rs2 rs3).wh) _ ((mxw.res x0 y0 wh0 xss0 x1 y1 wh1 xss1 rs2 rs3).rows) (1) (wc48.heap.size) (wf50.heap.size) _ OWG82.out mxw.tot_res (by omega) (by omega)).mono ?_
    rintro e wm83 ⟨rfl, hi, S, wl84, hb, hw, hs⟩
    clear OWG82
    clear p0c0 p0c1 p0c2 p0c3 p0c4 p1c0 p1c1 p1c2 p1c3 p1c4 bWc0 bWc1 bWc2 bWc3 bWc4 bx0c0 bx0c1 bx0c2 bx0c3 bx0c4 bx1c0 bx1c1 bx1c2 bx1c3 bx1c4 bGc0 bGc1 bGc2 bGc3 bGc4
    have BE85 := Lib.hid (below_tr BE82.out hb)
    have HBW85 := Lib.hid (below_tr HBW82.out hb)
    have KBp085 := Lib.hid (KBp082.out.below hb)
    have KBp185 := Lib.hid (KBp182.out.below hb)
    have KBbW85 := Lib.hid (KBbW82.out.below hb)
    have KBbx085 := Lib.hid (KBbx082.out.below hb)
    have KBbx185 := Lib.hid (KBbx182.out.below hb)
    have KBbG85 := Lib.hid (KBbG82.out.below hb)
    have ZZ85 : Hid (we81.heap.size ≤ wl84.heap.size) := Lib.hid (by have := (hb).size; simpa using this)
    clear BE82 HBW82 KBp082 KBp182 KBbW82 KBbx082 KBbx182 KBbG82
    obtain ⟨p0c0, p0c1, p0c2, p0c3, p0c4⟩ := four_cells KBp085.out
    obtain ⟨p1c0, p1c1, p1c2, p1c3, p1c4⟩ := four_cells KBp185.out
    obtain ⟨bWc0, bWc1, bWc2, bWc3, bWc4⟩ := four_cells KBbW85.out
    obtain ⟨bx0c0, bx0c1, bx0c2, bx0c3, bx0c4⟩ := four_cells KBbx085.out
    obtain ⟨bx1c0, bx1c1, bx1c2, bx1c3, bx1c4⟩ := four_cells KBbx185.out
    obtain ⟨bGc0, bGc1, bGc2, bGc3, bGc4⟩ := four_cells KBbG85.out
    clear p0c0 p0c1 p0c2 p0c3 p0c4 p1c0 p1c1 p1c2 p1c3 p1c4 bWc0 bWc1 bWc2 bWc3 bWc4 bx0c0 bx0c1 bx0c2 bx0c3 bx0c4 bx1c0 bx1c1 bx1c2 bx1c3 bx1c4 bGc0 bGc1 bGc2 bGc3 bGc4
    have BE86 := Lib.hid (BE85.out.trans (hw.below (fun p hp => by have := (hs p hp).1; have := ZZ32.out; have := ZZ34.out; have := ZZ36.out; have := ZZ38.out; have := ZZaW.out; have := ZZ39.out; have := ZZgW.out; have := ZZ41.out; have := ZZ44.out; have := ZZ47.out; have := ZZ49.out; have := ZZ51.out; have := ZZ54.out; have := ZZ56.out; have := ZZ58.out; have := ZZ60.out; have := ZZ62.out; have := ZZ64.out; have := ZZ66.out; have := ZZ69.out; have := ZZ70.out; have := ZZ73.out; have := ZZ74.out; have := ZZ77.out; have := ZZ80.out; have := ZZ82.out; have := ZZ85.out; omega)))
    have HBW86 := Lib.hid (HBW85.out.trans (hw.below (fun p hp => by have := (hs p hp).1; have := ZZ32.out; have := ZZ34.out; have := ZZ36.out; have := ZZ38.out; have := ZZaW.out; have := ZZ39.out; have := ZZgW.out; have := ZZ41.out; have := ZZ44.out; have := ZZ47.out; have := ZZ49.out; have := ZZ51.out; have := ZZ54.out; have := ZZ56.out; have := ZZ58.out; have := ZZ60.out; have := ZZ62.out; have := ZZ64.out; have := ZZ66.out; have := ZZ69.out; have := ZZ70.out; have := ZZ73.out; have := ZZ74.out; have := ZZ77.out; have := ZZ80.out; have := ZZ82.out; have := ZZ85.out; omega)))
    have KBp086 := Lib.hid (KBp085.out.wrote hw (fun p hp e => by have := hs p hp; have := ZZ32.out; have := ZZ34.out; have := ZZ36.out; have := ZZ38.out; have := ZZaW.out; have := ZZ39.out; have := ZZgW.out; have := ZZ41.out; have := ZZ44.out; have := ZZ47.out; have := ZZ49.out; have := ZZ51.out; have := ZZ54.out; have := ZZ56.out; have := ZZ58.out; have := ZZ60.out; have := ZZ62.out; have := ZZ64.out; have := ZZ66.out; have := ZZ69.out; have := ZZ70.out; have := ZZ73.out; have := ZZ74.out; have := ZZ77.out; have := ZZ80.out; have := ZZ82.out; have := ZZ85.out; omega))
    have KBp186 := Lib.hid (KBp185.out.wrote hw (fun p hp e => by have := hs p hp; have := ZZ32.out; have := ZZ34.out; have := ZZ36.out; have := ZZ38.out; have := ZZaW.out; have := ZZ39.out; have := ZZgW.out; have := ZZ41.out; have := ZZ44.out; have := ZZ47.out; have := ZZ49.out; have := ZZ51.out; have := ZZ54.out; have := ZZ56.out; have := ZZ58.out; have := ZZ60.out; have := ZZ62.out; have := ZZ64.out; have := ZZ66.out; have := ZZ69.out; have := ZZ70.out; have := ZZ73.out; have := ZZ74.out; have := ZZ77.out; have := ZZ80.out; have := ZZ82.out; have := ZZ85.out; omega))
    have KBbW86 := Lib.hid (KBbW85.out.wrote hw (fun p hp e => by have := hs p hp; have := ZZ32.out; have := ZZ34.out; have := ZZ36.out; have := ZZ38.out; have := ZZaW.out; have := ZZ39.out; have := ZZgW.out; have := ZZ41.out; have := ZZ44.out; have := ZZ47.out; have := ZZ49.out; have := ZZ51.out; have := ZZ54.out; have := ZZ56.out; have := ZZ58.out; have := ZZ60.out; have := ZZ62.out; have := ZZ64.out; have := ZZ66.out; have := ZZ69.out; have := ZZ70.out; have := ZZ73.out; have := ZZ74.out; have := ZZ77.out; have := ZZ80.out; have := ZZ82.out; have := ZZ85.out; omega))
    have KBbx086 := Lib.hid (KBbx085.out.wrote hw (fun p hp e => by have := hs p hp; have := ZZ32.out; have := ZZ34.out; have := ZZ36.out; have := ZZ38.out; have := ZZaW.out; have := ZZ39.out; have := ZZgW.out; have := ZZ41.out; have := ZZ44.out; have := ZZ47.out; have := ZZ49.out; have := ZZ51.out; have := ZZ54.out; have := ZZ56.out; have := ZZ58.out; have := ZZ60.out; have := ZZ62.out; have := ZZ64.out; have := ZZ66.out; have := ZZ69.out; have := ZZ70.out; have := ZZ73.out; have := ZZ74.out; have := ZZ77.out; have := ZZ80.out; have := ZZ82.out; have := ZZ85.out; omega))
    have KBbx186 := Lib.hid (KBbx185.out.wrote hw (fun p hp e => by have := hs p hp; have := ZZ32.out; have := ZZ34.out; have := ZZ36.out; have := ZZ38.out; have := ZZaW.out; have := ZZ39.out; have := ZZgW.out; have := ZZ41.out; have := ZZ44.out; have := ZZ47.out; have := ZZ49.out; have := ZZ51.out; have := ZZ54.out; have := ZZ56.out; have := ZZ58.out; have := ZZ60.out; have := ZZ62.out; have := ZZ64.out; have := ZZ66.out; have := ZZ69.out; have := ZZ70.out; have := ZZ73.out; have := ZZ74.out; have := ZZ77.out; have := ZZ80.out; have := ZZ82.out; have := ZZ85.out; omega))
    have KBbG86 := Lib.hid (KBbG85.out.wrote hw (fun p hp e => by have := hs p hp; have := ZZ32.out; have := ZZ34.out; have := ZZ36.out; have := ZZ38.out; have := ZZaW.out; have := ZZ39.out; have := ZZgW.out; have := ZZ41.out; have := ZZ44.out; have := ZZ47.out; have := ZZ49.out; have := ZZ51.out; have := ZZ54.out; have := ZZ56.out; have := ZZ58.out; have := ZZ60.out; have := ZZ62.out; have := ZZ64.out; have := ZZ66.out; have := ZZ69.out; have := ZZ70.out; have := ZZ73.out; have := ZZ74.out; have := ZZ77.out; have := ZZ80.out; have := ZZ82.out; have := ZZ85.out; omega))
    have ZZ86 : Hid (wl84.heap.size ≤ wm83.heap.size) := Lib.hid (by have := hw.size; omega)
    clear BE85 HBW85 KBp085 KBp185 KBbW85 KBbx085 KBbx185 KBbG85
    obtain ⟨p0c0, p0c1, p0c2, p0c3, p0c4⟩ := four_cells KBp086.out
    obtain ⟨p1c0, p1c1, p1c2, p1c3, p1c4⟩ := four_cells KBp186.out
    obtain ⟨bWc0, bWc1, bWc2, bWc3, bWc4⟩ := four_cells KBbW86.out
    obtain ⟨bx0c0, bx0c1, bx0c2, bx0c3, bx0c4⟩ := four_cells KBbx086.out
    obtain ⟨bx1c0, bx1c1, bx1c2, bx1c3, bx1c4⟩ := four_cells KBbx186.out
    obtain ⟨bGc0, bGc1, bGc2, bGc3, bGc4⟩ := four_cells KBbG86.out
    clear hb
    clear hw hs
    have VWM := Lib.hid hi
    have HBM := Lib.hid (Below.refl wm83.heap.size wm83)
    clear hi
    go_wp2_with fail
    refine (box.held_any ((mxw.res x0 y0 wh0 xss0 x1 y1 wh1 xss1 rs2 rs3).x) ((mxw.res x0 y0 wh0 xss0 x1 y1 wh1 xss1 rs2 rs3).y) ((mxw.res x0 y0 wh0 xss0 x1 y1 wh1 xss1 rs2 rs3).wh) _ ((mxw.res x0 y0 wh0 xss0 x1 y1 wh1 xss1 rs2 rs3).rows) 1 _ (VWM.out.below HBM.out) mxw.tot_res (by omega) (by omega)).mono ?_
    rintro e wh87 ⟨rfl, hb⟩
    clear p0c0 p0c1 p0c2 p0c3 p0c4 p1c0 p1c1 p1c2 p1c3 p1c4 bWc0 bWc1 bWc2 bWc3 bWc4 bx0c0 bx0c1 bx0c2 bx0c3 bx0c4 bx1c0 bx1c1 bx1c2 bx1c3 bx1c4 bGc0 bGc1 bGc2 bGc3 bGc4
    have BE88 := Lib.hid (below_tr BE86.out hb)
    have HBW88 := Lib.hid (below_tr HBW86.out hb)
    have HBM88 := Lib.hid (below_tr HBM.out hb)
    have KBp088 := Lib.hid (KBp086.out.below hb)
    have KBp188 := Lib.hid (KBp186.out.below hb)
    have KBbW88 := Lib.hid (KBbW86.out.below hb)
    have KBbx088 := Lib.hid (KBbx086.out.below hb)
    have KBbx188 := Lib.hid (KBbx186.out.below hb)
    have KBbG88 := Lib.hid (KBbG86.out.below hb)
    have ZZ88 : Hid (wm83.heap.size ≤ wh87.heap.size) := Lib.hid (by have := (hb).size; simpa using this)
    clear BE86 HBW86 HBM KBp086 KBp186 KBbW86 KBbx086 KBbx186 KBbG86
    obtain ⟨p0c0, p0c1, p0c2, p0c3, p0c4⟩ := four_cells KBp088.out
    obtain ⟨p1c0, p1c1, p1c2, p1c3, p1c4⟩ := four_cells KBp188.out
    obtain ⟨bWc0, bWc1, bWc2, bWc3, bWc4⟩ := four_cells KBbW88.out
    obtain ⟨bx0c0, bx0c1, bx0c2, bx0c3, bx0c4⟩ := four_cells KBbx088.out
    obtain ⟨bx1c0, bx1c1, bx1c2, bx1c3, bx1c4⟩ := four_cells KBbx188.out
    obtain ⟨bGc0, bGc1, bGc2, bGc3, bGc4⟩ := four_cells KBbG88.out
    clear hb
    have HA0 := Lib.hid (H0.out.below BE88.out)
    have HA1 := Lib.hid (H1.out.below BE88.out)
    have HA2 := Lib.hid (H2.out.below BE88.out)
    have HA3 := Lib.hid (H3.out.below BE88.out)
    obtain ⟨q, hq⟩ : ∃ q, q = (mxw.res x0 y0 wh0 xss0 x1 y1 wh1 xss1 rs2 rs3) := ⟨_, rfl⟩
    have HQ := Lib.hid hq
    clear hq
    have ZZaHh : Hid (w.heap.size + 1 + 1 ≤ wh87.heap.size) := Lib.hid KBp188.out.lt
    go_wp2_with fail
    refine inv.start (by kernel_rfl) (fun l a' Wh => ∃ (gh : Nat) (rh t0 t1 t2 t3 t4 t5 t6 t7 t8 t9 t10 t11 t12 t14 : Value), a' = { tmps := #[Value.agg #[Value.int IntKind.i64 x0, Value.int IntKind.i64 y0, Value.int IntKind.i64 wh0, Value.slice va0 vn0 vc0], Value.agg #[Value.int IntKind.i64 x1, Value.int IntKind.i64 y1, Value.int IntKind.i64 wh1, Value.slice va1 vn1 vc1], Value.slice va2 vn2 vc2, Value.slice va3 vn3 vc3, Value.pointer (some { block := w.heap.size, off := 0 }), Value.pointer (some { block := w.heap.size + 1, off := 0 }), undef, undef, Value.bool false, Value.int IntKind.i64 (rls.sz rs3 (rls.sz rs2 (rws.sz xss1 (rws.sz xss0 1048576)))), Value.pointer (some { block := g, off := 0 }), Value.bool (mxw.res x0 y0 wh0 xss0 x1 y1 wh1 xss1 rs2 rs3).ok, Value.pointer (some { block := wc40.heap.size, off := 0 }), Value.pointer (some { block := wc43.heap.size, off := 0 }), Value.slice x2a x2n x2c, Value.slice x3a x3n x3c, Value.pointer (some { block := wf50.heap.size, off := 0 }), Value.bool (mxw.res x0 y0 wh0 xss0 x1 y1 wh1 xss1 rs2 rs3).ok, Value.int IntKind.i64 (1 + ↑(rws.before xss0 xss0.length) + ↑(rws.before xss1 xss1.length) + rls.cnt rs2 + rls.cnt rs3), Value.int IntKind.i64 (1 + ↑(rws.before (mxw.res x0 y0 wh0 xss0 x1 y1 wh1 xss1 rs2 rs3).rows (mxw.res x0 y0 wh0 xss0 x1 y1 wh1 xss1 rs2 rs3).rows.length)), Value.int IntKind.i64 (1 + ↑(rws.before (mxw.res x0 y0 wh0 xss0 x1 y1 wh1 xss1 rs2 rs3).rows (mxw.res x0 y0 wh0 xss0 x1 y1 wh1 xss1 rs2 rs3).rows.length)), t12, t14, Value.agg #[Value.int IntKind.i64 x0, Value.int IntKind.i64 y0, Value.int IntKind.i64 wh0, Value.slice va0 vn0 vc0], Value.int IntKind.i64 1048576, Value.int IntKind.i64 (rws.sz xss0 1048576), Value.int IntKind.i64 (rws.sz xss0 1048576), Value.bool (decide (rws.sz xss0 1048576 < 0)), Value.agg #[Value.int IntKind.i64 x1, Value.int IntKind.i64 y1, Value.int IntKind.i64 wh1, Value.slice va1 vn1 vc1], Value.int IntKind.i64 (rws.sz xss0 1048576), Value.int IntKind.i64 (rws.sz xss1 (rws.sz xss0 1048576)), Value.int IntKind.i64 (rws.sz xss1 (rws.sz xss0 1048576)), Value.bool (decide (rws.sz xss1 (rws.sz xss0 1048576) < 0)), Value.slice va2 vn2 vc2, Value.int IntKind.i64 (rws.sz xss1 (rws.sz xss0 1048576)), Value.int IntKind.i64 (rls.sz rs2 (rws.sz xss1 (rws.sz xss0 1048576))), Value.int IntKind.i64 (rls.sz rs2 (rws.sz xss1 (rws.sz xss0 1048576))), Value.bool (decide (rls.sz rs2 (rws.sz xss1 (rws.sz xss0 1048576)) < 0)), Value.slice va3 vn3 vc3, Value.int IntKind.i64 (rls.sz rs2 (rws.sz xss1 (rws.sz xss0 1048576))), Value.int IntKind.i64 (rls.sz rs3 (rls.sz rs2 (rws.sz xss1 (rws.sz xss0 1048576)))), Value.int IntKind.i64 (rls.sz rs3 (rls.sz rs2 (rws.sz xss1 (rws.sz xss0 1048576)))), Value.bool (decide (rls.sz rs3 (rls.sz rs2 (rws.sz xss1 (rws.sz xss0 1048576))) < 0)), Value.tuple #[Value.agg #[Value.int IntKind.i64 (mxw.res x0 y0 wh0 xss0 x1 y1 wh1 xss1 rs2 rs3).x, Value.int IntKind.i64 (mxw.res x0 y0 wh0 xss0 x1 y1 wh1 xss1 rs2 rs3).y, Value.int IntKind.i64 (mxw.res x0 y0 wh0 xss0 x1 y1 wh1 xss1 rs2 rs3).wh, Value.slice Wa Wn Wc], Value.bool (mxw.res x0 y0 wh0 xss0 x1 y1 wh1 xss1 rs2 rs3).ok], Value.agg #[Value.int IntKind.i64 x0, Value.int IntKind.i64 y0, Value.int IntKind.i64 wh0, Value.slice va0 vn0 vc0], s1, Value.agg #[Value.int IntKind.i64 x1, Value.int IntKind.i64 y1, Value.int IntKind.i64 wh1, Value.slice va1 vn1 vc1], s3, Value.slice va2 vn2 vc2, s5, Value.slice va3 vn3 vc3, s7, Value.tuple #[Value.agg #[Value.int IntKind.i64 (mxw.res x0 y0 wh0 xss0 x1 y1 wh1 xss1 rs2 rs3).x, Value.int IntKind.i64 (mxw.res x0 y0 wh0 xss0 x1 y1 wh1 xss1 rs2 rs3).y, Value.int IntKind.i64 (mxw.res x0 y0 wh0 xss0 x1 y1 wh1 xss1 rs2 rs3).wh, Value.slice Wa Wn Wc], Value.bool (mxw.res x0 y0 wh0 xss0 x1 y1 wh1 xss1 rs2 rs3).ok], Value.agg #[Value.int IntKind.i64 (mxw.res x0 y0 wh0 xss0 x1 y1 wh1 xss1 rs2 rs3).x, Value.int IntKind.i64 (mxw.res x0 y0 wh0 xss0 x1 y1 wh1 xss1 rs2 rs3).y, Value.int IntKind.i64 (mxw.res x0 y0 wh0 xss0 x1 y1 wh1 xss1 rs2 rs3).wh, Value.slice Wa Wn Wc], Value.bool (mxw.res x0 y0 wh0 xss0 x1 y1 wh1 xss1 rs2 rs3).ok, Value.agg #[Value.int IntKind.i64 x0, Value.int IntKind.i64 y0, Value.int IntKind.i64 wh0, Value.slice va0 vn0 vc0], Value.agg #[Value.int IntKind.i64 x0, Value.int IntKind.i64 y0, Value.int IntKind.i64 wh0, Value.slice x0a x0n x0c], Value.agg #[Value.int IntKind.i64 x1, Value.int IntKind.i64 y1, Value.int IntKind.i64 wh1, Value.slice va1 vn1 vc1], Value.agg #[Value.int IntKind.i64 x1, Value.int IntKind.i64 y1, Value.int IntKind.i64 wh1, Value.slice x1a x1n x1c], Value.slice va2 vn2 vc2, Value.slice x2a x2n x2c, Value.slice va3 vn3 vc3, Value.slice x3a x3n x3c, Value.tuple #[Value.agg #[Value.int IntKind.i64 (mxw.res x0 y0 wh0 xss0 x1 y1 wh1 xss1 rs2 rs3).x, Value.int IntKind.i64 (mxw.res x0 y0 wh0 xss0 x1 y1 wh1 xss1 rs2 rs3).y, Value.int IntKind.i64 (mxw.res x0 y0 wh0 xss0 x1 y1 wh1 xss1 rs2 rs3).wh, Value.slice Ga Gn Gc], Value.bool (mxw.res x0 y0 wh0 xss0 x1 y1 wh1 xss1 rs2 rs3).ok], Value.agg #[Value.int IntKind.i64 x0, Value.int IntKind.i64 y0, Value.int IntKind.i64 wh0, Value.slice x0a x0n x0c], Value.agg #[Value.int IntKind.i64 x1, Value.int IntKind.i64 y1, Value.int IntKind.i64 wh1, Value.slice x1a x1n x1c], Value.slice x2a x2n x2c, Value.slice x3a x3n x3c, Value.tuple #[Value.agg #[Value.int IntKind.i64 (mxw.res x0 y0 wh0 xss0 x1 y1 wh1 xss1 rs2 rs3).x, Value.int IntKind.i64 (mxw.res x0 y0 wh0 xss0 x1 y1 wh1 xss1 rs2 rs3).y, Value.int IntKind.i64 (mxw.res x0 y0 wh0 xss0 x1 y1 wh1 xss1 rs2 rs3).wh, Value.slice Ga Gn Gc], Value.bool (mxw.res x0 y0 wh0 xss0 x1 y1 wh1 xss1 rs2 rs3).ok], Value.agg #[Value.int IntKind.i64 (mxw.res x0 y0 wh0 xss0 x1 y1 wh1 xss1 rs2 rs3).x, Value.int IntKind.i64 (mxw.res x0 y0 wh0 xss0 x1 y1 wh1 xss1 rs2 rs3).y, Value.int IntKind.i64 (mxw.res x0 y0 wh0 xss0 x1 y1 wh1 xss1 rs2 rs3).wh, Value.slice Ga Gn Gc], Value.bool (mxw.res x0 y0 wh0 xss0 x1 y1 wh1 xss1 rs2 rs3).ok, Value.agg #[Value.int IntKind.i64 (mxw.res x0 y0 wh0 xss0 x1 y1 wh1 xss1 rs2 rs3).x, Value.int IntKind.i64 (mxw.res x0 y0 wh0 xss0 x1 y1 wh1 xss1 rs2 rs3).y, Value.int IntKind.i64 (mxw.res x0 y0 wh0 xss0 x1 y1 wh1 xss1 rs2 rs3).wh, Value.slice Ga Gn Gc], Value.agg #[Value.int IntKind.i64 (mxw.res x0 y0 wh0 xss0 x1 y1 wh1 xss1 rs2 rs3).x, Value.int IntKind.i64 (mxw.res x0 y0 wh0 xss0 x1 y1 wh1 xss1 rs2 rs3).y, Value.int IntKind.i64 (mxw.res x0 y0 wh0 xss0 x1 y1 wh1 xss1 rs2 rs3).wh, Value.slice Wa Wn Wc], Value.bool true, Value.bool false, Value.bool false, Value.bool (mxw.res x0 y0 wh0 xss0 x1 y1 wh1 xss1 rs2 rs3).ok, Value.bool (mxw.res x0 y0 wh0 xss0 x1 y1 wh1 xss1 rs2 rs3).ok, Value.bool false, Value.bool false, Value.agg #[Value.int IntKind.i64 x0, Value.int IntKind.i64 y0, Value.int IntKind.i64 wh0, Value.slice x0a x0n x0c], Value.agg #[Value.int IntKind.i64 x0, Value.int IntKind.i64 y0, Value.int IntKind.i64 wh0, Value.slice va0 vn0 vc0], Value.agg #[Value.int IntKind.i64 x0, Value.int IntKind.i64 y0, Value.int IntKind.i64 wh0, uqq0], Value.bool true, Value.bool false, Value.agg #[Value.int IntKind.i64 x1, Value.int IntKind.i64 y1, Value.int IntKind.i64 wh1, Value.slice x1a x1n x1c], Value.agg #[Value.int IntKind.i64 x1, Value.int IntKind.i64 y1, Value.int IntKind.i64 wh1, Value.slice va1 vn1 vc1], Value.agg #[Value.int IntKind.i64 x1, Value.int IntKind.i64 y1, Value.int IntKind.i64 wh1, uqq1], Value.bool true, Value.bool false, Value.slice x2a x2n x2c, Value.slice va2 vn2 vc2, Value.slice y2a y2n y2c, Value.bool true, Value.bool false, Value.slice x3a x3n x3c, Value.slice va3 vn3 vc3, Value.slice y3a y3n y3c, Value.bool true, Value.bool false, Value.agg #[Value.int IntKind.i64 x0, Value.int IntKind.i64 y0, Value.int IntKind.i64 wh0, Value.slice x0a x0n x0c], Value.int IntKind.i64 1, Value.int IntKind.i64 (1 + ↑(rws.before xss0 xss0.length)), Value.agg #[Value.int IntKind.i64 x1, Value.int IntKind.i64 y1, Value.int IntKind.i64 wh1, Value.slice x1a x1n x1c], Value.int IntKind.i64 (1 + ↑(rws.before xss0 xss0.length)), Value.int IntKind.i64 (1 + ↑(rws.before xss0 xss0.length) + ↑(rws.before xss1 xss1.length)), Value.slice x2a x2n x2c, Value.int IntKind.i64 (1 + ↑(rws.before xss0 xss0.length) + ↑(rws.before xss1 xss1.length)), Value.int IntKind.i64 (1 + ↑(rws.before xss0 xss0.length) + ↑(rws.before xss1 xss1.length) + rls.cnt rs2), Value.slice x3a x3n x3c, Value.int IntKind.i64 (1 + ↑(rws.before xss0 xss0.length) + ↑(rws.before xss1 xss1.length) + rls.cnt rs2), Value.int IntKind.i64 (1 + ↑(rws.before xss0 xss0.length) + ↑(rws.before xss1 xss1.length) + rls.cnt rs2 + rls.cnt rs3), Value.int IntKind.i64 (1 + ↑(rws.before xss0 xss0.length) + ↑(rws.before xss1 xss1.length) + rls.cnt rs2 + rls.cnt rs3), Value.bool false, Value.bool false, Value.agg #[Value.int IntKind.i64 (mxw.res x0 y0 wh0 xss0 x1 y1 wh1 xss1 rs2 rs3).x, Value.int IntKind.i64 (mxw.res x0 y0 wh0 xss0 x1 y1 wh1 xss1 rs2 rs3).y, Value.int IntKind.i64 (mxw.res x0 y0 wh0 xss0 x1 y1 wh1 xss1 rs2 rs3).wh, Value.slice Ga Gn Gc], Value.agg #[Value.int IntKind.i64 (mxw.res x0 y0 wh0 xss0 x1 y1 wh1 xss1 rs2 rs3).x, Value.int IntKind.i64 (mxw.res x0 y0 wh0 xss0 x1 y1 wh1 xss1 rs2 rs3).y, Value.int IntKind.i64 (mxw.res x0 y0 wh0 xss0 x1 y1 wh1 xss1 rs2 rs3).wh, Value.slice Wa Wn Wc], Value.bool true, Value.bool false, Value.bool false, Value.bool false, Value.bool (mxw.res x0 y0 wh0 xss0 x1 y1 wh1 xss1 rs2 rs3).ok, Value.bool (mxw.res x0 y0 wh0 xss0 x1 y1 wh1 xss1 rs2 rs3).ok, Value.bool false, Value.bool false, Value.agg #[Value.int IntKind.i64 (mxw.res x0 y0 wh0 xss0 x1 y1 wh1 xss1 rs2 rs3).x, Value.int IntKind.i64 (mxw.res x0 y0 wh0 xss0 x1 y1 wh1 xss1 rs2 rs3).y, Value.int IntKind.i64 (mxw.res x0 y0 wh0 xss0 x1 y1 wh1 xss1 rs2 rs3).wh, Value.slice Ga Gn Gc], Value.int IntKind.i64 1, Value.int IntKind.i64 (1 + ↑(rws.before (mxw.res x0 y0 wh0 xss0 x1 y1 wh1 xss1 rs2 rs3).rows (mxw.res x0 y0 wh0 xss0 x1 y1 wh1 xss1 rs2 rs3).rows.length)), Value.agg #[Value.int IntKind.i64 (mxw.res x0 y0 wh0 xss0 x1 y1 wh1 xss1 rs2 rs3).x, Value.int IntKind.i64 (mxw.res x0 y0 wh0 xss0 x1 y1 wh1 xss1 rs2 rs3).y, Value.int IntKind.i64 (mxw.res x0 y0 wh0 xss0 x1 y1 wh1 xss1 rs2 rs3).wh, Value.slice Ga Gn Gc], Value.int IntKind.i64 1, Value.int IntKind.i64 (1 + ↑(rws.before (mxw.res x0 y0 wh0 xss0 x1 y1 wh1 xss1 rs2 rs3).rows (mxw.res x0 y0 wh0 xss0 x1 y1 wh1 xss1 rs2 rs3).rows.length)), Value.int IntKind.i64 (1 + ↑(rws.before (mxw.res x0 y0 wh0 xss0 x1 y1 wh1 xss1 rs2 rs3).rows (mxw.res x0 y0 wh0 xss0 x1 y1 wh1 xss1 rs2 rs3).rows.length)), Value.bool (decide (1 + ↑(rws.before (mxw.res x0 y0 wh0 xss0 x1 y1 wh1 xss1 rs2 rs3).rows (mxw.res x0 y0 wh0 xss0 x1 y1 wh1 xss1 rs2 rs3).rows.length) < 0)), Value.int IntKind.i64 (1 + ↑(rws.before (mxw.res x0 y0 wh0 xss0 x1 y1 wh1 xss1 rs2 rs3).rows (mxw.res x0 y0 wh0 xss0 x1 y1 wh1 xss1 rs2 rs3).rows.length)), Value.int IntKind.i64 (1 + ↑(rws.before (mxw.res x0 y0 wh0 xss0 x1 y1 wh1 xss1 rs2 rs3).rows (mxw.res x0 y0 wh0 xss0 x1 y1 wh1 xss1 rs2 rs3).rows.length)), Value.bool false, t9, t0, t1, t2, t3, t4, t5, t6, t7, t8, t10, t11, undef, undef, undef, undef, undef, undef, undef, undef, undef, undef, undef, undef, undef, undef, undef, undef, undef], defers := [] } ∧ l.size = 15 ∧ JJ wh87 x0 y0 wh0 xss0 x1 y1 wh1 xss1 rs2 rs3 (.agg #[.int .i64 x0, .int .i64 y0, .int .i64 wh0, .slice va0 vn0 vc0]) (.agg #[.int .i64 x1, .int .i64 y1, .int .i64 wh1, .slice va1 vn1 vc1]) (.slice va2 vn2 vc2) (.slice va3 vn3 vc3) q (fun k => l.getD k false) gh rh t0 t1 t2 t3 t4 t5 t6 t7 t8 t9 t10 t11 t12 t14 Wh) ?_ ?_ ?_
    · refine ⟨0, undef, _, _, _, _, _, _, _, _, _, _, _, _, _, _, rfl, by simp, ?_⟩
      exact ⟨fun h => by simp at h, fun h => by simp at h, fun h => by simp at h, fun h => by simp at h, fun h => by simp at h, fun h => by simp at h, fun h => by simp at h, fun h => by simp at h, fun h => by simp at h, fun h => by simp at h, fun h => by simp at h, fun h => by simp at h, fun h => by simp at h, fun h => by simp at h, fun h => by simp at h, fun h => by simp at h, fun h => by simp at h, fun h => by simp at h, fun h => by simp at h, fun h => by simp at h, fun h => by simp at h, fun h => by simp at h, fun h => by simp at h, below_dr (Below.refl _ _)⟩
    · rintro l a' Wh i ⟨gh, rh, t0, t1, t2, t3, t4, t5, t6, t7, t8, t9, t10, t11, t12, t14, rfl, hsz, h⟩ hi
      have hlt : i < 15 := (inv.ready_lt hi).1
      obtain rfl | rfl | rfl | rfl | rfl | rfl | rfl | rfl | rfl | rfl | rfl | rfl | rfl | rfl | rfl : i = 0 ∨ i = 1 ∨ i = 2 ∨ i = 3 ∨ i = 4 ∨ i = 5 ∨ i = 6 ∨ i = 7 ∨ i = 8 ∨ i = 9 ∨ i = 10 ∨ i = 11 ∨ i = 12 ∨ i = 13 ∨ i = 14 := by omega
      · obtain ⟨hun, o, ho, hall⟩ := mem_ready.1 hi
        obtain rfl : _ = o := Option.some.inj ho
        have hoff : l.getD 0 false = false := inv.off l 0 hun
        have hup := inv.upd_eq l 0 hun
        obtain ⟨c0, c1, c2, c3, c4⟩ := four_cells (KBp088.out.below h.fb)
        refine wpOp_step rfl (fun K' hK => ?_)
        have HK := Lib.hid hK
        clear hK hall ho
        go_simp
        refine HK.out _ _ ⟨gh, rh, _, _, _, _, _, _, _, _, _, _, _, _, _, _, rfl, by simp [hsz], ?_⟩
        rw [hup]
        exact ⟨fun _ => rfl, h.f1, h.f2, h.f3, h.f4, h.f5, h.f6, h.f7, h.f8, h.f9, h.f10, h.f11, h.f12, h.f14, h.d8x1, h.d8x3, h.d8x5, h.d8x7, h.d9x8, h.d10x9, h.d11x9, h.d13x12, h.d13x8, h.fb⟩
      · obtain ⟨hun, o, ho, hall⟩ := mem_ready.1 hi
        obtain rfl : _ = o := Option.some.inj ho
        have hoff : l.getD 1 false = false := inv.off l 1 hun
        have hup := inv.upd_eq l 1 hun
        have d0 : l.getD 0 false = true := hall ⟨0, .data⟩ (by simp) (by decide)
        obtain rfl := h.f0 d0
        refine wpOp_step rfl (fun K' hK => ?_)
        have HK := Lib.hid hK
        clear hK hall ho
        go_simp
        (go_at_call 18; (with_reducible refine (box.to_any x0 y0 wh0 _ xss0 _ (HA0.out.below h.fb) hn0).mono ?_); rintro e Wh' ⟨u, rfl, hu, hb⟩)
        try go_simp
        refine HK.out _ _ ⟨gh, rh, _, _, _, _, _, _, _, _, _, _, _, _, _, _, rfl, by simp [hsz], ?_⟩
        rw [hup]
        exact ⟨h.f0, fun _ _ => ⟨u, rfl, hu.rows⟩, h.f2, fun h3 h4 => (h.f3 h3 h4).imp fun _ k => ⟨k.1, k.2.below hb⟩, h.f4, fun h3 h4 => (h.f5 h3 h4).imp fun _ k => ⟨k.1, k.2.below hb⟩, h.f6, fun h3 h4 => (h.f7 h3 h4).imp fun _ k => ⟨k.1, k.2.below hb⟩, fun h4 => no (h.d8x1 h4) hoff, h.f9, h.f10, h.f11, fun h8 => ⟨(h.f12 h8).1, (h.f12 h8).2.1, (h.f12 h8).2.2.below hb⟩, h.f14, fun _ => rfl, h.d8x3, h.d8x5, h.d8x7, h.d9x8, h.d10x9, h.d11x9, h.d13x12, h.d13x8, below_tr h.fb hb⟩
      · obtain ⟨hun, o, ho, hall⟩ := mem_ready.1 hi
        obtain rfl : _ = o := Option.some.inj ho
        have hoff : l.getD 2 false = false := inv.off l 2 hun
        have hup := inv.upd_eq l 2 hun
        obtain ⟨c0, c1, c2, c3, c4⟩ := four_cells (KBp188.out.below h.fb)
        refine wpOp_step rfl (fun K' hK => ?_)
        have HK := Lib.hid hK
        clear hK hall ho
        go_simp
        refine HK.out _ _ ⟨gh, rh, _, _, _, _, _, _, _, _, _, _, _, _, _, _, rfl, by simp [hsz], ?_⟩
        rw [hup]
        exact ⟨h.f0, h.f1, fun _ => rfl, h.f3, h.f4, h.f5, h.f6, h.f7, h.f8, h.f9, h.f10, h.f11, h.f12, h.f14, h.d8x1, h.d8x3, h.d8x5, h.d8x7, h.d9x8, h.d10x9, h.d11x9, h.d13x12, h.d13x8, h.fb⟩
      · obtain ⟨hun, o, ho, hall⟩ := mem_ready.1 hi
        obtain rfl : _ = o := Option.some.inj ho
        have hoff : l.getD 3 false = false := inv.off l 3 hun
        have hup := inv.upd_eq l 3 hun
        have d2 : l.getD 2 false = true := hall ⟨2, .data⟩ (by simp) (by decide)
        obtain rfl := h.f2 d2
        refine wpOp_step rfl (fun K' hK => ?_)
        have HK := Lib.hid hK
        clear hK hall ho
        go_simp
        (go_at_call 18; (with_reducible refine (box.to_any x1 y1 wh1 _ xss1 _ (HA1.out.below h.fb) hn1).mono ?_); rintro e Wh' ⟨u, rfl, hu, hb⟩)
        try go_simp
        refine HK.out _ _ ⟨gh, rh, _, _, _, _, _, _, _, _, _, _, _, _, _, _, rfl, by simp [hsz], ?_⟩
        rw [hup]
        exact ⟨h.f0, fun h3 h4 => (h.f1 h3 h4).imp fun _ k => ⟨k.1, k.2.below hb⟩, h.f2, fun _ _ => ⟨u, rfl, hu.rows⟩, h.f4, fun h3 h4 => (h.f5 h3 h4).imp fun _ k => ⟨k.1, k.2.below hb⟩, h.f6, fun h3 h4 => (h.f7 h3 h4).imp fun _ k => ⟨k.1, k.2.below hb⟩, fun h4 => no (h.d8x3 h4) hoff, h.f9, h.f10, h.f11, fun h8 => ⟨(h.f12 h8).1, (h.f12 h8).2.1, (h.f12 h8).2.2.below hb⟩, h.f14, h.d8x1, fun _ => rfl, h.d8x5, h.d8x7, h.d9x8, h.d10x9, h.d11x9, h.d13x12, h.d13x8, below_tr h.fb hb⟩
      · obtain ⟨hun, o, ho, hall⟩ := mem_ready.1 hi
        obtain rfl : _ = o := Option.some.inj ho
        have hoff : l.getD 4 false = false := inv.off l 4 hun
        have hup := inv.upd_eq l 4 hun
        refine wpOp_step rfl (fun K' hK => ?_)
        have HK := Lib.hid hK
        clear hK hall ho
        go_simp
        refine HK.out _ _ ⟨gh, rh, _, _, _, _, _, _, _, _, _, _, _, _, _, _, rfl, by simp [hsz], ?_⟩
        rw [hup]
        exact ⟨h.f0, h.f1, h.f2, h.f3, fun _ => rfl, h.f5, h.f6, h.f7, h.f8, h.f9, h.f10, h.f11, h.f12, h.f14, h.d8x1, h.d8x3, h.d8x5, h.d8x7, h.d9x8, h.d10x9, h.d11x9, h.d13x12, h.d13x8, h.fb⟩
      · obtain ⟨hun, o, ho, hall⟩ := mem_ready.1 hi
        obtain rfl : _ = o := Option.some.inj ho
        have hoff : l.getD 5 false = false := inv.off l 5 hun
        have hup := inv.upd_eq l 5 hun
        have d4 : l.getD 4 false = true := hall ⟨4, .data⟩ (by simp) (by decide)
        obtain rfl := h.f4 d4
        refine wpOp_step rfl (fun K' hK => ?_)
        have HK := Lib.hid hK
        clear hK hall ho
        go_simp
        (go_at_call 19; (with_reducible refine (rls.to_any _ rs2 _ (HA2.out.below h.fb) hn2 HM2.out).mono ?_); rintro e Wh' ⟨u, rfl, hu, hb⟩)
        try go_simp
        refine HK.out _ _ ⟨gh, rh, _, _, _, _, _, _, _, _, _, _, _, _, _, _, rfl, by simp [hsz], ?_⟩
        rw [hup]
        exact ⟨h.f0, fun h3 h4 => (h.f1 h3 h4).imp fun _ k => ⟨k.1, k.2.below hb⟩, h.f2, fun h3 h4 => (h.f3 h3 h4).imp fun _ k => ⟨k.1, k.2.below hb⟩, h.f4, fun _ _ => ⟨u, rfl, hu.view⟩, h.f6, fun h3 h4 => (h.f7 h3 h4).imp fun _ k => ⟨k.1, k.2.below hb⟩, fun h4 => no (h.d8x5 h4) hoff, h.f9, h.f10, h.f11, fun h8 => ⟨(h.f12 h8).1, (h.f12 h8).2.1, (h.f12 h8).2.2.below hb⟩, h.f14, h.d8x1, h.d8x3, fun _ => rfl, h.d8x7, h.d9x8, h.d10x9, h.d11x9, h.d13x12, h.d13x8, below_tr h.fb hb⟩
      · obtain ⟨hun, o, ho, hall⟩ := mem_ready.1 hi
        obtain rfl : _ = o := Option.some.inj ho
        have hoff : l.getD 6 false = false := inv.off l 6 hun
        have hup := inv.upd_eq l 6 hun
        refine wpOp_step rfl (fun K' hK => ?_)
        have HK := Lib.hid hK
        clear hK hall ho
        go_simp
        refine HK.out _ _ ⟨gh, rh, _, _, _, _, _, _, _, _, _, _, _, _, _, _, rfl, by simp [hsz], ?_⟩
        rw [hup]
        exact ⟨h.f0, h.f1, h.f2, h.f3, h.f4, h.f5, fun _ => rfl, h.f7, h.f8, h.f9, h.f10, h.f11, h.f12, h.f14, h.d8x1, h.d8x3, h.d8x5, h.d8x7, h.d9x8, h.d10x9, h.d11x9, h.d13x12, h.d13x8, h.fb⟩
      · obtain ⟨hun, o, ho, hall⟩ := mem_ready.1 hi
        obtain rfl : _ = o := Option.some.inj ho
        have hoff : l.getD 7 false = false := inv.off l 7 hun
        have hup := inv.upd_eq l 7 hun
        have d6 : l.getD 6 false = true := hall ⟨6, .data⟩ (by simp) (by decide)
        obtain rfl := h.f6 d6
        refine wpOp_step rfl (fun K' hK => ?_)
        have HK := Lib.hid hK
        clear hK hall ho
        go_simp
        (go_at_call 19; (with_reducible refine (rls.to_any _ rs3 _ (HA3.out.below h.fb) hn3 HM3.out).mono ?_); rintro e Wh' ⟨u, rfl, hu, hb⟩)
        try go_simp
        refine HK.out _ _ ⟨gh, rh, _, _, _, _, _, _, _, _, _, _, _, _, _, _, rfl, by simp [hsz], ?_⟩
        rw [hup]
        exact ⟨h.f0, fun h3 h4 => (h.f1 h3 h4).imp fun _ k => ⟨k.1, k.2.below hb⟩, h.f2, fun h3 h4 => (h.f3 h3 h4).imp fun _ k => ⟨k.1, k.2.below hb⟩, h.f4, fun h3 h4 => (h.f5 h3 h4).imp fun _ k => ⟨k.1, k.2.below hb⟩, h.f6, fun _ _ => ⟨u, rfl, hu.view⟩, fun h4 => no (h.d8x7 h4) hoff, h.f9, h.f10, h.f11, fun h8 => ⟨(h.f12 h8).1, (h.f12 h8).2.1, (h.f12 h8).2.2.below hb⟩, h.f14, h.d8x1, h.d8x3, h.d8x5, fun _ => rfl, h.d9x8, h.d10x9, h.d11x9, h.d13x12, h.d13x8, below_tr h.fb hb⟩
      · obtain ⟨hun, o, ho, hall⟩ := mem_ready.1 hi
        obtain rfl : _ = o := Option.some.inj ho
        have hoff : l.getD 8 false = false := inv.off l 8 hun
        have hup := inv.upd_eq l 8 hun
        have d1 : l.getD 1 false = true := hall ⟨1, .data⟩ (by simp) (by decide)
        have d3 : l.getD 3 false = true := hall ⟨3, .data⟩ (by simp) (by decide)
        have d5 : l.getD 5 false = true := hall ⟨5, .data⟩ (by simp) (by decide)
        have d7 : l.getD 7 false = true := hall ⟨7, .data⟩ (by simp) (by decide)
        obtain ⟨u0, rfl, hu0⟩ := h.f1 d1 hoff
        obtain ⟨u1, rfl, hu1⟩ := h.f3 d3 hoff
        obtain ⟨u2, rfl, hu2⟩ := h.f5 d5 hoff
        obtain ⟨u3, rfl, hu3⟩ := h.f7 d7 hoff
        refine wpOp_step rfl (fun K' hK => ?_)
        have HK := Lib.hid hK
        clear hK hall ho
        go_simp
        (go_at_call 20; (with_reducible refine (mxw.impl_any x0 y0 wh0 _ xss0 x1 y1 wh1 _ xss1 _ rs2 _ rs3 _ hu0 hu1 hn0 hn1 hu2 hu3).mono ?_); rintro e Wh' ⟨rh', rfl, hr, hb⟩)
        try go_simp
        rw [← HQ.out] at hr
        refine HK.out _ _ ⟨gh, rh', _, _, _, _, _, _, _, _, _, _, _, _, _, _, rfl, by simp [hsz], ?_⟩
        rw [hup]
        have e9 : l.getD 13 false = false := off_of h.d13x8 hoff
        have k8 : l.getD 12 false = true → Blk Wh' gh 28 (cel (l.getD 13 false) q rh') := fun h8 => by (have k := (h.f12 h8).2.2.below hb); (rw [cel_off e9] at k); (rw [cel_off e9]); (exact k)
        exact ⟨h.f0, fun _ h4 => no (b := true) rfl h4, h.f2, fun _ h4 => no (b := true) rfl h4, h.f4, fun _ h4 => no (b := true) rfl h4, h.f6, fun _ h4 => no (b := true) rfl h4, fun _ => ⟨by rw [HQ.out], hr.rows, fun h8 Wh'' hw => (hr.wrote hw (fun p hp => .inl (by have h' := (h.f12 h8).2.2.lt; have e1 : p.block = gh := hp; show p.block < _; omega))).rows⟩, fun h5 => no (h.d9x8 h5) hoff, fun h6 => no (h.d9x8 (h.d10x9 h6)) hoff, h.f11, fun h8 => ⟨(h.f12 h8).1, (h.f12 h8).2.1, k8 h8⟩, h.f14, fun _ => d1, fun _ => d3, fun _ => d5, fun _ => d7, fun _ => rfl, h.d10x9, h.d11x9, h.d13x12, fun _ => rfl, below_tr h.fb hb⟩
      · obtain ⟨hun, o, ho, hall⟩ := mem_ready.1 hi
        obtain rfl : _ = o := Option.some.inj ho
        have hoff : l.getD 9 false = false := inv.off l 9 hun
        have hup := inv.upd_eq l 9 hun
        have d8 : l.getD 8 false = true := hall ⟨8, .data⟩ (by simp) (by decide)
        obtain rfl := (h.f8 d8).1
        refine wpOp_step rfl (fun K' hK => ?_)
        have HK := Lib.hid hK
        clear hK hall ho
        go_simp
        refine HK.out _ _ ⟨gh, rh, _, _, _, _, _, _, _, _, _, _, _, _, _, _, rfl, by simp [hsz], ?_⟩
        rw [hup]
        exact ⟨h.f0, h.f1, h.f2, h.f3, h.f4, h.f5, h.f6, h.f7, h.f8, fun _ => rfl, h.f10, h.f11, h.f12, h.f14, h.d8x1, h.d8x3, h.d8x5, h.d8x7, fun _ => d8, fun _ => rfl, fun _ => rfl, h.d13x12, h.d13x8, h.fb⟩
      · obtain ⟨hun, o, ho, hall⟩ := mem_ready.1 hi
        obtain rfl : _ = o := Option.some.inj ho
        have hoff : l.getD 10 false = false := inv.off l 10 hun
        have hup := inv.upd_eq l 10 hun
        have d9 : l.getD 9 false = true := hall ⟨9, .data⟩ (by simp) (by decide)
        obtain rfl := h.f9 d9
        refine wpOp_step rfl (fun K' hK => ?_)
        have HK := Lib.hid hK
        clear hK hall ho
        go_simp
        refine HK.out _ _ ⟨gh, rh, _, _, _, _, _, _, _, _, _, _, _, _, _, _, rfl, by simp [hsz], ?_⟩
        rw [hup]
        exact ⟨h.f0, h.f1, h.f2, h.f3, h.f4, h.f5, h.f6, h.f7, h.f8, h.f9, fun _ => rfl, h.f11, h.f12, h.f14, h.d8x1, h.d8x3, h.d8x5, h.d8x7, h.d9x8, fun _ => d9, h.d11x9, h.d13x12, h.d13x8, h.fb⟩
      · obtain ⟨hun, o, ho, hall⟩ := mem_ready.1 hi
        obtain rfl : _ = o := Option.some.inj ho
        have hoff : l.getD 11 false = false := inv.off l 11 hun
        have hup := inv.upd_eq l 11 hun
        have d9 : l.getD 9 false = true := hall ⟨9, .data⟩ (by simp) (by decide)
        obtain rfl := h.f9 d9
        refine wpOp_step rfl (fun K' hK => ?_)
        have HK := Lib.hid hK
        clear hK hall ho
        go_simp
        refine HK.out _ _ ⟨gh, rh, _, _, _, _, _, _, _, _, _, _, _, _, _, _, rfl, by simp [hsz], ?_⟩
        rw [hup]
        exact ⟨h.f0, h.f1, h.f2, h.f3, h.f4, h.f5, h.f6, h.f7, h.f8, h.f9, h.f10, fun _ => rfl, h.f12, h.f14, h.d8x1, h.d8x3, h.d8x5, h.d8x7, h.d9x8, h.d10x9, fun _ => d9, h.d13x12, h.d13x8, h.fb⟩
      · obtain ⟨hun, o, ho, hall⟩ := mem_ready.1 hi
        obtain rfl : _ = o := Option.some.inj ho
        have hoff : l.getD 12 false = false := inv.off l 12 hun
        have hup := inv.upd_eq l 12 hun
        refine wpOp_step rfl (fun K' hK => ?_)
        have HK := Lib.hid hK
        clear hK hall ho
        go_simp
        refine HK.out _ (Wh.alloc (.cells #[.int .i64 0, .int .i64 0, .int .i64 0, .slice none 0 0] 28)) ⟨Wh.heap.size, rh, _, _, _, _, _, _, _, _, _, _, _, _, _, _, rfl, by simp [hsz], ?_⟩
        rw [hup]
        have e9 : l.getD 13 false = false := off_of h.d13x12 hoff
        have al := (below_al (Below.refl _ Wh) (.cells #[.int .i64 0, .int .i64 0, .int .i64 0, .slice none 0 0] 28))
        have k8 : Blk (Wh.alloc (.cells #[.int .i64 0, .int .i64 0, .int .i64 0, .slice none 0 0] 28)) Wh.heap.size 28 (cel (l.getD 13 false) q rh) := by rw [cel_off e9]; exact Blk.new Wh _ _
        exact ⟨h.f0, fun h1 h4 => (h.f1 h1 h4).imp fun _ k => ⟨k.1, k.2.below al⟩, h.f2, fun h1 h4 => (h.f3 h1 h4).imp fun _ k => ⟨k.1, k.2.below al⟩, h.f4, fun h1 h4 => (h.f5 h1 h4).imp fun _ k => ⟨k.1, k.2.below al⟩, h.f6, fun h1 h4 => (h.f7 h1 h4).imp fun _ k => ⟨k.1, k.2.below al⟩, fun h4 => ⟨(h.f8 h4).1, (h.f8 h4).2.1.below al, fun _ Wh'' hw => (h.f8 h4).2.1.below (al.trans (hw.below (B := Wh.heap.size) (fun p hp => Nat.le_of_eq hp.symm)))⟩, h.f9, h.f10, h.f11, fun _ => ⟨rfl, h.fb.size, k8⟩, h.f14, h.d8x1, h.d8x3, h.d8x5, h.d8x7, h.d9x8, h.d10x9, h.d11x9, fun _ => rfl, h.d13x8, below_tr h.fb al⟩
      · obtain ⟨hun, o, ho, hall⟩ := mem_ready.1 hi
        obtain rfl : _ = o := Option.some.inj ho
        have hoff : l.getD 13 false = false := inv.off l 13 hun
        have hup := inv.upd_eq l 13 hun
        have d8 : l.getD 8 false = true := hall ⟨8, .chain⟩ (by simp) (by decide)
        have d10 : l.getD 10 false = true := hall ⟨10, .data⟩ (by simp) (by decide)
        have d12 : l.getD 12 false = true := hall ⟨12, .data⟩ (by simp) (by decide)
        obtain ⟨ra, rn, rc, rfl⟩ := (h.f8 d8).2.1.shape
        obtain rfl := h.f10 d10
        obtain ⟨e6, hg, hk⟩ := h.f12 d12
        subst e6
        have hk : Blk Wh gh 28 (cel (l.getD 13 false) q (.slice ra rn rc)) := hk
        rw [cel_off hoff] at hk
        unfold zer at hk
        obtain ⟨c0, c1, c2, c3, c4⟩ := four_cells hk
        have rf : ∀ k, Wh.frozen? ⟨gh, k, none⟩ = false := fun k => Joins.unfrozen_of_block hk k
        refine wpOp_step rfl (fun K' hK => ?_)
        have HK := Lib.hid hK
        clear hK hall ho
        go_simp
        refine HK.out _ (set4 Wh gh (.int .i64 q.x) (.int .i64 q.y) (.int .i64 q.wh) (.slice ra rn rc)) ⟨gh, (.slice ra rn rc), _, _, _, _, _, _, _, _, _, _, _, _, _, _, rfl, by simp [hsz], ?_⟩
        rw [hup]
        exact ⟨h.f0, fun _ h4 => no d8 h4, h.f2, fun _ h4 => no d8 h4, h.f4, fun _ h4 => no d8 h4, h.f6, fun _ h4 => no d8 h4, fun _ => ⟨(h.f8 d8).1, (h.f8 d8).2.2 d12 _ (set4_wrote Wh gh (.int .i64 q.x) (.int .i64 q.y) (.int .i64 q.wh) (.slice ra rn rc)), fun _ Wh'' hw => (h.f8 d8).2.2 d12 _ ((set4_wrote Wh gh (.int .i64 q.x) (.int .i64 q.y) (.int .i64 q.wh) (.slice ra rn rc)).trans hw)⟩, h.f9, h.f10, h.f11, fun _ => ⟨rfl, hg, set4_same _ _ _ _ hk⟩, h.f14, h.d8x1, h.d8x3, h.d8x5, h.d8x7, h.d9x8, h.d10x9, h.d11x9, fun _ => d12, fun _ => d8, set4_below _ _ _ _ h.fb hg⟩
      · obtain ⟨hun, o, ho, hall⟩ := mem_ready.1 hi
        obtain rfl : _ = o := Option.some.inj ho
        have hoff : l.getD 14 false = false := inv.off l 14 hun
        have hup := inv.upd_eq l 14 hun
        have d11 : l.getD 11 false = true := hall ⟨11, .data⟩ (by simp) (by decide)
        obtain rfl := h.f11 d11
        refine wpOp_step rfl (fun K' hK => ?_)
        have HK := Lib.hid hK
        clear hK hall ho
        go_simp
        refine HK.out _ _ ⟨gh, rh, _, _, _, _, _, _, _, _, _, _, _, _, _, _, rfl, by simp [hsz], ?_⟩
        rw [hup]
        exact ⟨h.f0, h.f1, h.f2, h.f3, h.f4, h.f5, h.f6, h.f7, h.f8, h.f9, h.f10, h.f11, h.f12, fun _ => rfl, h.d8x1, h.d8x3, h.d8x5, h.d8x7, h.d9x8, h.d10x9, h.d11x9, h.d13x12, h.d13x8, h.fb⟩
    · rintro l a' Wh ⟨gh, rh, t0, t1, t2, t3, t4, t5, t6, t7, t8, t9, t10, t11, t12, t14, rfl, hsz, h⟩ hr
      have hup : ∀ i, i < 15 → l.getD i false = true := inv.all_upm (by kernel_rfl) hsz hr
      obtain rfl := h.f0 (hup 0 (by omega))
      obtain rfl := h.f2 (hup 2 (by omega))
      obtain rfl := h.f4 (hup 4 (by omega))
      obtain rfl := h.f6 (hup 6 (by omega))
      obtain rfl := h.f9 (hup 9 (by omega))
      obtain rfl := h.f10 (hup 10 (by omega))
      obtain rfl := h.f11 (hup 11 (by omega))
      obtain rfl := h.f14 (hup 14 (by omega))
      obtain ⟨e32, huW, _⟩ := h.f8 (hup 8 (by omega))
      subst e32
      obtain ⟨e6, hgb, hk⟩ := h.f12 (hup 12 (by omega))
      subst e6
      have hk : Blk Wh gh 28 (cel (l.getD 13 false) q rh) := hk
      rw [cel_on (hup 13 (by omega))] at hk
      have hbt := h.fb
      clear h hup hr hsz HA0 HA1 HA2 HA3
      obtain ⟨Hha, Hhn, Hhc, rfl⟩ := huW.shape
      obtain rfl := HQ.out
      clear HQ
      clear p0c0 p0c1 p0c2 p0c3 p0c4 p1c0 p1c1 p1c2 p1c3 p1c4 bWc0 bWc1 bWc2 bWc3 bWc4 bx0c0 bx0c1 bx0c2 bx0c3 bx0c4 bx1c0 bx1c1 bx1c2 bx1c3 bx1c4 bGc0 bGc1 bGc2 bGc3 bGc4
      have BE89 := Lib.hid (below_tr BE88.out hbt)
      have HBW89 := Lib.hid (below_tr HBW88.out hbt)
      have HBM89 := Lib.hid (below_tr HBM88.out hbt)
      have KBp089 := Lib.hid (KBp088.out.below hbt)
      have KBp189 := Lib.hid (KBp188.out.below hbt)
      have KBbW89 := Lib.hid (KBbW88.out.below hbt)
      have KBbx089 := Lib.hid (KBbx088.out.below hbt)
      have KBbx189 := Lib.hid (KBbx188.out.below hbt)
      have KBbG89 := Lib.hid (KBbG88.out.below hbt)
      have ZZ89 : Hid (wh87.heap.size ≤ Wh.heap.size) := Lib.hid (by have := (hbt).size; simpa using this)
      clear BE88 HBW88 HBM88 KBp088 KBp188 KBbW88 KBbx088 KBbx188 KBbG88
      obtain ⟨p0c0, p0c1, p0c2, p0c3, p0c4⟩ := four_cells KBp089.out
      obtain ⟨p1c0, p1c1, p1c2, p1c3, p1c4⟩ := four_cells KBp189.out
      obtain ⟨bWc0, bWc1, bWc2, bWc3, bWc4⟩ := four_cells KBbW89.out
      obtain ⟨bx0c0, bx0c1, bx0c2, bx0c3, bx0c4⟩ := four_cells KBbx089.out
      obtain ⟨bx1c0, bx1c1, bx1c2, bx1c3, bx1c4⟩ := four_cells KBbx189.out
      obtain ⟨bGc0, bGc1, bGc2, bGc3, bGc4⟩ := four_cells KBbG89.out
      clear hbt hgb
      have VWHh := Lib.hid huW
      have HBHh := Lib.hid (Below.refl Wh.heap.size Wh)
      clear huW
      have ZZgHh : Hid (gh + 1 ≤ Wh.heap.size) := Lib.hid hk.lt
      have KBbHh0 := Lib.hid hk
      clear hk
      obtain ⟨bHhc0, bHhc1, bHhc2, bHhc3, bHhc4⟩ := four_cells KBbHh0.out
      go_wp2_with fail
      refine (box.eq_same ((mxw.res x0 y0 wh0 xss0 x1 y1 wh1 xss1 rs2 rs3).x) ((mxw.res x0 y0 wh0 xss0 x1 y1 wh1 xss1 rs2 rs3).y) ((mxw.res x0 y0 wh0 xss0 x1 y1 wh1 xss1 rs2 rs3).wh) _ _ ((mxw.res x0 y0 wh0 xss0 x1 y1 wh1 xss1 rs2 rs3).rows) _ (VWHh.out.below HBHh.out) (VWW.out.below HBW89.out) mxw.tot_res).mono ?_
      rintro e we90 ⟨rfl, hb⟩
      clear p0c0 p0c1 p0c2 p0c3 p0c4 p1c0 p1c1 p1c2 p1c3 p1c4 bWc0 bWc1 bWc2 bWc3 bWc4 bx0c0 bx0c1 bx0c2 bx0c3 bx0c4 bx1c0 bx1c1 bx1c2 bx1c3 bx1c4 bGc0 bGc1 bGc2 bGc3 bGc4 bHhc0 bHhc1 bHhc2 bHhc3 bHhc4
      have BE91 := Lib.hid (below_tr BE89.out hb)
      have HBW91 := Lib.hid (below_tr HBW89.out hb)
      have HBM91 := Lib.hid (below_tr HBM89.out hb)
      have HBHh91 := Lib.hid (below_tr HBHh.out hb)
      have KBp091 := Lib.hid (KBp089.out.below hb)
      have KBp191 := Lib.hid (KBp189.out.below hb)
      have KBbW91 := Lib.hid (KBbW89.out.below hb)
      have KBbx091 := Lib.hid (KBbx089.out.below hb)
      have KBbx191 := Lib.hid (KBbx189.out.below hb)
      have KBbG91 := Lib.hid (KBbG89.out.below hb)
      have KBbHh91 := Lib.hid (KBbHh0.out.below hb)
      have ZZ91 : Hid (Wh.heap.size ≤ we90.heap.size) := Lib.hid (by have := (hb).size; simpa using this)
      clear BE89 HBW89 HBM89 HBHh KBp089 KBp189 KBbW89 KBbx089 KBbx189 KBbG89 KBbHh0
      obtain ⟨p0c0, p0c1, p0c2, p0c3, p0c4⟩ := four_cells KBp091.out
      obtain ⟨p1c0, p1c1, p1c2, p1c3, p1c4⟩ := four_cells KBp191.out
      obtain ⟨bWc0, bWc1, bWc2, bWc3, bWc4⟩ := four_cells KBbW91.out
      obtain ⟨bx0c0, bx0c1, bx0c2, bx0c3, bx0c4⟩ := four_cells KBbx091.out
      obtain ⟨bx1c0, bx1c1, bx1c2, bx1c3, bx1c4⟩ := four_cells KBbx191.out
      obtain ⟨bGc0, bGc1, bGc2, bGc3, bGc4⟩ := four_cells KBbG91.out
      obtain ⟨bHhc0, bHhc1, bHhc2, bHhc3, bHhc4⟩ := four_cells KBbHh91.out
      clear hb
      go_wp2_with fail
      refine (box.held_any ((mxw.res x0 y0 wh0 xss0 x1 y1 wh1 xss1 rs2 rs3).x) ((mxw.res x0 y0 wh0 xss0 x1 y1 wh1 xss1 rs2 rs3).y) ((mxw.res x0 y0 wh0 xss0 x1 y1 wh1 xss1 rs2 rs3).wh) _ ((mxw.res x0 y0 wh0 xss0 x1 y1 wh1 xss1 rs2 rs3).rows) 1 _ (VWM.out.below HBM91.out) mxw.tot_res (by omega) (by omega)).mono ?_
      rintro e wh92 ⟨rfl, hb⟩
      clear p0c0 p0c1 p0c2 p0c3 p0c4 p1c0 p1c1 p1c2 p1c3 p1c4 bWc0 bWc1 bWc2 bWc3 bWc4 bx0c0 bx0c1 bx0c2 bx0c3 bx0c4 bx1c0 bx1c1 bx1c2 bx1c3 bx1c4 bGc0 bGc1 bGc2 bGc3 bGc4 bHhc0 bHhc1 bHhc2 bHhc3 bHhc4
      have BE93 := Lib.hid (below_tr BE91.out hb)
      have HBW93 := Lib.hid (below_tr HBW91.out hb)
      have HBM93 := Lib.hid (below_tr HBM91.out hb)
      have HBHh93 := Lib.hid (below_tr HBHh91.out hb)
      have KBp093 := Lib.hid (KBp091.out.below hb)
      have KBp193 := Lib.hid (KBp191.out.below hb)
      have KBbW93 := Lib.hid (KBbW91.out.below hb)
      have KBbx093 := Lib.hid (KBbx091.out.below hb)
      have KBbx193 := Lib.hid (KBbx191.out.below hb)
      have KBbG93 := Lib.hid (KBbG91.out.below hb)
      have KBbHh93 := Lib.hid (KBbHh91.out.below hb)
      have ZZ93 : Hid (we90.heap.size ≤ wh92.heap.size) := Lib.hid (by have := (hb).size; simpa using this)
      clear BE91 HBW91 HBM91 HBHh91 KBp091 KBp191 KBbW91 KBbx091 KBbx191 KBbG91 KBbHh91
      obtain ⟨p0c0, p0c1, p0c2, p0c3, p0c4⟩ := four_cells KBp093.out
      obtain ⟨p1c0, p1c1, p1c2, p1c3, p1c4⟩ := four_cells KBp193.out
      obtain ⟨bWc0, bWc1, bWc2, bWc3, bWc4⟩ := four_cells KBbW93.out
      obtain ⟨bx0c0, bx0c1, bx0c2, bx0c3, bx0c4⟩ := four_cells KBbx093.out
      obtain ⟨bx1c0, bx1c1, bx1c2, bx1c3, bx1c4⟩ := four_cells KBbx193.out
      obtain ⟨bGc0, bGc1, bGc2, bGc3, bGc4⟩ := four_cells KBbG93.out
      obtain ⟨bHhc0, bHhc1, bHhc2, bHhc3, bHhc4⟩ := four_cells KBbHh93.out
      clear hb
      go_wp2_with fail
      go_ret
      exact ⟨rfl, BE93.out⟩

/-! ### the frame of the row -/
theorem own : ownKnob Try.prog.godebug = none := by kernel_rfl
theorem laidOut : laidOutB Try.prog = true := by kernel_rfl
set_option maxRecDepth 100000 in
theorem lifted (os : Os) (started : os.Started) (H : Type) (enc : TypeId × Value → H) :
    ReturnsInHanded {} Try.checked os 3 .any (Rows.fnExactMixWiringsSpec.pre6 enc Try.prog Try.f3 Rows.fnExactMixWiringsRow.domain false) (Rows.fnExactMixWiringsSpec.post enc Try.prog Try.f3 false true false false) := by
  refine returnsInHanded_of_change (C := Try.checked) own started (by kernel_rfl) Try.func3
    (ChangeSpec.witness6 (enc := enc) (C := Try.checked) false ⟨#[], #[.agg #[.int .i64 0, .int .i64 0, .int .i64 0, .slice none 0 0], .agg #[.int .i64 0, .int .i64 0, .int .i64 0, .slice none 0 0], .slice none 0 0, .slice none 0 0], []⟩ 8 (by kernel_rfl) (by kernel_rfl) (by kernel_rfl) (by kernel_rfl)) ?_
  intro W base args ds gs before hval0 hW _ _
  have hval : ∀ (j : Nat) t v, Try.f3.params[j]? = some t → args[j]? = some v → Value.okWide Try.prog W .any base t v := hval0
  have hW' := hW
  obtain ⟨p, q, hA0, hV, rfl, hfz, hnd⟩ := hW
  have hA : DataW.TrodAll enc Try.prog W 0 (fun _ => true) true Try.f3.params.toList args.toList ds p := hA0
  rw [Try.params3] at hA hval
  obtain ⟨v0, vs0, d0, ds0, p0, q0, hargs, rfl, rfl, h0, r0⟩ := trodAll_cons hA
  obtain ⟨v1, vs1, d1, ds1, p1, q1, rfl, rfl, rfl, h1, r1⟩ := trodAll_cons r0
  obtain ⟨v2, vs2, d2, ds2, p2, q2, rfl, rfl, rfl, h2, r2⟩ := trodAll_cons r1
  obtain ⟨v3, vs3, d3, ds3, p3, q3, rfl, rfl, rfl, h3, r3⟩ := trodAll_cons r2
  obtain ⟨rfl, rfl, rfl⟩ := trodAll_nil r3
  obtain rfl : args = #[v0, v1, v2, v3] := by cases args; simp_all
  obtain ⟨rfl, rfl⟩ := trodVars_none hV
  have lt0 : ∀ x ∈ p0, x.block < W.heap.size := by obtain ⟨m, hm⟩ := h0; exact DataW.trod_lt m _ _ _ hm
  obtain ⟨x0, y0, wh0, u0, xss0, rfl, g0⟩ := opn.box_of_trod Try.underlying24 (by kernel_rfl) (by kernel_rfl) Try.underlying3 Try.underlying3 Try.underlying3 Try.underlying22 Try.underlying39 Try.underlying3 (by kernel_rfl) (by kernel_rfl) (hval 0 24 v0 rfl rfl) h0
  have lt1 : ∀ x ∈ p1, x.block < W.heap.size := by obtain ⟨m, hm⟩ := h1; exact DataW.trod_lt m _ _ _ hm
  obtain ⟨x1, y1, wh1, u1, xss1, rfl, g1⟩ := opn.box_of_trod Try.underlying24 (by kernel_rfl) (by kernel_rfl) Try.underlying3 Try.underlying3 Try.underlying3 Try.underlying22 Try.underlying39 Try.underlying3 (by kernel_rfl) (by kernel_rfl) (hval 1 24 v1 rfl rfl) h1
  have lt2 : ∀ x ∈ p2, x.block < W.heap.size := by obtain ⟨m, hm⟩ := h2; exact DataW.trod_lt m _ _ _ hm
  obtain ⟨rs2, g2⟩ := rop.rls_of_trod Try.underlying25 Try.underlying86 (by kernel_rfl) (by kernel_rfl) Try.underlying39 Try.underlying22 Try.underlying22 Try.underlying39 Try.underlying3 (by kernel_rfl) (by kernel_rfl) (hval 2 25 v2 rfl rfl) h2
  have lt3 : ∀ x ∈ p3, x.block < W.heap.size := by obtain ⟨m, hm⟩ := h3; exact DataW.trod_lt m _ _ _ hm
  obtain ⟨rs3, g3⟩ := rop.rls_of_trod Try.underlying25 Try.underlying86 (by kernel_rfl) (by kernel_rfl) Try.underlying39 Try.underlying22 Try.underlying22 Try.underlying39 Try.underlying3 (by kernel_rfl) (by kernel_rfl) (hval 3 25 v3 rfl rfl) h3
  clear hA0 hval0
  refine (walk x0 y0 wh0 u0 xss0 x1 y1 wh1 u1 xss1 v2 rs2 v3 rs3 W g0 g1 g2 g3).mono fun e W' ⟨he, bel⟩ => ?_
  subst he
  exact ⟨_, rfl, _, _, _, [], _, [], hW', trodAll_mk1 (shut_bool Try.underlying4 _), (trodAll_cons_mk (Below.trod laidOut (by kernel_rfl) (of_decide_eq_true (by kernel_rfl)) h0 bel lt0) (trodAll_cons_mk (Below.trod laidOut (by kernel_rfl) (of_decide_eq_true (by kernel_rfl)) h1 bel lt1) (trodAll_cons_mk (Below.trod laidOut (by kernel_rfl) (of_decide_eq_true (by kernel_rfl)) h2 bel lt2) (trodAll_cons_mk (Below.trod laidOut (by kernel_rfl) (of_decide_eq_true (by kernel_rfl)) h3 bel lt3) trodAll_mk0)))), rfl, bel.frame _, fun h => by cases h⟩
end Go.Proofs.Ytiigfhigmdjooaa.lawMixWirings
