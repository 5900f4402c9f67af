/- Proved here: for all arguments, the law FnExactJoinScenes returns true: the program's function answers as its model in every field, leaves its arguments as they were, and its answer owns its memory. Conditions: none beyond the row. -/
import Derived.Test.YtiigfhigmdjooaaScene
import Derived.Test.YtiigfhigmdjooaaJsp
import Derived.Test.YtiigfhigmdjooaaJsm
import Derived.Test.YtiigfhigmdjooaaInv
import Derived.Test.YtiigfhigmdjooaaOpens
import Derived.Test.YtiigfhigmdjooaaRows
import Derived.Deep.RegionHeld3
namespace Go.Proofs.Ytiigfhigmdjooaa.lawJoinScenes
open Go.ChangeShapes Go.WideShapes Go.ChangeAt Go.RowKit Go.Deep Go.Proofs.Ytiigfhigmdjooaa.base
open Go.ChangeMaps (open_string shut_string)

def zer : Array Value := #[.int .i64 0, .slice none 0 0, .slice none 0 0]
def cel (c : Bool) (q : fle.Res) (r tt : Value) : Array Value := if c = true then #[.int .i64 q.x, r, tt] else zer
theorem cel_off {c : Bool} (h : c = false) (q : fle.Res) (r tt : Value) : cel c q r tt = zer := by rw [h]; rfl
theorem cel_on {c : Bool} (h : c = true) (q : fle.Res) (r tt : Value) : cel c q r tt = #[.int .i64 q.x, r, tt] := by rw [h]; rfl
theorem off_of {b c : Bool} (h : c = true → b = true) (hb : b = false) : c = false := by
  cases e : c with
  | false => rfl
  | true => rw [h e] at hb; cases hb
theorem no {b : Bool} {P : Prop} (h : b = true) (h' : b = false) : P := by rw [h] at h'; cases h'

/-- what holds while the operations of the first region come up, in whatever order -/
structure JJ (b : World) (x0 : Int) (xss0 : List (List Int)) (ws0 : List Int) (x1 : Int) (xss1 : List (List Int)) (ws1 : List Int) (V0 V1 : Value) (q : fle.Res) (L : Nat → Bool) (g : Nat) (r tt s0 s1 s2 s3 s4 s5 s6 s7 s8 s10 : Value) (W : World) : Prop where
  f0 : L 0 = true → s0 = V0
  f1 : L 1 = true → L 4 = false → ∃ u v, s1 = .agg #[.int .i64 x0, u, v] ∧ scene.GV W v ws0 u xss0
  f2 : L 2 = true → s2 = V1
  f3 : L 3 = true → L 4 = false → ∃ u v, s3 = .agg #[.int .i64 x1, u, v] ∧ scene.GV W v ws1 u xss1
  f4 : L 4 = true → s4 = .tuple #[.agg #[.int .i64 q.x, r, tt], .bool q.ok] ∧ scene.GV W tt q.ws r q.rows ∧ (L 8 = true → ∀ W', Wrote (fun p => p.block = g) W W' → scene.GV W' tt q.ws r q.rows)
  f5 : L 5 = true → s5 = .tuple #[.agg #[.int .i64 q.x, r, tt], .bool q.ok]
  f6 : L 6 = true → s6 = .agg #[.int .i64 q.x, r, tt]
  f7 : L 7 = true → s7 = .bool q.ok
  f8 : L 8 = true → s8 = .pointer (some ⟨g, 0, none⟩) ∧ b.heap.size ≤ g ∧ Blk W g 43 (cel (L 9) q r tt)
  f10 : L 10 = true → s10 = .bool q.ok
  d4x1 : L 4 = true → L 1 = true
  d4x3 : L 4 = true → L 3 = true
  d5x4 : L 5 = true → L 4 = true
  d6x5 : L 6 = true → L 5 = true
  d7x5 : L 7 = true → L 5 = true
  d9x8 : L 9 = true → L 8 = true
  d9x4 : L 9 = true → L 4 = true
  fb : Below b.heap.size b W

set_option maxRecDepth 100000 in
set_option maxHeartbeats 4000000 in
theorem walk (x0 : Int) (u0 : Value) (xss0 : List (List Int)) (wv0 : Value) (ws0 : List Int) (x1 : Int) (u1 : Value) (xss1 : List (List Int)) (wv1 : Value) (ws1 : List Int) (w : World) (h0 : scene.GV w wv0 ws0 u0 xss0) (h1 : scene.GV w wv1 ws1 u1 xss1) :
    Calls Try.prog 4 #[.agg #[.int .i64 x0, u0, wv0], .agg #[.int .i64 x1, u1, wv1]] w fun e w' => e = .returned (.bool true) ∧ Below w.heap.size w w' := by
  obtain ⟨wa0, wn0, wc0, va0, vn0, vc0, rfl, rfl⟩ := h0.shape
  obtain ⟨wa1, wn1, wc1, va1, vn1, vc1, rfl, rfl⟩ := h1.shape
  have H0 := Lib.hid h0
  have H1 := Lib.hid h1
  clear h0 h1
  by_cases hs0 : scene.sz xss0 ws0 (1048576) < 0
  · skip
    go_enter Try.func4, Try.ntmps4
    have BE0 := Lib.hid (Below.refl w.heap.size w)
    have BE1 := Lib.hid (below_al BE0.out (.cells #[.int .i64 x0, .slice va0 vn0 vc0, .slice wa0 wn0 wc0] 41))
    have KBp01 := Lib.hid (Blk.new w 41 #[.int .i64 x0, .slice va0 vn0 vc0, .slice wa0 wn0 wc0])
    clear BE0
    have BE2 := Lib.hid (below_al BE1.out (.cells #[.int .i64 x1, .slice va1 vn1 vc1, .slice wa1 wn1 wc1] 41))
    have KBp02 := Lib.hid (KBp01.out.alloc (.cells #[.int .i64 x1, .slice va1 vn1 vc1, .slice wa1 wn1 wc1] 41))
    have KBp12 : Hid (Blk ((w.alloc (.cells #[.int .i64 x0, .slice va0 vn0 vc0, .slice wa0 wn0 wc0] 41)).alloc (.cells #[.int .i64 x1, .slice va1 vn1 vc1, .slice wa1 wn1 wc1] 41)) (w.heap.size + 1) 41 #[.int .i64 x1, .slice va1 vn1 vc1, .slice wa1 wn1 wc1]) := Lib.hid (by have := Blk.new (w.alloc (.cells #[.int .i64 x0, .slice va0 vn0 vc0, .slice wa0 wn0 wc0] 41)) 41 #[.int .i64 x1, .slice va1 vn1 vc1, .slice wa1 wn1 wc1]; simpa using this)
    clear BE1 KBp01
    go_wp2_with fail
    refine (scene.sz_any x0 _ xss0 _ ws0 (1048576) _ (H0.out.below BE2.out) (by omega) (by omega)).mono ?_
    rintro e wz3 ⟨rfl, hb⟩
    have BE4 := Lib.hid (below_tr BE2.out hb)
    have KBp04 := Lib.hid (KBp02.out.below hb)
    have KBp14 := Lib.hid (KBp12.out.below hb)
    have ZZ4 : Hid (w.heap.size + 1 + 1 ≤ wz3.heap.size) := Lib.hid (by have := (hb).size; simpa using this)
    clear BE2 KBp02 KBp12
    obtain ⟨p0c0, p0c1, p0c2, p0c3⟩ := scene.three_cells KBp04.out
    obtain ⟨p1c0, p1c1, p1c2, p1c3⟩ := scene.three_cells KBp14.out
    clear hb
    go_wp2_with fail
    go_ret
    exact ⟨rfl, BE4.out⟩
  have hq0 := scene.sz_bound hs0
  have hn0 : ws0.length ≤ 1048576 := by omega
  have hm0 : rws.total xss0 ≤ 1048576 := by omega
  by_cases hs1 : scene.sz xss1 ws1 (scene.sz xss0 ws0 (1048576)) < 0
  · skip
    go_enter Try.func4, Try.ntmps4
    have BE0 := Lib.hid (Below.refl w.heap.size w)
    have BE5 := Lib.hid (below_al BE0.out (.cells #[.int .i64 x0, .slice va0 vn0 vc0, .slice wa0 wn0 wc0] 41))
    have KBp05 := Lib.hid (Blk.new w 41 #[.int .i64 x0, .slice va0 vn0 vc0, .slice wa0 wn0 wc0])
    clear BE0
    have BE6 := Lib.hid (below_al BE5.out (.cells #[.int .i64 x1, .slice va1 vn1 vc1, .slice wa1 wn1 wc1] 41))
    have KBp06 := Lib.hid (KBp05.out.alloc (.cells #[.int .i64 x1, .slice va1 vn1 vc1, .slice wa1 wn1 wc1] 41))
    have KBp16 : Hid (Blk ((w.alloc (.cells #[.int .i64 x0, .slice va0 vn0 vc0, .slice wa0 wn0 wc0] 41)).alloc (.cells #[.int .i64 x1, .slice va1 vn1 vc1, .slice wa1 wn1 wc1] 41)) (w.heap.size + 1) 41 #[.int .i64 x1, .slice va1 vn1 vc1, .slice wa1 wn1 wc1]) := Lib.hid (by have := Blk.new (w.alloc (.cells #[.int .i64 x0, .slice va0 vn0 vc0, .slice wa0 wn0 wc0] 41)) 41 #[.int .i64 x1, .slice va1 vn1 vc1, .slice wa1 wn1 wc1]; simpa using this)
    clear BE5 KBp05
    go_wp2_with fail
    refine (scene.sz_any x0 _ xss0 _ ws0 (1048576) _ (H0.out.below BE6.out) (by omega) (by omega)).mono ?_
    rintro e wz7 ⟨rfl, hb⟩
    have BE8 := Lib.hid (below_tr BE6.out hb)
    have KBp08 := Lib.hid (KBp06.out.below hb)
    have KBp18 := Lib.hid (KBp16.out.below hb)
    have ZZ8 : Hid (w.heap.size + 1 + 1 ≤ wz7.heap.size) := Lib.hid (by have := (hb).size; simpa using this)
    clear BE6 KBp06 KBp16
    obtain ⟨p0c0, p0c1, p0c2, p0c3⟩ := scene.three_cells KBp08.out
    obtain ⟨p1c0, p1c1, p1c2, p1c3⟩ := scene.three_cells KBp18.out
    clear hb
    go_wp2_with fail
    refine (scene.sz_any x1 _ xss1 _ ws1 (scene.sz xss0 ws0 (1048576)) _ (H1.out.below BE8.out) (by omega) (by omega)).mono ?_
    rintro e wz9 ⟨rfl, hb⟩
    clear p0c0 p0c1 p0c2 p0c3 p1c0 p1c1 p1c2 p1c3
    have BE10 := Lib.hid (below_tr BE8.out hb)
    have KBp010 := Lib.hid (KBp08.out.below hb)
    have KBp110 := Lib.hid (KBp18.out.below hb)
    have ZZ10 : Hid (wz7.heap.size ≤ wz9.heap.size) := Lib.hid (by have := (hb).size; simpa using this)
    clear BE8 KBp08 KBp18
    obtain ⟨p0c0, p0c1, p0c2, p0c3⟩ := scene.three_cells KBp010.out
    obtain ⟨p1c0, p1c1, p1c2, p1c3⟩ := scene.three_cells KBp110.out
    clear hb
    go_wp2_with fail
    go_ret
    exact ⟨rfl, BE10.out⟩
  have hq1 := scene.sz_bound hs1
  have hn1 : ws1.length ≤ 1048576 := by omega
  have hm1 : rws.total xss1 ≤ 1048576 := by omega
  go_enter Try.func4, Try.ntmps4
  have BE0 := Lib.hid (Below.refl w.heap.size w)
  have BE11 := Lib.hid (below_al BE0.out (.cells #[.int .i64 x0, .slice va0 vn0 vc0, .slice wa0 wn0 wc0] 41))
  have KBp011 := Lib.hid (Blk.new w 41 #[.int .i64 x0, .slice va0 vn0 vc0, .slice wa0 wn0 wc0])
  clear BE0
  have BE12 := Lib.hid (below_al BE11.out (.cells #[.int .i64 x1, .slice va1 vn1 vc1, .slice wa1 wn1 wc1] 41))
  have KBp012 := Lib.hid (KBp011.out.alloc (.cells #[.int .i64 x1, .slice va1 vn1 vc1, .slice wa1 wn1 wc1] 41))
  have KBp112 : Hid (Blk ((w.alloc (.cells #[.int .i64 x0, .slice va0 vn0 vc0, .slice wa0 wn0 wc0] 41)).alloc (.cells #[.int .i64 x1, .slice va1 vn1 vc1, .slice wa1 wn1 wc1] 41)) (w.heap.size + 1) 41 #[.int .i64 x1, .slice va1 vn1 vc1, .slice wa1 wn1 wc1]) := Lib.hid (by have := Blk.new (w.alloc (.cells #[.int .i64 x0, .slice va0 vn0 vc0, .slice wa0 wn0 wc0] 41)) 41 #[.int .i64 x1, .slice va1 vn1 vc1, .slice wa1 wn1 wc1]; simpa using this)
  clear BE11 KBp011
  go_wp2_with fail
  refine (scene.sz_any x0 _ xss0 _ ws0 (1048576) _ (H0.out.below BE12.out) (by omega) (by omega)).mono ?_
  rintro e wz13 ⟨rfl, hb⟩
  have BE14 := Lib.hid (below_tr BE12.out hb)
  have KBp014 := Lib.hid (KBp012.out.below hb)
  have KBp114 := Lib.hid (KBp112.out.below hb)
  have ZZ14 : Hid (w.heap.size + 1 + 1 ≤ wz13.heap.size) := Lib.hid (by have := (hb).size; simpa using this)
  clear BE12 KBp012 KBp112
  obtain ⟨p0c0, p0c1, p0c2, p0c3⟩ := scene.three_cells KBp014.out
  obtain ⟨p1c0, p1c1, p1c2, p1c3⟩ := scene.three_cells KBp114.out
  clear hb
  go_wp2_with fail
  refine (scene.sz_any x1 _ xss1 _ ws1 (scene.sz xss0 ws0 (1048576)) _ (H1.out.below BE14.out) (by omega) (by omega)).mono ?_
  rintro e wz15 ⟨rfl, hb⟩
  clear p0c0 p0c1 p0c2 p0c3 p1c0 p1c1 p1c2 p1c3
  have BE16 := Lib.hid (below_tr BE14.out hb)
  have KBp016 := Lib.hid (KBp014.out.below hb)
  have KBp116 := Lib.hid (KBp114.out.below hb)
  have ZZ16 : Hid (wz13.heap.size ≤ wz15.heap.size) := Lib.hid (by have := (hb).size; simpa using this)
  clear BE14 KBp014 KBp114
  obtain ⟨p0c0, p0c1, p0c2, p0c3⟩ := scene.three_cells KBp016.out
  obtain ⟨p1c0, p1c1, p1c2, p1c3⟩ := scene.three_cells KBp116.out
  clear hb
  have HA0 := Lib.hid (H0.out.below BE16.out)
  have HA1 := Lib.hid (H1.out.below BE16.out)
  obtain ⟨q, hq⟩ : ∃ q, q = (jsp.joinR x0 xss0 ws0 x1 xss1 ws1) := ⟨_, rfl⟩
  have HQ := Lib.hid hq
  clear hq
  have ZZaW : Hid (w.heap.size + 1 + 1 ≤ wz15.heap.size) := Lib.hid KBp116.out.lt
  go_wp2_with fail
  refine inv.start (by kernel_rfl) (fun l a' W => ∃ (g : Nat) (r rt s0 s1 s2 s3 s4 s5 s6 s7 s8 s10 : Value), a' = { tmps := #[Value.agg #[Value.int IntKind.i64 x0, Value.slice va0 vn0 vc0, Value.slice wa0 wn0 wc0], Value.agg #[Value.int IntKind.i64 x1, Value.slice va1 vn1 vc1, Value.slice wa1 wn1 wc1], Value.pointer (some { block := w.heap.size, off := 0 }), Value.pointer (some { block := w.heap.size + 1, off := 0 }), Value.bool false, Value.int IntKind.i64 (scene.sz xss1 ws1 (scene.sz xss0 ws0 1048576)), s8, s10, undef, undef, undef, undef, undef, undef, undef, undef, undef, Value.agg #[Value.int IntKind.i64 x0, Value.slice va0 vn0 vc0, Value.slice wa0 wn0 wc0], Value.int IntKind.i64 1048576, Value.int IntKind.i64 (scene.sz xss0 ws0 1048576), Value.int IntKind.i64 (scene.sz xss0 ws0 1048576), Value.bool (decide (scene.sz xss0 ws0 1048576 < 0)), Value.agg #[Value.int IntKind.i64 x1, Value.slice va1 vn1 vc1, Value.slice wa1 wn1 wc1], Value.int IntKind.i64 (scene.sz xss0 ws0 1048576), Value.int IntKind.i64 (scene.sz xss1 ws1 (scene.sz xss0 ws0 1048576)), Value.int IntKind.i64 (scene.sz xss1 ws1 (scene.sz xss0 ws0 1048576)), Value.bool (decide (scene.sz xss1 ws1 (scene.sz xss0 ws0 1048576) < 0)), s5, s0, s1, s2, s3, s4, s6, s7, undef, undef, undef, undef, undef, undef, undef, undef, undef, undef, undef, undef, undef, undef, undef, undef, undef, undef, undef, undef, undef, undef, undef, undef, undef, undef, undef, undef, undef, undef, undef, undef, undef, undef, undef, undef, undef, undef, undef, undef, undef, undef, undef, undef, undef, undef, undef, undef, undef, undef, undef, undef, undef, undef, undef, undef, undef, undef, undef, undef, undef, undef, undef, undef, undef, undef, undef, undef, undef, undef, undef, undef, undef, undef, undef, undef, undef, undef, undef, undef, undef, undef, undef, undef], defers := [] } ∧ l.size = 11 ∧ JJ wz15 x0 xss0 ws0 x1 xss1 ws1 (.agg #[.int .i64 x0, .slice va0 vn0 vc0, .slice wa0 wn0 wc0]) (.agg #[.int .i64 x1, .slice va1 vn1 vc1, .slice wa1 wn1 wc1]) q (fun k => l.getD k false) g r rt s0 s1 s2 s3 s4 s5 s6 s7 s8 s10 W) ?_ ?_ ?_
  · refine ⟨0, undef, undef, _, _, _, _, _, _, _, _, _, _, rfl, by simp, ?_⟩
    exact ⟨fun h => by simp at h, fun h => by simp at h, fun h => by simp at h, fun h => by simp at h, fun h => by simp at h, fun h => by simp at h, fun h => by simp at h, fun h => by simp at h, fun h => by simp at h, fun h => by simp at h, fun h => by simp at h, fun h => by simp at h, fun h => by simp at h, fun h => by simp at h, fun h => by simp at h, fun h => by simp at h, fun h => by simp at h, below_dr (Below.refl _ _)⟩
  · rintro l a' W i ⟨g, r, rt, s0, s1, s2, s3, s4, s5, s6, s7, s8, s10, rfl, hsz, h⟩ hi
    have hlt : i < 11 := (inv.ready_lt hi).1
    obtain rfl | rfl | rfl | rfl | rfl | rfl | rfl | rfl | rfl | rfl | rfl : i = 0 ∨ i = 1 ∨ i = 2 ∨ i = 3 ∨ i = 4 ∨ i = 5 ∨ i = 6 ∨ i = 7 ∨ i = 8 ∨ i = 9 ∨ i = 10 := by omega
    · obtain ⟨hun, o, ho, hall⟩ := mem_ready.1 hi
      obtain rfl : _ = o := Option.some.inj ho
      have hoff : l.getD 0 false = false := inv.off l 0 hun
      have hup := inv.upd_eq l 0 hun
      obtain ⟨c0, c1, c2, c3⟩ := scene.three_cells (KBp016.out.below h.fb)
      refine wpOp_step rfl (fun K' hK => ?_)
      have HK := Lib.hid hK
      clear hK hall ho
      go_simp
      refine HK.out _ _ ⟨g, r, rt, _, _, _, _, _, _, _, _, _, _, rfl, by simp [hsz], ?_⟩
      rw [hup]
      exact ⟨fun _ => rfl, h.f1, h.f2, h.f3, h.f4, h.f5, h.f6, h.f7, h.f8, h.f10, h.d4x1, h.d4x3, h.d5x4, h.d6x5, h.d7x5, h.d9x8, h.d9x4, h.fb⟩
    · obtain ⟨hun, o, ho, hall⟩ := mem_ready.1 hi
      obtain rfl : _ = o := Option.some.inj ho
      have hoff : l.getD 1 false = false := inv.off l 1 hun
      have hup := inv.upd_eq l 1 hun
      have d0 : l.getD 0 false = true := hall ⟨0, .data⟩ (by simp) (by decide)
      obtain rfl := h.f0 d0
      refine wpOp_step rfl (fun K' hK => ?_)
      have HK := Lib.hid hK
      clear hK hall ho
      go_simp
      (go_at_call 28; (with_reducible refine (scene.to_any x0 _ xss0 _ ws0 _ (HA0.out.below h.fb) hn0 hm0).mono ?_); rintro e W' ⟨v, u, rfl, hu, hb⟩)
      try go_simp
      refine HK.out _ _ ⟨g, r, rt, _, _, _, _, _, _, _, _, _, _, rfl, by simp [hsz], ?_⟩
      rw [hup]
      exact ⟨h.f0, fun _ _ => ⟨u, v, rfl, hu.view⟩, h.f2, fun h3 h4 => (h.f3 h3 h4).imp fun _ k => k.imp fun _ k => ⟨k.1, k.2.below hb⟩, fun h4 => no (h.d4x1 h4) hoff, h.f5, h.f6, h.f7, fun h8 => ⟨(h.f8 h8).1, (h.f8 h8).2.1, (h.f8 h8).2.2.below hb⟩, h.f10, fun _ => rfl, h.d4x3, h.d5x4, h.d6x5, h.d7x5, h.d9x8, h.d9x4, below_tr h.fb hb⟩
    · obtain ⟨hun, o, ho, hall⟩ := mem_ready.1 hi
      obtain rfl : _ = o := Option.some.inj ho
      have hoff : l.getD 2 false = false := inv.off l 2 hun
      have hup := inv.upd_eq l 2 hun
      obtain ⟨c0, c1, c2, c3⟩ := scene.three_cells (KBp116.out.below h.fb)
      refine wpOp_step rfl (fun K' hK => ?_)
      have HK := Lib.hid hK
      clear hK hall ho
      go_simp
      refine HK.out _ _ ⟨g, r, rt, _, _, _, _, _, _, _, _, _, _, rfl, by simp [hsz], ?_⟩
      rw [hup]
      exact ⟨h.f0, h.f1, fun _ => rfl, h.f3, h.f4, h.f5, h.f6, h.f7, h.f8, h.f10, h.d4x1, h.d4x3, h.d5x4, h.d6x5, h.d7x5, h.d9x8, h.d9x4, h.fb⟩
    · obtain ⟨hun, o, ho, hall⟩ := mem_ready.1 hi
      obtain rfl : _ = o := Option.some.inj ho
      have hoff : l.getD 3 false = false := inv.off l 3 hun
      have hup := inv.upd_eq l 3 hun
      have d2 : l.getD 2 false = true := hall ⟨2, .data⟩ (by simp) (by decide)
      obtain rfl := h.f2 d2
      refine wpOp_step rfl (fun K' hK => ?_)
      have HK := Lib.hid hK
      clear hK hall ho
      go_simp
      (go_at_call 28; (with_reducible refine (scene.to_any x1 _ xss1 _ ws1 _ (HA1.out.below h.fb) hn1 hm1).mono ?_); rintro e W' ⟨v, u, rfl, hu, hb⟩)
      try go_simp
      refine HK.out _ _ ⟨g, r, rt, _, _, _, _, _, _, _, _, _, _, rfl, by simp [hsz], ?_⟩
      rw [hup]
      exact ⟨h.f0, fun h3 h4 => (h.f1 h3 h4).imp fun _ k => k.imp fun _ k => ⟨k.1, k.2.below hb⟩, h.f2, fun _ _ => ⟨u, v, rfl, hu.view⟩, fun h4 => no (h.d4x3 h4) hoff, h.f5, h.f6, h.f7, fun h8 => ⟨(h.f8 h8).1, (h.f8 h8).2.1, (h.f8 h8).2.2.below hb⟩, h.f10, h.d4x1, fun _ => rfl, h.d5x4, h.d6x5, h.d7x5, h.d9x8, h.d9x4, below_tr h.fb hb⟩
    · obtain ⟨hun, o, ho, hall⟩ := mem_ready.1 hi
      obtain rfl : _ = o := Option.some.inj ho
      have hoff : l.getD 4 false = false := inv.off l 4 hun
      have hup := inv.upd_eq l 4 hun
      have d1 : l.getD 1 false = true := hall ⟨1, .data⟩ (by simp) (by decide)
      have d3 : l.getD 3 false = true := hall ⟨3, .data⟩ (by simp) (by decide)
      obtain ⟨u0, v0, rfl, hu0⟩ := h.f1 d1 hoff
      obtain ⟨u1, v1, rfl, hu1⟩ := h.f3 d3 hoff
      refine wpOp_step rfl (fun K' hK => ?_)
      have HK := Lib.hid hK
      clear hK hall ho
      go_simp
      (go_at_call 27; (with_reducible refine (jsm.spec_any x0 _ xss0 _ ws0 x1 _ xss1 _ ws1 _ hu0 hu1 hm0 hm1).mono ?_); rintro e W' ⟨t', r', rfl, hr, hb⟩)
      try go_simp
      rw [← HQ.out] at hr
      refine HK.out _ _ ⟨g, r', t', _, _, _, _, _, _, _, _, _, _, rfl, by simp [hsz], ?_⟩
      rw [hup]
      have e9 : l.getD 9 false = false := off_of h.d9x4 hoff
      have k8 : l.getD 8 false = true → Blk W' g 43 (cel (l.getD 9 false) q r' t') := fun h8 => by (have k := (h.f8 h8).2.2.below hb); (rw [cel_off e9] at k); (rw [cel_off e9]); (exact k)
      exact ⟨h.f0, fun _ h4 => no (b := true) rfl h4, h.f2, fun _ h4 => no (b := true) rfl h4, fun _ => ⟨by rw [HQ.out], hr.view, fun h8 W'' hw => (hr.low (hw.mono (fun p hp => by have h' := (h.f8 h8).2.2.lt; have e1 : p.block = g := hp; show p.block < _; omega))).view⟩, fun h5 => no (h.d5x4 h5) hoff, fun h6 => no (h.d5x4 (h.d6x5 h6)) hoff, h.f7, fun h8 => ⟨(h.f8 h8).1, (h.f8 h8).2.1, k8 h8⟩, h.f10, fun _ => d1, fun _ => d3, fun _ => rfl, h.d6x5, h.d7x5, h.d9x8, fun _ => rfl, below_tr h.fb hb⟩
    · obtain ⟨hun, o, ho, hall⟩ := mem_ready.1 hi
      obtain rfl : _ = o := Option.some.inj ho
      have hoff : l.getD 5 false = false := inv.off l 5 hun
      have hup := inv.upd_eq l 5 hun
      have d4 : l.getD 4 false = true := hall ⟨4, .data⟩ (by simp) (by decide)
      obtain rfl := (h.f4 d4).1
      refine wpOp_step rfl (fun K' hK => ?_)
      have HK := Lib.hid hK
      clear hK hall ho
      go_simp
      refine HK.out _ _ ⟨g, r, rt, _, _, _, _, _, _, _, _, _, _, rfl, by simp [hsz], ?_⟩
      rw [hup]
      exact ⟨h.f0, h.f1, h.f2, h.f3, h.f4, fun _ => rfl, h.f6, h.f7, h.f8, h.f10, h.d4x1, h.d4x3, fun _ => d4, fun _ => rfl, fun _ => rfl, h.d9x8, h.d9x4, h.fb⟩
    · obtain ⟨hun, o, ho, hall⟩ := mem_ready.1 hi
      obtain rfl : _ = o := Option.some.inj ho
      have hoff : l.getD 6 false = false := inv.off l 6 hun
      have hup := inv.upd_eq l 6 hun
      have d5 : l.getD 5 false = true := hall ⟨5, .data⟩ (by simp) (by decide)
      obtain rfl := h.f5 d5
      refine wpOp_step rfl (fun K' hK => ?_)
      have HK := Lib.hid hK
      clear hK hall ho
      go_simp
      refine HK.out _ _ ⟨g, r, rt, _, _, _, _, _, _, _, _, _, _, rfl, by simp [hsz], ?_⟩
      rw [hup]
      exact ⟨h.f0, h.f1, h.f2, h.f3, h.f4, h.f5, fun _ => rfl, h.f7, h.f8, h.f10, h.d4x1, h.d4x3, h.d5x4, fun _ => d5, h.d7x5, h.d9x8, h.d9x4, h.fb⟩
    · obtain ⟨hun, o, ho, hall⟩ := mem_ready.1 hi
      obtain rfl : _ = o := Option.some.inj ho
      have hoff : l.getD 7 false = false := inv.off l 7 hun
      have hup := inv.upd_eq l 7 hun
      have d5 : l.getD 5 false = true := hall ⟨5, .data⟩ (by simp) (by decide)
      obtain rfl := h.f5 d5
      refine wpOp_step rfl (fun K' hK => ?_)
      have HK := Lib.hid hK
      clear hK hall ho
      go_simp
      refine HK.out _ _ ⟨g, r, rt, _, _, _, _, _, _, _, _, _, _, rfl, by simp [hsz], ?_⟩
      rw [hup]
      exact ⟨h.f0, h.f1, h.f2, h.f3, h.f4, h.f5, h.f6, fun _ => rfl, h.f8, h.f10, h.d4x1, h.d4x3, h.d5x4, h.d6x5, fun _ => d5, h.d9x8, h.d9x4, h.fb⟩
    · obtain ⟨hun, o, ho, hall⟩ := mem_ready.1 hi
      obtain rfl : _ = o := Option.some.inj ho
      have hoff : l.getD 8 false = false := inv.off l 8 hun
      have hup := inv.upd_eq l 8 hun
      refine wpOp_step rfl (fun K' hK => ?_)
      have HK := Lib.hid hK
      clear hK hall ho
      go_simp
      refine HK.out _ (W.alloc (.cells #[.int .i64 0, .slice none 0 0, .slice none 0 0] 43)) ⟨W.heap.size, r, rt, _, _, _, _, _, _, _, _, _, _, rfl, by simp [hsz], ?_⟩
      rw [hup]
      have e9 : l.getD 9 false = false := off_of h.d9x8 hoff
      have al := (below_al (Below.refl _ W) (.cells #[.int .i64 0, .slice none 0 0, .slice none 0 0] 43))
      have k8 : Blk (W.alloc (.cells #[.int .i64 0, .slice none 0 0, .slice none 0 0] 43)) W.heap.size 43 (cel (l.getD 9 false) q r rt) := by rw [cel_off e9]; exact Blk.new W _ _
      exact ⟨h.f0, fun h1 h4 => (h.f1 h1 h4).imp fun _ k => k.imp fun _ k => ⟨k.1, k.2.below al⟩, h.f2, fun h1 h4 => (h.f3 h1 h4).imp fun _ k => k.imp fun _ k => ⟨k.1, k.2.below al⟩, fun h4 => ⟨(h.f4 h4).1, (h.f4 h4).2.1.below al, fun _ W'' hw => (h.f4 h4).2.1.below (al.trans (hw.below (B := W.heap.size) (fun p hp => Nat.le_of_eq hp.symm)))⟩, h.f5, h.f6, h.f7, fun _ => ⟨rfl, h.fb.size, k8⟩, h.f10, h.d4x1, h.d4x3, h.d5x4, h.d6x5, h.d7x5, fun _ => rfl, h.d9x4, below_tr h.fb al⟩
    · obtain ⟨hun, o, ho, hall⟩ := mem_ready.1 hi
      obtain rfl : _ = o := Option.some.inj ho
      have hoff : l.getD 9 false = false := inv.off l 9 hun
      have hup := inv.upd_eq l 9 hun
      have d4 : l.getD 4 false = true := hall ⟨4, .chain⟩ (by simp) (by decide)
      have d6 : l.getD 6 false = true := hall ⟨6, .data⟩ (by simp) (by decide)
      have d8 : l.getD 8 false = true := hall ⟨8, .data⟩ (by simp) (by decide)
      obtain ⟨ta, tn, tc, ra, rn, rc, rfl, rfl⟩ := (h.f4 d4).2.1.shape
      obtain rfl := h.f6 d6
      obtain ⟨e6, hg, hk⟩ := h.f8 d8
      subst e6
      have hk : Blk W g 43 (cel (l.getD 9 false) q (.slice ra rn rc) (.slice ta tn tc)) := hk
      rw [cel_off hoff] at hk
      unfold zer at hk
      obtain ⟨c0, c1, c2, c3⟩ := scene.three_cells hk
      have rf : ∀ k, W.frozen? ⟨g, k, none⟩ = false := fun k => Joins.unfrozen_of_block hk k
      refine wpOp_step rfl (fun K' hK => ?_)
      have HK := Lib.hid hK
      clear hK hall ho
      go_simp
      refine HK.out _ (fle.set3 W g (.int .i64 q.x) (.slice ra rn rc) (.slice ta tn tc)) ⟨g, (.slice ra rn rc), (.slice ta tn tc), _, _, _, _, _, _, _, _, _, _, rfl, by simp [hsz], ?_⟩
      rw [hup]
      exact ⟨h.f0, fun _ h4 => no d4 h4, h.f2, fun _ h4 => no d4 h4, fun _ => ⟨(h.f4 d4).1, (h.f4 d4).2.2 d8 _ (fle.set3_wrote W g (.int .i64 q.x) (.slice ra rn rc) (.slice ta tn tc)), fun _ W'' hw => (h.f4 d4).2.2 d8 _ ((fle.set3_wrote W g (.int .i64 q.x) (.slice ra rn rc) (.slice ta tn tc)).trans hw)⟩, h.f5, h.f6, h.f7, fun _ => ⟨rfl, hg, fle.set3_same _ _ _ hk⟩, h.f10, h.d4x1, h.d4x3, h.d5x4, h.d6x5, h.d7x5, fun _ => d8, fun _ => d4, fle.set3_below _ _ _ hg h.fb⟩
    · obtain ⟨hun, o, ho, hall⟩ := mem_ready.1 hi
      obtain rfl : _ = o := Option.some.inj ho
      have hoff : l.getD 10 false = false := inv.off l 10 hun
      have hup := inv.upd_eq l 10 hun
      have d7 : l.getD 7 false = true := hall ⟨7, .data⟩ (by simp) (by decide)
      obtain rfl := h.f7 d7
      refine wpOp_step rfl (fun K' hK => ?_)
      have HK := Lib.hid hK
      clear hK hall ho
      go_simp
      refine HK.out _ _ ⟨g, r, rt, _, _, _, _, _, _, _, _, _, _, rfl, by simp [hsz], ?_⟩
      rw [hup]
      exact ⟨h.f0, h.f1, h.f2, h.f3, h.f4, h.f5, h.f6, h.f7, h.f8, fun _ => rfl, h.d4x1, h.d4x3, h.d5x4, h.d6x5, h.d7x5, h.d9x8, h.d9x4, h.fb⟩
  · rintro l a' W ⟨g, r, rt, s0, s1, s2, s3, s4, s5, s6, s7, s8, s10, rfl, hsz, h⟩ hr
    have hup : ∀ i, i < 11 → l.getD i false = true := inv.all_upm (by kernel_rfl) hsz hr
    obtain rfl := h.f0 (hup 0 (by omega))
    obtain rfl := h.f2 (hup 2 (by omega))
    obtain rfl := h.f5 (hup 5 (by omega))
    obtain rfl := h.f6 (hup 6 (by omega))
    obtain rfl := h.f7 (hup 7 (by omega))
    obtain rfl := h.f10 (hup 10 (by omega))
    obtain ⟨e32, huW, _⟩ := h.f4 (hup 4 (by omega))
    subst e32
    obtain ⟨e6, hgb, hk⟩ := h.f8 (hup 8 (by omega))
    subst e6
    have hk : Blk W g 43 (cel (l.getD 9 false) q r rt) := hk
    rw [cel_on (hup 9 (by omega))] at hk
    have hbt := h.fb
    clear h hup hr hsz HA0 HA1
    obtain ⟨Wa, Wn, Wc, Wd, Wm, We, rfl, rfl⟩ := huW.shape
    obtain rfl := HQ.out
    clear HQ
    clear p0c0 p0c1 p0c2 p0c3 p1c0 p1c1 p1c2 p1c3
    have BE17 := Lib.hid (below_tr BE16.out hbt)
    have KBp017 := Lib.hid (KBp016.out.below hbt)
    have KBp117 := Lib.hid (KBp116.out.below hbt)
    have ZZ17 : Hid (wz15.heap.size ≤ W.heap.size) := Lib.hid (by have := (hbt).size; simpa using this)
    clear BE16 KBp016 KBp116
    obtain ⟨p0c0, p0c1, p0c2, p0c3⟩ := scene.three_cells KBp017.out
    obtain ⟨p1c0, p1c1, p1c2, p1c3⟩ := scene.three_cells KBp117.out
    clear hbt hgb
    have VWW := Lib.hid huW
    have HBW := Lib.hid (Below.refl W.heap.size W)
    clear huW
    have ZZgW : Hid (g + 1 ≤ W.heap.size) := Lib.hid hk.lt
    have KBbW0 := Lib.hid hk
    clear hk
    obtain ⟨bWc0, bWc1, bWc2, bWc3⟩ := scene.three_cells KBbW0.out
    go_wp2_with fail
    refine (scene.to_any x0 _ xss0 _ ws0 _ (H0.out.below BE17.out) hn0 hm0).mono ?_
    rintro e wc18 ⟨vx0, ux0, rfl, hu, hb⟩
    obtain ⟨x0a, x0n, x0c, x0d, x0m, x0e, rfl, rfl⟩ := hu.view.shape
    clear p0c0 p0c1 p0c2 p0c3 p1c0 p1c1 p1c2 p1c3 bWc0 bWc1 bWc2 bWc3
    have BE19 := Lib.hid (below_tr BE17.out hb)
    have HBW19 := Lib.hid (below_tr HBW.out hb)
    have KBp019 := Lib.hid (KBp017.out.below hb)
    have KBp119 := Lib.hid (KBp117.out.below hb)
    have KBbW19 := Lib.hid (KBbW0.out.below hb)
    have ZZ19 : Hid (W.heap.size ≤ wc18.heap.size) := Lib.hid (by have := (hb).size; simpa using this)
    clear BE17 HBW KBp017 KBp117 KBbW0
    obtain ⟨p0c0, p0c1, p0c2, p0c3⟩ := scene.three_cells KBp019.out
    obtain ⟨p1c0, p1c1, p1c2, p1c3⟩ := scene.three_cells KBp119.out
    obtain ⟨bWc0, bWc1, bWc2, bWc3⟩ := scene.three_cells KBbW19.out
    have OWx0 := Lib.hid (hu.mono (B' := W.heap.size) (by simp) (Nat.le_refl _))
    clear hu hb
    go_wp2_with fail
    have BE20 := Lib.hid (below_al BE19.out (.cells #[.int .i64 x0, .slice x0d x0m x0e, .slice x0a x0n x0c] 43))
    have HBW20 := Lib.hid (below_al HBW19.out (.cells #[.int .i64 x0, .slice x0d x0m x0e, .slice x0a x0n x0c] 43))
    have OWx020 := Lib.hid (OWx0.out.keep (below_al (Below.refl _ _) (.cells #[.int .i64 x0, .slice x0d x0m x0e, .slice x0a x0n x0c] 43)))
    have KBp020 := Lib.hid (KBp019.out.alloc (.cells #[.int .i64 x0, .slice x0d x0m x0e, .slice x0a x0n x0c] 43))
    have KBp120 := Lib.hid (KBp119.out.alloc (.cells #[.int .i64 x0, .slice x0d x0m x0e, .slice x0a x0n x0c] 43))
    have KBbW20 := Lib.hid (KBbW19.out.alloc (.cells #[.int .i64 x0, .slice x0d x0m x0e, .slice x0a x0n x0c] 43))
    have KBbx020 := Lib.hid (Blk.new wc18 43 #[.int .i64 x0, .slice x0d x0m x0e, .slice x0a x0n x0c])
    clear BE19 HBW19 OWx0 KBp019 KBp119 KBbW19
    go_wp2_with fail
    refine (scene.to_any x1 _ xss1 _ ws1 _ (H1.out.below BE20.out) hn1 hm1).mono ?_
    rintro e wc21 ⟨vx1, ux1, rfl, hu, hb⟩
    obtain ⟨x1a, x1n, x1c, x1d, x1m, x1e, rfl, rfl⟩ := hu.view.shape
    clear p0c0 p0c1 p0c2 p0c3 p1c0 p1c1 p1c2 p1c3 bWc0 bWc1 bWc2 bWc3
    have BE22 := Lib.hid (below_tr BE20.out hb)
    have HBW22 := Lib.hid (below_tr HBW20.out hb)
    have OWx022 := Lib.hid (OWx020.out.keep hb)
    have KBp022 := Lib.hid (KBp020.out.below hb)
    have KBp122 := Lib.hid (KBp120.out.below hb)
    have KBbW22 := Lib.hid (KBbW20.out.below hb)
    have KBbx022 := Lib.hid (KBbx020.out.below hb)
    have ZZ22 : Hid (wc18.heap.size + 1 ≤ wc21.heap.size) := Lib.hid (by have := (hb).size; simpa using this)
    clear BE20 HBW20 OWx020 KBp020 KBp120 KBbW20 KBbx020
    obtain ⟨p0c0, p0c1, p0c2, p0c3⟩ := scene.three_cells KBp022.out
    obtain ⟨p1c0, p1c1, p1c2, p1c3⟩ := scene.three_cells KBp122.out
    obtain ⟨bWc0, bWc1, bWc2, bWc3⟩ := scene.three_cells KBbW22.out
    obtain ⟨bx0c0, bx0c1, bx0c2, bx0c3⟩ := scene.three_cells KBbx022.out
    have OWx1 := Lib.hid (hu.mono (B' := wc18.heap.size + 1) (by simp) (Nat.le_refl _))
    clear hu hb
    go_wp2_with fail
    have BE23 := Lib.hid (below_al BE22.out (.cells #[.int .i64 x1, .slice x1d x1m x1e, .slice x1a x1n x1c] 43))
    have HBW23 := Lib.hid (below_al HBW22.out (.cells #[.int .i64 x1, .slice x1d x1m x1e, .slice x1a x1n x1c] 43))
    have OWx023 := Lib.hid (OWx022.out.keep (below_al (Below.refl _ _) (.cells #[.int .i64 x1, .slice x1d x1m x1e, .slice x1a x1n x1c] 43)))
    have OWx123 := Lib.hid (OWx1.out.keep (below_al (Below.refl _ _) (.cells #[.int .i64 x1, .slice x1d x1m x1e, .slice x1a x1n x1c] 43)))
    have KBp023 := Lib.hid (KBp022.out.alloc (.cells #[.int .i64 x1, .slice x1d x1m x1e, .slice x1a x1n x1c] 43))
    have KBp123 := Lib.hid (KBp122.out.alloc (.cells #[.int .i64 x1, .slice x1d x1m x1e, .slice x1a x1n x1c] 43))
    have KBbW23 := Lib.hid (KBbW22.out.alloc (.cells #[.int .i64 x1, .slice x1d x1m x1e, .slice x1a x1n x1c] 43))
    have KBbx023 := Lib.hid (KBbx022.out.alloc (.cells #[.int .i64 x1, .slice x1d x1m x1e, .slice x1a x1n x1c] 43))
    have KBbx123 := Lib.hid (Blk.new wc21 43 #[.int .i64 x1, .slice x1d x1m x1e, .slice x1a x1n x1c])
    clear BE22 HBW22 OWx022 OWx1 KBp022 KBp122 KBbW22 KBbx022
    go_wp2_with fail
    refine (jsp.impl_any x0 (.slice x0d x0m x0e) xss0 (.slice x0a x0n x0c) ws0 x1 (.slice x1d x1m x1e) xss1 (.slice x1a x1n x1c) ws1 _ OWx023.out.view OWx123.out.view hm0 hm1).mono ?_
    rintro e wf24 ⟨vG, uG, rfl, hu, hb⟩
    obtain ⟨Ga, Gn, Gc, Gd, Gm, Ge, rfl, rfl⟩ := hu.view.shape
    clear p0c0 p0c1 p0c2 p0c3 p1c0 p1c1 p1c2 p1c3 bWc0 bWc1 bWc2 bWc3 bx0c0 bx0c1 bx0c2 bx0c3
    have BE25 := Lib.hid (below_tr BE23.out hb)
    have HBW25 := Lib.hid (below_tr HBW23.out hb)
    have OWx025 := Lib.hid (OWx023.out.keep hb)
    have OWx125 := Lib.hid (OWx123.out.keep hb)
    have KBp025 := Lib.hid (KBp023.out.below hb)
    have KBp125 := Lib.hid (KBp123.out.below hb)
    have KBbW25 := Lib.hid (KBbW23.out.below hb)
    have KBbx025 := Lib.hid (KBbx023.out.below hb)
    have KBbx125 := Lib.hid (KBbx123.out.below hb)
    have ZZ25 : Hid (wc21.heap.size + 1 ≤ wf24.heap.size) := Lib.hid (by have := (hb).size; simpa using this)
    clear BE23 HBW23 OWx023 OWx123 KBp023 KBp123 KBbW23 KBbx023 KBbx123
    obtain ⟨p0c0, p0c1, p0c2, p0c3⟩ := scene.three_cells KBp025.out
    obtain ⟨p1c0, p1c1, p1c2, p1c3⟩ := scene.three_cells KBp125.out
    obtain ⟨bWc0, bWc1, bWc2, bWc3⟩ := scene.three_cells KBbW25.out
    obtain ⟨bx0c0, bx0c1, bx0c2, bx0c3⟩ := scene.three_cells KBbx025.out
    obtain ⟨bx1c0, bx1c1, bx1c2, bx1c3⟩ := scene.three_cells KBbx125.out
    have OWG := Lib.hid (hu.mono (B' := wc21.heap.size + 1) (by simp) (Nat.le_refl _))
    clear hu hb
    go_wp2_with fail
    have BE26 := Lib.hid (below_al BE25.out (.cells #[.int .i64 ((jsp.joinR x0 xss0 ws0 x1 xss1 ws1).x), .slice Gd Gm Ge, .slice Ga Gn Gc] 43))
    have HBW26 := Lib.hid (below_al HBW25.out (.cells #[.int .i64 ((jsp.joinR x0 xss0 ws0 x1 xss1 ws1).x), .slice Gd Gm Ge, .slice Ga Gn Gc] 43))
    have OWx026 := Lib.hid (OWx025.out.keep (below_al (Below.refl _ _) (.cells #[.int .i64 ((jsp.joinR x0 xss0 ws0 x1 xss1 ws1).x), .slice Gd Gm Ge, .slice Ga Gn Gc] 43)))
    have OWx126 := Lib.hid (OWx125.out.keep (below_al (Below.refl _ _) (.cells #[.int .i64 ((jsp.joinR x0 xss0 ws0 x1 xss1 ws1).x), .slice Gd Gm Ge, .slice Ga Gn Gc] 43)))
    have OWG26 := Lib.hid (OWG.out.keep (below_al (Below.refl _ _) (.cells #[.int .i64 ((jsp.joinR x0 xss0 ws0 x1 xss1 ws1).x), .slice Gd Gm Ge, .slice Ga Gn Gc] 43)))
    have KBp026 := Lib.hid (KBp025.out.alloc (.cells #[.int .i64 ((jsp.joinR x0 xss0 ws0 x1 xss1 ws1).x), .slice Gd Gm Ge, .slice Ga Gn Gc] 43))
    have KBp126 := Lib.hid (KBp125.out.alloc (.cells #[.int .i64 ((jsp.joinR x0 xss0 ws0 x1 xss1 ws1).x), .slice Gd Gm Ge, .slice Ga Gn Gc] 43))
    have KBbW26 := Lib.hid (KBbW25.out.alloc (.cells #[.int .i64 ((jsp.joinR x0 xss0 ws0 x1 xss1 ws1).x), .slice Gd Gm Ge, .slice Ga Gn Gc] 43))
    have KBbx026 := Lib.hid (KBbx025.out.alloc (.cells #[.int .i64 ((jsp.joinR x0 xss0 ws0 x1 xss1 ws1).x), .slice Gd Gm Ge, .slice Ga Gn Gc] 43))
    have KBbx126 := Lib.hid (KBbx125.out.alloc (.cells #[.int .i64 ((jsp.joinR x0 xss0 ws0 x1 xss1 ws1).x), .slice Gd Gm Ge, .slice Ga Gn Gc] 43))
    have KBbG26 := Lib.hid (Blk.new wf24 43 #[.int .i64 ((jsp.joinR x0 xss0 ws0 x1 xss1 ws1).x), .slice Gd Gm Ge, .slice Ga Gn Gc])
    clear BE25 HBW25 OWx025 OWx125 OWG KBp025 KBp125 KBbW25 KBbx025 KBbx125
    have tk0 : (((jsp.joinR x0 xss0 ws0 x1 xss1 ws1).ok) != ((jsp.joinR x0 xss0 ws0 x1 xss1 ws1).ok)) = false := bne_self_eq_false _
    go_wp2_with fail
    refine (scene.eq_same ((jsp.joinR x0 xss0 ws0 x1 xss1 ws1).x) _ _ ((jsp.joinR x0 xss0 ws0 x1 xss1 ws1).rows) _ _ ((jsp.joinR x0 xss0 ws0 x1 xss1 ws1).ws) _ OWG26.out.view (VWW.out.below HBW26.out) (jsp.len_join (x0 := x0) (xss0 := xss0) (ws0 := ws0) (x1 := x1) (xss1 := xss1) (ws1 := ws1)) (jsp.tot_join (x0 := x0) (xss0 := xss0) (ws0 := ws0) (x1 := x1) (xss1 := xss1) (ws1 := ws1))).mono ?_
    rintro e we27 ⟨rfl, hb⟩
    clear p0c0 p0c1 p0c2 p0c3 p1c0 p1c1 p1c2 p1c3 bWc0 bWc1 bWc2 bWc3 bx0c0 bx0c1 bx0c2 bx0c3 bx1c0 bx1c1 bx1c2 bx1c3
    have BE28 := Lib.hid (below_tr BE26.out hb)
    have HBW28 := Lib.hid (below_tr HBW26.out hb)
    have OWx028 := Lib.hid (OWx026.out.keep hb)
    have OWx128 := Lib.hid (OWx126.out.keep hb)
    have OWG28 := Lib.hid (OWG26.out.keep hb)
    have KBp028 := Lib.hid (KBp026.out.below hb)
    have KBp128 := Lib.hid (KBp126.out.below hb)
    have KBbW28 := Lib.hid (KBbW26.out.below hb)
    have KBbx028 := Lib.hid (KBbx026.out.below hb)
    have KBbx128 := Lib.hid (KBbx126.out.below hb)
    have KBbG28 := Lib.hid (KBbG26.out.below hb)
    have ZZ28 : Hid (wf24.heap.size + 1 ≤ we27.heap.size) := Lib.hid (by have := (hb).size; simpa using this)
    clear BE26 HBW26 OWx026 OWx126 OWG26 KBp026 KBp126 KBbW26 KBbx026 KBbx126 KBbG26
    obtain ⟨p0c0, p0c1, p0c2, p0c3⟩ := scene.three_cells KBp028.out
    obtain ⟨p1c0, p1c1, p1c2, p1c3⟩ := scene.three_cells KBp128.out
    obtain ⟨bWc0, bWc1, bWc2, bWc3⟩ := scene.three_cells KBbW28.out
    obtain ⟨bx0c0, bx0c1, bx0c2, bx0c3⟩ := scene.three_cells KBbx028.out
    obtain ⟨bx1c0, bx1c1, bx1c2, bx1c3⟩ := scene.three_cells KBbx128.out
    obtain ⟨bGc0, bGc1, bGc2, bGc3⟩ := scene.three_cells KBbG28.out
    clear hb
    go_wp2_with fail
    have HA := Lib.hid (H0.out.below BE28.out)
    have HX := Lib.hid (OWx028.out.view)
    go_region_held3 (fun w' => w'.cell? ⟨w.heap.size, 0, none⟩ = some (.int .i64 x0) ∧ w'.cell? ⟨w.heap.size, 1, none⟩ = some (.slice va0 vn0 vc0) ∧ w'.cell? ⟨w.heap.size, 2, none⟩ = some (.slice wa0 wn0 wc0) ∧ w'.cell? ⟨wc18.heap.size, 0, none⟩ = some (.int .i64 x0) ∧ w'.cell? ⟨wc18.heap.size, 1, none⟩ = some (.slice x0d x0m x0e) ∧ w'.cell? ⟨wc18.heap.size, 2, none⟩ = some (.slice x0a x0n x0c) ∧ Below we27.heap.size we27 w')
      ((refine scene.held6c p0c0 p0c1 p0c2 bx0c0 bx0c1 bx0c2 ?_; repeat (first | exact Below.refl _ _ | assumption | refine below_dr ?_ | refine below_tr ?_ (by assumption))))
      (first | (go_at_call 28; refine (scene.to_any x0 _ xss0 _ ws0 _ (HA.out.below ?_) hn0 hm0).mono ?_; (simp [*]); rintro e wq ⟨vq0, uq0, rfl, huq, hbq⟩) | (go_at_call 30; refine (scene.eq_same x0 _ _ xss0 _ _ ws0 _ (HX.out.below (below_tr (below_dr (Below.refl _ _)) hbq)) huq.view hn0 hm0).mono ?_; rintro e wd29 ⟨rfl, hbr⟩))
    have hbt := below_tr (below_tr (below_dr (Below.refl _ _)) hbq) hbr
    clear HA HX huq hbq hbr
    clear p0c0 p0c1 p0c2 p0c3 p1c0 p1c1 p1c2 p1c3 bWc0 bWc1 bWc2 bWc3 bx0c0 bx0c1 bx0c2 bx0c3 bx1c0 bx1c1 bx1c2 bx1c3 bGc0 bGc1 bGc2 bGc3
    have BE30 := Lib.hid (below_tr BE28.out hbt)
    have HBW30 := Lib.hid (below_tr HBW28.out hbt)
    have OWx030 := Lib.hid (OWx028.out.keep hbt)
    have OWx130 := Lib.hid (OWx128.out.keep hbt)
    have OWG30 := Lib.hid (OWG28.out.keep hbt)
    have KBp030 := Lib.hid (KBp028.out.below hbt)
    have KBp130 := Lib.hid (KBp128.out.below hbt)
    have KBbW30 := Lib.hid (KBbW28.out.below hbt)
    have KBbx030 := Lib.hid (KBbx028.out.below hbt)
    have KBbx130 := Lib.hid (KBbx128.out.below hbt)
    have KBbG30 := Lib.hid (KBbG28.out.below hbt)
    have ZZ30 : Hid (we27.heap.size ≤ wd29.heap.size) := Lib.hid (by have := (hbt).size; simpa using this)
    clear BE28 HBW28 OWx028 OWx128 OWG28 KBp028 KBp128 KBbW28 KBbx028 KBbx128 KBbG28
    obtain ⟨p0c0, p0c1, p0c2, p0c3⟩ := scene.three_cells KBp030.out
    obtain ⟨p1c0, p1c1, p1c2, p1c3⟩ := scene.three_cells KBp130.out
    obtain ⟨bWc0, bWc1, bWc2, bWc3⟩ := scene.three_cells KBbW30.out
    obtain ⟨bx0c0, bx0c1, bx0c2, bx0c3⟩ := scene.three_cells KBbx030.out
    obtain ⟨bx1c0, bx1c1, bx1c2, bx1c3⟩ := scene.three_cells KBbx130.out
    obtain ⟨bGc0, bGc1, bGc2, bGc3⟩ := scene.three_cells KBbG30.out
    clear hbt
    go_wp2_with fail
    have HA := Lib.hid (H1.out.below BE30.out)
    have HX := Lib.hid (OWx130.out.view)
    go_region_held3 (fun w' => w'.cell? ⟨w.heap.size + 1, 0, none⟩ = some (.int .i64 x1) ∧ w'.cell? ⟨w.heap.size + 1, 1, none⟩ = some (.slice va1 vn1 vc1) ∧ w'.cell? ⟨w.heap.size + 1, 2, none⟩ = some (.slice wa1 wn1 wc1) ∧ w'.cell? ⟨wc21.heap.size, 0, none⟩ = some (.int .i64 x1) ∧ w'.cell? ⟨wc21.heap.size, 1, none⟩ = some (.slice x1d x1m x1e) ∧ w'.cell? ⟨wc21.heap.size, 2, none⟩ = some (.slice x1a x1n x1c) ∧ Below wd29.heap.size wd29 w')
      ((refine scene.held6c p1c0 p1c1 p1c2 bx1c0 bx1c1 bx1c2 ?_; repeat (first | exact Below.refl _ _ | assumption | refine below_dr ?_ | refine below_tr ?_ (by assumption))))
      (first | (go_at_call 28; refine (scene.to_any x1 _ xss1 _ ws1 _ (HA.out.below ?_) hn1 hm1).mono ?_; (simp [*]); rintro e wq ⟨vq1, uq1, rfl, huq, hbq⟩) | (go_at_call 30; refine (scene.eq_same x1 _ _ xss1 _ _ ws1 _ (HX.out.below (below_tr (below_dr (Below.refl _ _)) hbq)) huq.view hn1 hm1).mono ?_; rintro e wd31 ⟨rfl, hbr⟩))
    have hbt := below_tr (below_tr (below_dr (Below.refl _ _)) hbq) hbr
    clear HA HX huq hbq hbr
    clear p0c0 p0c1 p0c2 p0c3 p1c0 p1c1 p1c2 p1c3 bWc0 bWc1 bWc2 bWc3 bx0c0 bx0c1 bx0c2 bx0c3 bx1c0 bx1c1 bx1c2 bx1c3 bGc0 bGc1 bGc2 bGc3
    have BE32 := Lib.hid (below_tr BE30.out hbt)
    have HBW32 := Lib.hid (below_tr HBW30.out hbt)
    have OWx032 := Lib.hid (OWx030.out.keep hbt)
    have OWx132 := Lib.hid (OWx130.out.keep hbt)
    have OWG32 := Lib.hid (OWG30.out.keep hbt)
    have KBp032 := Lib.hid (KBp030.out.below hbt)
    have KBp132 := Lib.hid (KBp130.out.below hbt)
    have KBbW32 := Lib.hid (KBbW30.out.below hbt)
    have KBbx032 := Lib.hid (KBbx030.out.below hbt)
    have KBbx132 := Lib.hid (KBbx130.out.below hbt)
    have KBbG32 := Lib.hid (KBbG30.out.below hbt)
    have ZZ32 : Hid (wd29.heap.size ≤ wd31.heap.size) := Lib.hid (by have := (hbt).size; simpa using this)
    clear BE30 HBW30 OWx030 OWx130 OWG30 KBp030 KBp130 KBbW30 KBbx030 KBbx130 KBbG30
    obtain ⟨p0c0, p0c1, p0c2, p0c3⟩ := scene.three_cells KBp032.out
    obtain ⟨p1c0, p1c1, p1c2, p1c3⟩ := scene.three_cells KBp132.out
    obtain ⟨bWc0, bWc1, bWc2, bWc3⟩ := scene.three_cells KBbW32.out
    obtain ⟨bx0c0, bx0c1, bx0c2, bx0c3⟩ := scene.three_cells KBbx032.out
    obtain ⟨bx1c0, bx1c1, bx1c2, bx1c3⟩ := scene.three_cells KBbx132.out
    obtain ⟨bGc0, bGc1, bGc2, bGc3⟩ := scene.three_cells KBbG32.out
    clear hbt
    have bl0 := rws.before_le xss0 xss0.length
    go_wp2_with fail
    refine (scene.mark_any x0 _ xss0 _ ws0 (1) (W.heap.size) (wc18.heap.size) _ OWx032.out (by have := ZZ14.out; have := ZZ16.out; have := ZZaW.out; have := ZZ17.out; have := ZZgW.out; have := ZZ19.out; have := ZZ22.out; have := ZZ25.out; have := ZZ28.out; have := ZZ30.out; have := ZZ32.out; omega) hn0 hm0 (by omega) (by omega)).mono ?_
    rintro e wm33 ⟨rfl, hi, S, wl34, hb, hw, hs⟩
    clear OWx032
    clear p0c0 p0c1 p0c2 p0c3 p1c0 p1c1 p1c2 p1c3 bWc0 bWc1 bWc2 bWc3 bx0c0 bx0c1 bx0c2 bx0c3 bx1c0 bx1c1 bx1c2 bx1c3 bGc0 bGc1 bGc2 bGc3
    have BE35 := Lib.hid (below_tr BE32.out hb)
    have HBW35 := Lib.hid (below_tr HBW32.out hb)
    have OWx135 := Lib.hid (OWx132.out.keep hb)
    have OWG35 := Lib.hid (OWG32.out.keep hb)
    have KBp035 := Lib.hid (KBp032.out.below hb)
    have KBp135 := Lib.hid (KBp132.out.below hb)
    have KBbW35 := Lib.hid (KBbW32.out.below hb)
    have KBbx035 := Lib.hid (KBbx032.out.below hb)
    have KBbx135 := Lib.hid (KBbx132.out.below hb)
    have KBbG35 := Lib.hid (KBbG32.out.below hb)
    have ZZ35 : Hid (wd31.heap.size ≤ wl34.heap.size) := Lib.hid (by have := (hb).size; simpa using this)
    clear BE32 HBW32 OWx132 OWG32 KBp032 KBp132 KBbW32 KBbx032 KBbx132 KBbG32
    obtain ⟨p0c0, p0c1, p0c2, p0c3⟩ := scene.three_cells KBp035.out
    obtain ⟨p1c0, p1c1, p1c2, p1c3⟩ := scene.three_cells KBp135.out
    obtain ⟨bWc0, bWc1, bWc2, bWc3⟩ := scene.three_cells KBbW35.out
    obtain ⟨bx0c0, bx0c1, bx0c2, bx0c3⟩ := scene.three_cells KBbx035.out
    obtain ⟨bx1c0, bx1c1, bx1c2, bx1c3⟩ := scene.three_cells KBbx135.out
    obtain ⟨bGc0, bGc1, bGc2, bGc3⟩ := scene.three_cells KBbG35.out
    clear p0c0 p0c1 p0c2 p0c3 p1c0 p1c1 p1c2 p1c3 bWc0 bWc1 bWc2 bWc3 bx0c0 bx0c1 bx0c2 bx0c3 bx1c0 bx1c1 bx1c2 bx1c3 bGc0 bGc1 bGc2 bGc3
    have BE36 := Lib.hid (BE35.out.trans (hw.below (fun p hp => by have := (hs p hp).1; have := ZZ14.out; have := ZZ16.out; have := ZZaW.out; have := ZZ17.out; have := ZZgW.out; have := ZZ19.out; have := ZZ22.out; have := ZZ25.out; have := ZZ28.out; have := ZZ30.out; have := ZZ32.out; have := ZZ35.out; omega)))
    have HBW36 := Lib.hid (HBW35.out.trans (hw.below (fun p hp => by have := (hs p hp).1; have := ZZ14.out; have := ZZ16.out; have := ZZaW.out; have := ZZ17.out; have := ZZgW.out; have := ZZ19.out; have := ZZ22.out; have := ZZ25.out; have := ZZ28.out; have := ZZ30.out; have := ZZ32.out; have := ZZ35.out; omega)))
    have OWx136 := Lib.hid (OWx135.out.wrote hw (fun p hp => by have := hs p hp; have := ZZ14.out; have := ZZ16.out; have := ZZaW.out; have := ZZ17.out; have := ZZgW.out; have := ZZ19.out; have := ZZ22.out; have := ZZ25.out; have := ZZ28.out; have := ZZ30.out; have := ZZ32.out; have := ZZ35.out; omega))
    have OWG36 := Lib.hid (OWG35.out.wrote hw (fun p hp => by have := hs p hp; have := ZZ14.out; have := ZZ16.out; have := ZZaW.out; have := ZZ17.out; have := ZZgW.out; have := ZZ19.out; have := ZZ22.out; have := ZZ25.out; have := ZZ28.out; have := ZZ30.out; have := ZZ32.out; have := ZZ35.out; omega))
    have KBp036 := Lib.hid (KBp035.out.wrote hw (fun p hp e => by have := hs p hp; have := ZZ14.out; have := ZZ16.out; have := ZZaW.out; have := ZZ17.out; have := ZZgW.out; have := ZZ19.out; have := ZZ22.out; have := ZZ25.out; have := ZZ28.out; have := ZZ30.out; have := ZZ32.out; have := ZZ35.out; omega))
    have KBp136 := Lib.hid (KBp135.out.wrote hw (fun p hp e => by have := hs p hp; have := ZZ14.out; have := ZZ16.out; have := ZZaW.out; have := ZZ17.out; have := ZZgW.out; have := ZZ19.out; have := ZZ22.out; have := ZZ25.out; have := ZZ28.out; have := ZZ30.out; have := ZZ32.out; have := ZZ35.out; omega))
    have KBbW36 := Lib.hid (KBbW35.out.wrote hw (fun p hp e => by have := hs p hp; have := ZZ14.out; have := ZZ16.out; have := ZZaW.out; have := ZZ17.out; have := ZZgW.out; have := ZZ19.out; have := ZZ22.out; have := ZZ25.out; have := ZZ28.out; have := ZZ30.out; have := ZZ32.out; have := ZZ35.out; omega))
    have KBbx036 := Lib.hid (KBbx035.out.wrote hw (fun p hp e => by have := hs p hp; have := ZZ14.out; have := ZZ16.out; have := ZZaW.out; have := ZZ17.out; have := ZZgW.out; have := ZZ19.out; have := ZZ22.out; have := ZZ25.out; have := ZZ28.out; have := ZZ30.out; have := ZZ32.out; have := ZZ35.out; omega))
    have KBbx136 := Lib.hid (KBbx135.out.wrote hw (fun p hp e => by have := hs p hp; have := ZZ14.out; have := ZZ16.out; have := ZZaW.out; have := ZZ17.out; have := ZZgW.out; have := ZZ19.out; have := ZZ22.out; have := ZZ25.out; have := ZZ28.out; have := ZZ30.out; have := ZZ32.out; have := ZZ35.out; omega))
    have KBbG36 := Lib.hid (KBbG35.out.wrote hw (fun p hp e => by have := hs p hp; have := ZZ14.out; have := ZZ16.out; have := ZZaW.out; have := ZZ17.out; have := ZZgW.out; have := ZZ19.out; have := ZZ22.out; have := ZZ25.out; have := ZZ28.out; have := ZZ30.out; have := ZZ32.out; have := ZZ35.out; omega))
    have ZZ36 : Hid (wl34.heap.size ≤ wm33.heap.size) := Lib.hid (by have := hw.size; omega)
    clear BE35 HBW35 OWx135 OWG35 KBp035 KBp135 KBbW35 KBbx035 KBbx135 KBbG35
    obtain ⟨p0c0, p0c1, p0c2, p0c3⟩ := scene.three_cells KBp036.out
    obtain ⟨p1c0, p1c1, p1c2, p1c3⟩ := scene.three_cells KBp136.out
    obtain ⟨bWc0, bWc1, bWc2, bWc3⟩ := scene.three_cells KBbW36.out
    obtain ⟨bx0c0, bx0c1, bx0c2, bx0c3⟩ := scene.three_cells KBbx036.out
    obtain ⟨bx1c0, bx1c1, bx1c2, bx1c3⟩ := scene.three_cells KBbx136.out
    obtain ⟨bGc0, bGc1, bGc2, bGc3⟩ := scene.three_cells KBbG36.out
    clear hb
    clear hw hs
    clear hi
    have bl1 := rws.before_le xss1 xss1.length
    go_wp2_with fail
    refine (scene.mark_any x1 _ xss1 _ ws1 (1 + (rws.before xss0 xss0.length : Int) + (ws0.length : Int)) (wc18.heap.size + 1) (wc21.heap.size) _ OWx136.out (by have := ZZ14.out; have := ZZ16.out; have := ZZaW.out; have := ZZ17.out; have := ZZgW.out; have := ZZ19.out; have := ZZ22.out; have := ZZ25.out; have := ZZ28.out; have := ZZ30.out; have := ZZ32.out; have := ZZ35.out; have := ZZ36.out; omega) hn1 hm1 (by omega) (by omega)).mono ?_
    rintro e wm37 ⟨rfl, hi, S, wl38, hb, hw, hs⟩
    clear OWx136
    clear p0c0 p0c1 p0c2 p0c3 p1c0 p1c1 p1c2 p1c3 bWc0 bWc1 bWc2 bWc3 bx0c0 bx0c1 bx0c2 bx0c3 bx1c0 bx1c1 bx1c2 bx1c3 bGc0 bGc1 bGc2 bGc3
    have BE39 := Lib.hid (below_tr BE36.out hb)
    have HBW39 := Lib.hid (below_tr HBW36.out hb)
    have OWG39 := Lib.hid (OWG36.out.keep hb)
    have KBp039 := Lib.hid (KBp036.out.below hb)
    have KBp139 := Lib.hid (KBp136.out.below hb)
    have KBbW39 := Lib.hid (KBbW36.out.below hb)
    have KBbx039 := Lib.hid (KBbx036.out.below hb)
    have KBbx139 := Lib.hid (KBbx136.out.below hb)
    have KBbG39 := Lib.hid (KBbG36.out.below hb)
    have ZZ39 : Hid (wm33.heap.size ≤ wl38.heap.size) := Lib.hid (by have := (hb).size; simpa using this)
    clear BE36 HBW36 OWG36 KBp036 KBp136 KBbW36 KBbx036 KBbx136 KBbG36
    obtain ⟨p0c0, p0c1, p0c2, p0c3⟩ := scene.three_cells KBp039.out
    obtain ⟨p1c0, p1c1, p1c2, p1c3⟩ := scene.three_cells KBp139.out
    obtain ⟨bWc0, bWc1, bWc2, bWc3⟩ := scene.three_cells KBbW39.out
    obtain ⟨bx0c0, bx0c1, bx0c2, bx0c3⟩ := scene.three_cells KBbx039.out
    obtain ⟨bx1c0, bx1c1, bx1c2, bx1c3⟩ := scene.three_cells KBbx139.out
    obtain ⟨bGc0, bGc1, bGc2, bGc3⟩ := scene.three_cells KBbG39.out
    clear p0c0 p0c1 p0c2 p0c3 p1c0 p1c1 p1c2 p1c3 bWc0 bWc1 bWc2 bWc3 bx0c0 bx0c1 bx0c2 bx0c3 bx1c0 bx1c1 bx1c2 bx1c3 bGc0 bGc1 bGc2 bGc3
    have BE40 := Lib.hid (BE39.out.trans (hw.below (fun p hp => by have := (hs p hp).1; have := ZZ14.out; have := ZZ16.out; have := ZZaW.out; have := ZZ17.out; have := ZZgW.out; have := ZZ19.out; have := ZZ22.out; have := ZZ25.out; have := ZZ28.out; have := ZZ30.out; have := ZZ32.out; have := ZZ35.out; have := ZZ36.out; have := ZZ39.out; omega)))
    have HBW40 := Lib.hid (HBW39.out.trans (hw.below (fun p hp => by have := (hs p hp).1; have := ZZ14.out; have := ZZ16.out; have := ZZaW.out; have := ZZ17.out; have := ZZgW.out; have := ZZ19.out; have := ZZ22.out; have := ZZ25.out; have := ZZ28.out; have := ZZ30.out; have := ZZ32.out; have := ZZ35.out; have := ZZ36.out; have := ZZ39.out; omega)))
    have OWG40 := Lib.hid (OWG39.out.wrote hw (fun p hp => by have := hs p hp; have := ZZ14.out; have := ZZ16.out; have := ZZaW.out; have := ZZ17.out; have := ZZgW.out; have := ZZ19.out; have := ZZ22.out; have := ZZ25.out; have := ZZ28.out; have := ZZ30.out; have := ZZ32.out; have := ZZ35.out; have := ZZ36.out; have := ZZ39.out; omega))
    have KBp040 := Lib.hid (KBp039.out.wrote hw (fun p hp e => by have := hs p hp; have := ZZ14.out; have := ZZ16.out; have := ZZaW.out; have := ZZ17.out; have := ZZgW.out; have := ZZ19.out; have := ZZ22.out; have := ZZ25.out; have := ZZ28.out; have := ZZ30.out; have := ZZ32.out; have := ZZ35.out; have := ZZ36.out; have := ZZ39.out; omega))
    have KBp140 := Lib.hid (KBp139.out.wrote hw (fun p hp e => by have := hs p hp; have := ZZ14.out; have := ZZ16.out; have := ZZaW.out; have := ZZ17.out; have := ZZgW.out; have := ZZ19.out; have := ZZ22.out; have := ZZ25.out; have := ZZ28.out; have := ZZ30.out; have := ZZ32.out; have := ZZ35.out; have := ZZ36.out; have := ZZ39.out; omega))
    have KBbW40 := Lib.hid (KBbW39.out.wrote hw (fun p hp e => by have := hs p hp; have := ZZ14.out; have := ZZ16.out; have := ZZaW.out; have := ZZ17.out; have := ZZgW.out; have := ZZ19.out; have := ZZ22.out; have := ZZ25.out; have := ZZ28.out; have := ZZ30.out; have := ZZ32.out; have := ZZ35.out; have := ZZ36.out; have := ZZ39.out; omega))
    have KBbx040 := Lib.hid (KBbx039.out.wrote hw (fun p hp e => by have := hs p hp; have := ZZ14.out; have := ZZ16.out; have := ZZaW.out; have := ZZ17.out; have := ZZgW.out; have := ZZ19.out; have := ZZ22.out; have := ZZ25.out; have := ZZ28.out; have := ZZ30.out; have := ZZ32.out; have := ZZ35.out; have := ZZ36.out; have := ZZ39.out; omega))
    have KBbx140 := Lib.hid (KBbx139.out.wrote hw (fun p hp e => by have := hs p hp; have := ZZ14.out; have := ZZ16.out; have := ZZaW.out; have := ZZ17.out; have := ZZgW.out; have := ZZ19.out; have := ZZ22.out; have := ZZ25.out; have := ZZ28.out; have := ZZ30.out; have := ZZ32.out; have := ZZ35.out; have := ZZ36.out; have := ZZ39.out; omega))
    have KBbG40 := Lib.hid (KBbG39.out.wrote hw (fun p hp e => by have := hs p hp; have := ZZ14.out; have := ZZ16.out; have := ZZaW.out; have := ZZ17.out; have := ZZgW.out; have := ZZ19.out; have := ZZ22.out; have := ZZ25.out; have := ZZ28.out; have := ZZ30.out; have := ZZ32.out; have := ZZ35.out; have := ZZ36.out; have := ZZ39.out; omega))
    have ZZ40 : Hid (wl38.heap.size ≤ wm37.heap.size) := Lib.hid (by have := hw.size; omega)
    clear BE39 HBW39 OWG39 KBp039 KBp139 KBbW39 KBbx039 KBbx139 KBbG39
    obtain ⟨p0c0, p0c1, p0c2, p0c3⟩ := scene.three_cells KBp040.out
    obtain ⟨p1c0, p1c1, p1c2, p1c3⟩ := scene.three_cells KBp140.out
    obtain ⟨bWc0, bWc1, bWc2, bWc3⟩ := scene.three_cells KBbW40.out
    obtain ⟨bx0c0, bx0c1, bx0c2, bx0c3⟩ := scene.three_cells KBbx040.out
    obtain ⟨bx1c0, bx1c1, bx1c2, bx1c3⟩ := scene.three_cells KBbx140.out
    obtain ⟨bGc0, bGc1, bGc2, bGc3⟩ := scene.three_cells KBbG40.out
    clear hb
    clear hw hs
    clear hi
    have dk : decide (1 + (rws.before xss0 xss0.length : Int) + (ws0.length : Int) + (rws.before xss1 xss1.length : Int) + (ws1.length : Int) < 0) = false := by simp; omega
    have dk' : ¬ (1 + (rws.before xss0 xss0.length : Int) + (ws0.length : Int) + (rws.before xss1 xss1.length : Int) + (ws1.length : Int) < 0) := by omega
    go_wp2_with fail
    refine (scene.eq_same ((jsp.joinR x0 xss0 ws0 x1 xss1 ws1).x) _ _ ((jsp.joinR x0 xss0 ws0 x1 xss1 ws1).rows) _ _ ((jsp.joinR x0 xss0 ws0 x1 xss1 ws1).ws) _ OWG40.out.view (VWW.out.below HBW40.out) (jsp.len_join (x0 := x0) (xss0 := xss0) (ws0 := ws0) (x1 := x1) (xss1 := xss1) (ws1 := ws1)) (jsp.tot_join (x0 := x0) (xss0 := xss0) (ws0 := ws0) (x1 := x1) (xss1 := xss1) (ws1 := ws1))).mono ?_
    rintro e we41 ⟨rfl, hb⟩
    clear p0c0 p0c1 p0c2 p0c3 p1c0 p1c1 p1c2 p1c3 bWc0 bWc1 bWc2 bWc3 bx0c0 bx0c1 bx0c2 bx0c3 bx1c0 bx1c1 bx1c2 bx1c3 bGc0 bGc1 bGc2 bGc3
    have BE42 := Lib.hid (below_tr BE40.out hb)
    have HBW42 := Lib.hid (below_tr HBW40.out hb)
    have OWG42 := Lib.hid (OWG40.out.keep hb)
    have KBp042 := Lib.hid (KBp040.out.below hb)
    have KBp142 := Lib.hid (KBp140.out.below hb)
    have KBbW42 := Lib.hid (KBbW40.out.below hb)
    have KBbx042 := Lib.hid (KBbx040.out.below hb)
    have KBbx142 := Lib.hid (KBbx140.out.below hb)
    have KBbG42 := Lib.hid (KBbG40.out.below hb)
    have ZZ42 : Hid (wm37.heap.size ≤ we41.heap.size) := Lib.hid (by have := (hb).size; simpa using this)
    clear BE40 HBW40 OWG40 KBp040 KBp140 KBbW40 KBbx040 KBbx140 KBbG40
    obtain ⟨p0c0, p0c1, p0c2, p0c3⟩ := scene.three_cells KBp042.out
    obtain ⟨p1c0, p1c1, p1c2, p1c3⟩ := scene.three_cells KBp142.out
    obtain ⟨bWc0, bWc1, bWc2, bWc3⟩ := scene.three_cells KBbW42.out
    obtain ⟨bx0c0, bx0c1, bx0c2, bx0c3⟩ := scene.three_cells KBbx042.out
    obtain ⟨bx1c0, bx1c1, bx1c2, bx1c3⟩ := scene.three_cells KBbx142.out
    obtain ⟨bGc0, bGc1, bGc2, bGc3⟩ := scene.three_cells KBbG42.out
    clear hb
    have blr := Nat.le_trans (rws.before_le ((jsp.joinR x0 xss0 ws0 x1 xss1 ws1).rows) ((jsp.joinR x0 xss0 ws0 x1 xss1 ws1).rows).length) (jsp.tot_join (x0 := x0) (xss0 := xss0) (ws0 := ws0) (x1 := x1) (xss1 := xss1) (ws1 := ws1))
    have blw := (jsp.len_join (x0 := x0) (xss0 := xss0) (ws0 := ws0) (x1 := x1) (xss1 := xss1) (ws1 := ws1))
    have dq : ¬ (1 + (rws.before ((jsp.joinR x0 xss0 ws0 x1 xss1 ws1).rows) ((jsp.joinR x0 xss0 ws0 x1 xss1 ws1).rows).length : Int) + (((jsp.joinR x0 xss0 ws0 x1 xss1 ws1).ws).length : Int) < 0) := by omega
    have tq : ((1 + (rws.before ((jsp.joinR x0 xss0 ws0 x1 xss1 ws1).rows) ((jsp.joinR x0 xss0 ws0 x1 xss1 ws1).rows).length : Int) + (((jsp.joinR x0 xss0 ws0 x1 xss1 ws1).ws).length : Int)) != (1 + (rws.before ((jsp.joinR x0 xss0 ws0 x1 xss1 ws1).rows) ((jsp.joinR x0 xss0 ws0 x1 xss1 ws1).rows).length : Int) + (((jsp.joinR x0 xss0 ws0 x1 xss1 ws1).ws).length : Int))) = false := bne_self_eq_false _
    go_wp2_with fail
    refine (scene.mark_any ((jsp.joinR x0 xss0 ws0 x1 xss1 ws1).x) _ ((jsp.joinR x0 xss0 ws0 x1 xss1 ws1).rows) _ ((jsp.joinR x0 xss0 ws0 x1 xss1 ws1).ws) (1) (wc21.heap.size + 1) (wf24.heap.size) _ OWG42.out (by have := ZZ14.out; have := ZZ16.out; have := ZZaW.out; have := ZZ17.out; have := ZZgW.out; have := ZZ19.out; have := ZZ22.out; have := ZZ25.out; have := ZZ28.out; have := ZZ30.out; have := ZZ32.out; have := ZZ35.out; have := ZZ36.out; have := ZZ39.out; have := ZZ40.out; have := ZZ42.out; omega) (jsp.len_join (x0 := x0) (xss0 := xss0) (ws0 := ws0) (x1 := x1) (xss1 := xss1) (ws1 := ws1)) (jsp.tot_join (x0 := x0) (xss0 := xss0) (ws0 := ws0) (x1 := x1) (xss1 := xss1) (ws1 := ws1)) (by omega) (by omega)).mono ?_
    rintro e wm43 ⟨rfl, hi, S, wl44, hb, hw, hs⟩
    clear OWG42
    clear p0c0 p0c1 p0c2 p0c3 p1c0 p1c1 p1c2 p1c3 bWc0 bWc1 bWc2 bWc3 bx0c0 bx0c1 bx0c2 bx0c3 bx1c0 bx1c1 bx1c2 bx1c3 bGc0 bGc1 bGc2 bGc3
    have BE45 := Lib.hid (below_tr BE42.out hb)
    have HBW45 := Lib.hid (below_tr HBW42.out hb)
    have KBp045 := Lib.hid (KBp042.out.below hb)
    have KBp145 := Lib.hid (KBp142.out.below hb)
    have KBbW45 := Lib.hid (KBbW42.out.below hb)
    have KBbx045 := Lib.hid (KBbx042.out.below hb)
    have KBbx145 := Lib.hid (KBbx142.out.below hb)
    have KBbG45 := Lib.hid (KBbG42.out.below hb)
    have ZZ45 : Hid (we41.heap.size ≤ wl44.heap.size) := Lib.hid (by have := (hb).size; simpa using this)
    clear BE42 HBW42 KBp042 KBp142 KBbW42 KBbx042 KBbx142 KBbG42
    obtain ⟨p0c0, p0c1, p0c2, p0c3⟩ := scene.three_cells KBp045.out
    obtain ⟨p1c0, p1c1, p1c2, p1c3⟩ := scene.three_cells KBp145.out
    obtain ⟨bWc0, bWc1, bWc2, bWc3⟩ := scene.three_cells KBbW45.out
    obtain ⟨bx0c0, bx0c1, bx0c2, bx0c3⟩ := scene.three_cells KBbx045.out
    obtain ⟨bx1c0, bx1c1, bx1c2, bx1c3⟩ := scene.three_cells KBbx145.out
    obtain ⟨bGc0, bGc1, bGc2, bGc3⟩ := scene.three_cells KBbG45.out
    clear p0c0 p0c1 p0c2 p0c3 p1c0 p1c1 p1c2 p1c3 bWc0 bWc1 bWc2 bWc3 bx0c0 bx0c1 bx0c2 bx0c3 bx1c0 bx1c1 bx1c2 bx1c3 bGc0 bGc1 bGc2 bGc3
    have BE46 := Lib.hid (BE45.out.trans (hw.below (fun p hp => by have := (hs p hp).1; have := ZZ14.out; have := ZZ16.out; have := ZZaW.out; have := ZZ17.out; have := ZZgW.out; have := ZZ19.out; have := ZZ22.out; have := ZZ25.out; have := ZZ28.out; have := ZZ30.out; have := ZZ32.out; have := ZZ35.out; have := ZZ36.out; have := ZZ39.out; have := ZZ40.out; have := ZZ42.out; have := ZZ45.out; omega)))
    have HBW46 := Lib.hid (HBW45.out.trans (hw.below (fun p hp => by have := (hs p hp).1; have := ZZ14.out; have := ZZ16.out; have := ZZaW.out; have := ZZ17.out; have := ZZgW.out; have := ZZ19.out; have := ZZ22.out; have := ZZ25.out; have := ZZ28.out; have := ZZ30.out; have := ZZ32.out; have := ZZ35.out; have := ZZ36.out; have := ZZ39.out; have := ZZ40.out; have := ZZ42.out; have := ZZ45.out; omega)))
    have KBp046 := Lib.hid (KBp045.out.wrote hw (fun p hp e => by have := hs p hp; have := ZZ14.out; have := ZZ16.out; have := ZZaW.out; have := ZZ17.out; have := ZZgW.out; have := ZZ19.out; have := ZZ22.out; have := ZZ25.out; have := ZZ28.out; have := ZZ30.out; have := ZZ32.out; have := ZZ35.out; have := ZZ36.out; have := ZZ39.out; have := ZZ40.out; have := ZZ42.out; have := ZZ45.out; omega))
    have KBp146 := Lib.hid (KBp145.out.wrote hw (fun p hp e => by have := hs p hp; have := ZZ14.out; have := ZZ16.out; have := ZZaW.out; have := ZZ17.out; have := ZZgW.out; have := ZZ19.out; have := ZZ22.out; have := ZZ25.out; have := ZZ28.out; have := ZZ30.out; have := ZZ32.out; have := ZZ35.out; have := ZZ36.out; have := ZZ39.out; have := ZZ40.out; have := ZZ42.out; have := ZZ45.out; omega))
    have KBbW46 := Lib.hid (KBbW45.out.wrote hw (fun p hp e => by have := hs p hp; have := ZZ14.out; have := ZZ16.out; have := ZZaW.out; have := ZZ17.out; have := ZZgW.out; have := ZZ19.out; have := ZZ22.out; have := ZZ25.out; have := ZZ28.out; have := ZZ30.out; have := ZZ32.out; have := ZZ35.out; have := ZZ36.out; have := ZZ39.out; have := ZZ40.out; have := ZZ42.out; have := ZZ45.out; omega))
    have KBbx046 := Lib.hid (KBbx045.out.wrote hw (fun p hp e => by have := hs p hp; have := ZZ14.out; have := ZZ16.out; have := ZZaW.out; have := ZZ17.out; have := ZZgW.out; have := ZZ19.out; have := ZZ22.out; have := ZZ25.out; have := ZZ28.out; have := ZZ30.out; have := ZZ32.out; have := ZZ35.out; have := ZZ36.out; have := ZZ39.out; have := ZZ40.out; have := ZZ42.out; have := ZZ45.out; omega))
    have KBbx146 := Lib.hid (KBbx145.out.wrote hw (fun p hp e => by have := hs p hp; have := ZZ14.out; have := ZZ16.out; have := ZZaW.out; have := ZZ17.out; have := ZZgW.out; have := ZZ19.out; have := ZZ22.out; have := ZZ25.out; have := ZZ28.out; have := ZZ30.out; have := ZZ32.out; have := ZZ35.out; have := ZZ36.out; have := ZZ39.out; have := ZZ40.out; have := ZZ42.out; have := ZZ45.out; omega))
    have KBbG46 := Lib.hid (KBbG45.out.wrote hw (fun p hp e => by have := hs p hp; have := ZZ14.out; have := ZZ16.out; have := ZZaW.out; have := ZZ17.out; have := ZZgW.out; have := ZZ19.out; have := ZZ22.out; have := ZZ25.out; have := ZZ28.out; have := ZZ30.out; have := ZZ32.out; have := ZZ35.out; have := ZZ36.out; have := ZZ39.out; have := ZZ40.out; have := ZZ42.out; have := ZZ45.out; omega))
    have ZZ46 : Hid (wl44.heap.size ≤ wm43.heap.size) := Lib.hid (by have := hw.size; omega)
    clear BE45 HBW45 KBp045 KBp145 KBbW45 KBbx045 KBbx145 KBbG45
    obtain ⟨p0c0, p0c1, p0c2, p0c3⟩ := scene.three_cells KBp046.out
    obtain ⟨p1c0, p1c1, p1c2, p1c3⟩ := scene.three_cells KBp146.out
    obtain ⟨bWc0, bWc1, bWc2, bWc3⟩ := scene.three_cells KBbW46.out
    obtain ⟨bx0c0, bx0c1, bx0c2, bx0c3⟩ := scene.three_cells KBbx046.out
    obtain ⟨bx1c0, bx1c1, bx1c2, bx1c3⟩ := scene.three_cells KBbx146.out
    obtain ⟨bGc0, bGc1, bGc2, bGc3⟩ := scene.three_cells KBbG46.out
    clear hb
    clear hw hs
    have VWM := Lib.hid hi
    have HBM := Lib.hid (Below.refl wm43.heap.size wm43)
    clear hi
    go_wp2_with fail
    refine (scene.held_any ((jsp.joinR x0 xss0 ws0 x1 xss1 ws1).x) _ ((jsp.joinR x0 xss0 ws0 x1 xss1 ws1).rows) _ ((jsp.joinR x0 xss0 ws0 x1 xss1 ws1).ws).length 1 _ (VWM.out.below HBM.out) (jsp.len_join (x0 := x0) (xss0 := xss0) (ws0 := ws0) (x1 := x1) (xss1 := xss1) (ws1 := ws1)) (jsp.tot_join (x0 := x0) (xss0 := xss0) (ws0 := ws0) (x1 := x1) (xss1 := xss1) (ws1 := ws1)) (by omega) (by omega)).mono ?_
    rintro e wh47 ⟨rfl, hb⟩
    clear p0c0 p0c1 p0c2 p0c3 p1c0 p1c1 p1c2 p1c3 bWc0 bWc1 bWc2 bWc3 bx0c0 bx0c1 bx0c2 bx0c3 bx1c0 bx1c1 bx1c2 bx1c3 bGc0 bGc1 bGc2 bGc3
    have BE48 := Lib.hid (below_tr BE46.out hb)
    have HBW48 := Lib.hid (below_tr HBW46.out hb)
    have HBM48 := Lib.hid (below_tr HBM.out hb)
    have KBp048 := Lib.hid (KBp046.out.below hb)
    have KBp148 := Lib.hid (KBp146.out.below hb)
    have KBbW48 := Lib.hid (KBbW46.out.below hb)
    have KBbx048 := Lib.hid (KBbx046.out.below hb)
    have KBbx148 := Lib.hid (KBbx146.out.below hb)
    have KBbG48 := Lib.hid (KBbG46.out.below hb)
    have ZZ48 : Hid (wm43.heap.size ≤ wh47.heap.size) := Lib.hid (by have := (hb).size; simpa using this)
    clear BE46 HBW46 HBM KBp046 KBp146 KBbW46 KBbx046 KBbx146 KBbG46
    obtain ⟨p0c0, p0c1, p0c2, p0c3⟩ := scene.three_cells KBp048.out
    obtain ⟨p1c0, p1c1, p1c2, p1c3⟩ := scene.three_cells KBp148.out
    obtain ⟨bWc0, bWc1, bWc2, bWc3⟩ := scene.three_cells KBbW48.out
    obtain ⟨bx0c0, bx0c1, bx0c2, bx0c3⟩ := scene.three_cells KBbx048.out
    obtain ⟨bx1c0, bx1c1, bx1c2, bx1c3⟩ := scene.three_cells KBbx148.out
    obtain ⟨bGc0, bGc1, bGc2, bGc3⟩ := scene.three_cells KBbG48.out
    clear hb
    have HA0 := Lib.hid (H0.out.below BE48.out)
    have HA1 := Lib.hid (H1.out.below BE48.out)
    obtain ⟨q, hq⟩ : ∃ q, q = (jsp.joinR x0 xss0 ws0 x1 xss1 ws1) := ⟨_, rfl⟩
    have HQ := Lib.hid hq
    clear hq
    have ZZaHh : Hid (w.heap.size + 1 + 1 ≤ wh47.heap.size) := Lib.hid KBp148.out.lt
    go_wp2_with fail
    refine inv.start (by kernel_rfl) (fun l a' Wh => ∃ (gh : Nat) (rh rht t0 t1 t2 t3 t4 t5 t6 t7 t8 t10 : Value), a' = { tmps := #[Value.agg #[Value.int IntKind.i64 x0, Value.slice va0 vn0 vc0, Value.slice wa0 wn0 wc0], Value.agg #[Value.int IntKind.i64 x1, Value.slice va1 vn1 vc1, Value.slice wa1 wn1 wc1], Value.pointer (some { block := w.heap.size, off := 0 }), Value.pointer (some { block := w.heap.size + 1, off := 0 }), Value.bool false, Value.int IntKind.i64 (scene.sz xss1 ws1 (scene.sz xss0 ws0 1048576)), Value.pointer (some { block := g, off := 0 }), Value.bool (jsp.joinR x0 xss0 ws0 x1 xss1 ws1).ok, Value.pointer (some { block := wc18.heap.size, off := 0 }), Value.pointer (some { block := wc21.heap.size, off := 0 }), Value.pointer (some { block := wf24.heap.size, off := 0 }), Value.bool (jsp.joinR x0 xss0 ws0 x1 xss1 ws1).ok, Value.int IntKind.i64 (1 + ↑(rws.before xss0 xss0.length) + ↑ws0.length + ↑(rws.before xss1 xss1.length) + ↑ws1.length), Value.int IntKind.i64 (1 + ↑(rws.before (jsp.joinR x0 xss0 ws0 x1 xss1 ws1).rows (jsp.joinR x0 xss0 ws0 x1 xss1 ws1).rows.length) + ↑(jsp.joinR x0 xss0 ws0 x1 xss1 ws1).ws.length), Value.int IntKind.i64 (1 + ↑(rws.before (jsp.joinR x0 xss0 ws0 x1 xss1 ws1).rows (jsp.joinR x0 xss0 ws0 x1 xss1 ws1).rows.length) + ↑(jsp.joinR x0 xss0 ws0 x1 xss1 ws1).ws.length), t8, t10, Value.agg #[Value.int IntKind.i64 x0, Value.slice va0 vn0 vc0, Value.slice wa0 wn0 wc0], Value.int IntKind.i64 1048576, Value.int IntKind.i64 (scene.sz xss0 ws0 1048576), Value.int IntKind.i64 (scene.sz xss0 ws0 1048576), Value.bool (decide (scene.sz xss0 ws0 1048576 < 0)), Value.agg #[Value.int IntKind.i64 x1, Value.slice va1 vn1 vc1, Value.slice wa1 wn1 wc1], Value.int IntKind.i64 (scene.sz xss0 ws0 1048576), Value.int IntKind.i64 (scene.sz xss1 ws1 (scene.sz xss0 ws0 1048576)), Value.int IntKind.i64 (scene.sz xss1 ws1 (scene.sz xss0 ws0 1048576)), Value.bool (decide (scene.sz xss1 ws1 (scene.sz xss0 ws0 1048576) < 0)), Value.tuple #[Value.agg #[Value.int IntKind.i64 (jsp.joinR x0 xss0 ws0 x1 xss1 ws1).x, Value.slice Wd Wm We, Value.slice Wa Wn Wc], Value.bool (jsp.joinR x0 xss0 ws0 x1 xss1 ws1).ok], Value.agg #[Value.int IntKind.i64 x0, Value.slice va0 vn0 vc0, Value.slice wa0 wn0 wc0], s1, Value.agg #[Value.int IntKind.i64 x1, Value.slice va1 vn1 vc1, Value.slice wa1 wn1 wc1], s3, Value.tuple #[Value.agg #[Value.int IntKind.i64 (jsp.joinR x0 xss0 ws0 x1 xss1 ws1).x, Value.slice Wd Wm We, Value.slice Wa Wn Wc], Value.bool (jsp.joinR x0 xss0 ws0 x1 xss1 ws1).ok], Value.agg #[Value.int IntKind.i64 (jsp.joinR x0 xss0 ws0 x1 xss1 ws1).x, Value.slice Wd Wm We, Value.slice Wa Wn Wc], Value.bool (jsp.joinR x0 xss0 ws0 x1 xss1 ws1).ok, Value.agg #[Value.int IntKind.i64 x0, Value.slice va0 vn0 vc0, Value.slice wa0 wn0 wc0], Value.agg #[Value.int IntKind.i64 x0, Value.slice x0d x0m x0e, Value.slice x0a x0n x0c], Value.agg #[Value.int IntKind.i64 x1, Value.slice va1 vn1 vc1, Value.slice wa1 wn1 wc1], Value.agg #[Value.int IntKind.i64 x1, Value.slice x1d x1m x1e, Value.slice x1a x1n x1c], Value.tuple #[Value.agg #[Value.int IntKind.i64 (jsp.joinR x0 xss0 ws0 x1 xss1 ws1).x, Value.slice Gd Gm Ge, Value.slice Ga Gn Gc], Value.bool (jsp.joinR x0 xss0 ws0 x1 xss1 ws1).ok], Value.agg #[Value.int IntKind.i64 x0, Value.slice x0d x0m x0e, Value.slice x0a x0n x0c], Value.agg #[Value.int IntKind.i64 x1, Value.slice x1d x1m x1e, Value.slice x1a x1n x1c], Value.tuple #[Value.agg #[Value.int IntKind.i64 (jsp.joinR x0 xss0 ws0 x1 xss1 ws1).x, Value.slice Gd Gm Ge, Value.slice Ga Gn Gc], Value.bool (jsp.joinR x0 xss0 ws0 x1 xss1 ws1).ok], Value.agg #[Value.int IntKind.i64 (jsp.joinR x0 xss0 ws0 x1 xss1 ws1).x, Value.slice Gd Gm Ge, Value.slice Ga Gn Gc], Value.bool (jsp.joinR x0 xss0 ws0 x1 xss1 ws1).ok, Value.agg #[Value.int IntKind.i64 (jsp.joinR x0 xss0 ws0 x1 xss1 ws1).x, Value.slice Gd Gm Ge, Value.slice Ga Gn Gc], Value.agg #[Value.int IntKind.i64 (jsp.joinR x0 xss0 ws0 x1 xss1 ws1).x, Value.slice Wd Wm We, Value.slice Wa Wn Wc], Value.bool true, Value.bool false, Value.bool false, Value.bool (jsp.joinR x0 xss0 ws0 x1 xss1 ws1).ok, Value.bool (jsp.joinR x0 xss0 ws0 x1 xss1 ws1).ok, Value.bool false, Value.bool false, Value.agg #[Value.int IntKind.i64 x0, Value.slice x0d x0m x0e, Value.slice x0a x0n x0c], Value.agg #[Value.int IntKind.i64 x0, Value.slice va0 vn0 vc0, Value.slice wa0 wn0 wc0], Value.agg #[Value.int IntKind.i64 x0, uq0, vq0], Value.bool true, Value.bool false, Value.agg #[Value.int IntKind.i64 x1, Value.slice x1d x1m x1e, Value.slice x1a x1n x1c], Value.agg #[Value.int IntKind.i64 x1, Value.slice va1 vn1 vc1, Value.slice wa1 wn1 wc1], Value.agg #[Value.int IntKind.i64 x1, uq1, vq1], Value.bool true, Value.bool false, Value.agg #[Value.int IntKind.i64 x0, Value.slice x0d x0m x0e, Value.slice x0a x0n x0c], Value.int IntKind.i64 1, Value.int IntKind.i64 (1 + ↑(rws.before xss0 xss0.length) + ↑ws0.length), Value.agg #[Value.int IntKind.i64 x1, Value.slice x1d x1m x1e, Value.slice x1a x1n x1c], Value.int IntKind.i64 (1 + ↑(rws.before xss0 xss0.length) + ↑ws0.length), Value.int IntKind.i64 (1 + ↑(rws.before xss0 xss0.length) + ↑ws0.length + ↑(rws.before xss1 xss1.length) + ↑ws1.length), Value.int IntKind.i64 (1 + ↑(rws.before xss0 xss0.length) + ↑ws0.length + ↑(rws.before xss1 xss1.length) + ↑ws1.length), Value.bool false, Value.bool false, Value.agg #[Value.int IntKind.i64 (jsp.joinR x0 xss0 ws0 x1 xss1 ws1).x, Value.slice Gd Gm Ge, Value.slice Ga Gn Gc], Value.agg #[Value.int IntKind.i64 (jsp.joinR x0 xss0 ws0 x1 xss1 ws1).x, Value.slice Wd Wm We, Value.slice Wa Wn Wc], Value.bool true, Value.bool false, Value.bool false, Value.bool false, Value.bool (jsp.joinR x0 xss0 ws0 x1 xss1 ws1).ok, Value.bool (jsp.joinR x0 xss0 ws0 x1 xss1 ws1).ok, Value.bool false, Value.bool false, Value.agg #[Value.int IntKind.i64 (jsp.joinR x0 xss0 ws0 x1 xss1 ws1).x, Value.slice Gd Gm Ge, Value.slice Ga Gn Gc], Value.int IntKind.i64 1, Value.int IntKind.i64 (1 + ↑(rws.before (jsp.joinR x0 xss0 ws0 x1 xss1 ws1).rows (jsp.joinR x0 xss0 ws0 x1 xss1 ws1).rows.length) + ↑(jsp.joinR x0 xss0 ws0 x1 xss1 ws1).ws.length), Value.agg #[Value.int IntKind.i64 (jsp.joinR x0 xss0 ws0 x1 xss1 ws1).x, Value.slice Gd Gm Ge, Value.slice Ga Gn Gc], Value.int IntKind.i64 1, Value.int IntKind.i64 (1 + ↑(rws.before (jsp.joinR x0 xss0 ws0 x1 xss1 ws1).rows (jsp.joinR x0 xss0 ws0 x1 xss1 ws1).rows.length) + ↑(jsp.joinR x0 xss0 ws0 x1 xss1 ws1).ws.length), Value.int IntKind.i64 (1 + ↑(rws.before (jsp.joinR x0 xss0 ws0 x1 xss1 ws1).rows (jsp.joinR x0 xss0 ws0 x1 xss1 ws1).rows.length) + ↑(jsp.joinR x0 xss0 ws0 x1 xss1 ws1).ws.length), Value.bool (decide (1 + ↑(rws.before (jsp.joinR x0 xss0 ws0 x1 xss1 ws1).rows (jsp.joinR x0 xss0 ws0 x1 xss1 ws1).rows.length) + ↑(jsp.joinR x0 xss0 ws0 x1 xss1 ws1).ws.length < 0)), Value.int IntKind.i64 (1 + ↑(rws.before (jsp.joinR x0 xss0 ws0 x1 xss1 ws1).rows (jsp.joinR x0 xss0 ws0 x1 xss1 ws1).rows.length) + ↑(jsp.joinR x0 xss0 ws0 x1 xss1 ws1).ws.length), Value.int IntKind.i64 (1 + ↑(rws.before (jsp.joinR x0 xss0 ws0 x1 xss1 ws1).rows (jsp.joinR x0 xss0 ws0 x1 xss1 ws1).rows.length) + ↑(jsp.joinR x0 xss0 ws0 x1 xss1 ws1).ws.length), Value.bool false, t5, t0, t1, t2, t3, t4, t6, t7, undef, undef, undef, undef, undef, undef, undef, undef, undef, undef, undef, undef, undef, undef, undef, undef, undef], defers := [] } ∧ l.size = 11 ∧ JJ wh47 x0 xss0 ws0 x1 xss1 ws1 (.agg #[.int .i64 x0, .slice va0 vn0 vc0, .slice wa0 wn0 wc0]) (.agg #[.int .i64 x1, .slice va1 vn1 vc1, .slice wa1 wn1 wc1]) q (fun k => l.getD k false) gh rh rht t0 t1 t2 t3 t4 t5 t6 t7 t8 t10 Wh) ?_ ?_ ?_
    · refine ⟨0, undef, undef, _, _, _, _, _, _, _, _, _, _, rfl, by simp, ?_⟩
      exact ⟨fun h => by simp at h, fun h => by simp at h, fun h => by simp at h, fun h => by simp at h, fun h => by simp at h, fun h => by simp at h, fun h => by simp at h, fun h => by simp at h, fun h => by simp at h, fun h => by simp at h, fun h => by simp at h, fun h => by simp at h, fun h => by simp at h, fun h => by simp at h, fun h => by simp at h, fun h => by simp at h, fun h => by simp at h, below_dr (Below.refl _ _)⟩
    · rintro l a' Wh i ⟨gh, rh, rht, t0, t1, t2, t3, t4, t5, t6, t7, t8, t10, rfl, hsz, h⟩ hi
      have hlt : i < 11 := (inv.ready_lt hi).1
      obtain rfl | rfl | rfl | rfl | rfl | rfl | rfl | rfl | rfl | rfl | rfl : i = 0 ∨ i = 1 ∨ i = 2 ∨ i = 3 ∨ i = 4 ∨ i = 5 ∨ i = 6 ∨ i = 7 ∨ i = 8 ∨ i = 9 ∨ i = 10 := by omega
      · obtain ⟨hun, o, ho, hall⟩ := mem_ready.1 hi
        obtain rfl : _ = o := Option.some.inj ho
        have hoff : l.getD 0 false = false := inv.off l 0 hun
        have hup := inv.upd_eq l 0 hun
        obtain ⟨c0, c1, c2, c3⟩ := scene.three_cells (KBp048.out.below h.fb)
        refine wpOp_step rfl (fun K' hK => ?_)
        have HK := Lib.hid hK
        clear hK hall ho
        go_simp
        refine HK.out _ _ ⟨gh, rh, rht, _, _, _, _, _, _, _, _, _, _, rfl, by simp [hsz], ?_⟩
        rw [hup]
        exact ⟨fun _ => rfl, h.f1, h.f2, h.f3, h.f4, h.f5, h.f6, h.f7, h.f8, h.f10, h.d4x1, h.d4x3, h.d5x4, h.d6x5, h.d7x5, h.d9x8, h.d9x4, h.fb⟩
      · obtain ⟨hun, o, ho, hall⟩ := mem_ready.1 hi
        obtain rfl : _ = o := Option.some.inj ho
        have hoff : l.getD 1 false = false := inv.off l 1 hun
        have hup := inv.upd_eq l 1 hun
        have d0 : l.getD 0 false = true := hall ⟨0, .data⟩ (by simp) (by decide)
        obtain rfl := h.f0 d0
        refine wpOp_step rfl (fun K' hK => ?_)
        have HK := Lib.hid hK
        clear hK hall ho
        go_simp
        (go_at_call 28; (with_reducible refine (scene.to_any x0 _ xss0 _ ws0 _ (HA0.out.below h.fb) hn0 hm0).mono ?_); rintro e Wh' ⟨v, u, rfl, hu, hb⟩)
        try go_simp
        refine HK.out _ _ ⟨gh, rh, rht, _, _, _, _, _, _, _, _, _, _, rfl, by simp [hsz], ?_⟩
        rw [hup]
        exact ⟨h.f0, fun _ _ => ⟨u, v, rfl, hu.view⟩, h.f2, fun h3 h4 => (h.f3 h3 h4).imp fun _ k => k.imp fun _ k => ⟨k.1, k.2.below hb⟩, fun h4 => no (h.d4x1 h4) hoff, h.f5, h.f6, h.f7, fun h8 => ⟨(h.f8 h8).1, (h.f8 h8).2.1, (h.f8 h8).2.2.below hb⟩, h.f10, fun _ => rfl, h.d4x3, h.d5x4, h.d6x5, h.d7x5, h.d9x8, h.d9x4, below_tr h.fb hb⟩
      · obtain ⟨hun, o, ho, hall⟩ := mem_ready.1 hi
        obtain rfl : _ = o := Option.some.inj ho
        have hoff : l.getD 2 false = false := inv.off l 2 hun
        have hup := inv.upd_eq l 2 hun
        obtain ⟨c0, c1, c2, c3⟩ := scene.three_cells (KBp148.out.below h.fb)
        refine wpOp_step rfl (fun K' hK => ?_)
        have HK := Lib.hid hK
        clear hK hall ho
        go_simp
        refine HK.out _ _ ⟨gh, rh, rht, _, _, _, _, _, _, _, _, _, _, rfl, by simp [hsz], ?_⟩
        rw [hup]
        exact ⟨h.f0, h.f1, fun _ => rfl, h.f3, h.f4, h.f5, h.f6, h.f7, h.f8, h.f10, h.d4x1, h.d4x3, h.d5x4, h.d6x5, h.d7x5, h.d9x8, h.d9x4, h.fb⟩
      · obtain ⟨hun, o, ho, hall⟩ := mem_ready.1 hi
        obtain rfl : _ = o := Option.some.inj ho
        have hoff : l.getD 3 false = false := inv.off l 3 hun
        have hup := inv.upd_eq l 3 hun
        have d2 : l.getD 2 false = true := hall ⟨2, .data⟩ (by simp) (by decide)
        obtain rfl := h.f2 d2
        refine wpOp_step rfl (fun K' hK => ?_)
        have HK := Lib.hid hK
        clear hK hall ho
        go_simp
        (go_at_call 28; (with_reducible refine (scene.to_any x1 _ xss1 _ ws1 _ (HA1.out.below h.fb) hn1 hm1).mono ?_); rintro e Wh' ⟨v, u, rfl, hu, hb⟩)
        try go_simp
        refine HK.out _ _ ⟨gh, rh, rht, _, _, _, _, _, _, _, _, _, _, rfl, by simp [hsz], ?_⟩
        rw [hup]
        exact ⟨h.f0, fun h3 h4 => (h.f1 h3 h4).imp fun _ k => k.imp fun _ k => ⟨k.1, k.2.below hb⟩, h.f2, fun _ _ => ⟨u, v, rfl, hu.view⟩, fun h4 => no (h.d4x3 h4) hoff, h.f5, h.f6, h.f7, fun h8 => ⟨(h.f8 h8).1, (h.f8 h8).2.1, (h.f8 h8).2.2.below hb⟩, h.f10, h.d4x1, fun _ => rfl, h.d5x4, h.d6x5, h.d7x5, h.d9x8, h.d9x4, below_tr h.fb hb⟩
      · obtain ⟨hun, o, ho, hall⟩ := mem_ready.1 hi
        obtain rfl : _ = o := Option.some.inj ho
        have hoff : l.getD 4 false = false := inv.off l 4 hun
        have hup := inv.upd_eq l 4 hun
        have d1 : l.getD 1 false = true := hall ⟨1, .data⟩ (by simp) (by decide)
        have d3 : l.getD 3 false = true := hall ⟨3, .data⟩ (by simp) (by decide)
        obtain ⟨u0, v0, rfl, hu0⟩ := h.f1 d1 hoff
        obtain ⟨u1, v1, rfl, hu1⟩ := h.f3 d3 hoff
        refine wpOp_step rfl (fun K' hK => ?_)
        have HK := Lib.hid hK
        clear hK hall ho
        go_simp
        (go_at_call 29; (with_reducible refine (jsp.impl_any x0 _ xss0 _ ws0 x1 _ xss1 _ ws1 _ hu0 hu1 hm0 hm1).mono ?_); rintro e Wh' ⟨t', rh', rfl, hr, hb⟩)
        try go_simp
        rw [← HQ.out] at hr
        refine HK.out _ _ ⟨gh, rh', t', _, _, _, _, _, _, _, _, _, _, rfl, by simp [hsz], ?_⟩
        rw [hup]
        have e9 : l.getD 9 false = false := off_of h.d9x4 hoff
        have k8 : l.getD 8 false = true → Blk Wh' gh 43 (cel (l.getD 9 false) q rh' t') := fun h8 => by (have k := (h.f8 h8).2.2.below hb); (rw [cel_off e9] at k); (rw [cel_off e9]); (exact k)
        exact ⟨h.f0, fun _ h4 => no (b := true) rfl h4, h.f2, fun _ h4 => no (b := true) rfl h4, fun _ => ⟨by rw [HQ.out], hr.view, fun h8 Wh'' hw => (hr.wrote hw (fun p hp => .inl (by have h' := (h.f8 h8).2.2.lt; have e1 : p.block = gh := hp; show p.block < _; omega))).view⟩, fun h5 => no (h.d5x4 h5) hoff, fun h6 => no (h.d5x4 (h.d6x5 h6)) hoff, h.f7, fun h8 => ⟨(h.f8 h8).1, (h.f8 h8).2.1, k8 h8⟩, h.f10, fun _ => d1, fun _ => d3, fun _ => rfl, h.d6x5, h.d7x5, h.d9x8, fun _ => rfl, below_tr h.fb hb⟩
      · obtain ⟨hun, o, ho, hall⟩ := mem_ready.1 hi
        obtain rfl : _ = o := Option.some.inj ho
        have hoff : l.getD 5 false = false := inv.off l 5 hun
        have hup := inv.upd_eq l 5 hun
        have d4 : l.getD 4 false = true := hall ⟨4, .data⟩ (by simp) (by decide)
        obtain rfl := (h.f4 d4).1
        refine wpOp_step rfl (fun K' hK => ?_)
        have HK := Lib.hid hK
        clear hK hall ho
        go_simp
        refine HK.out _ _ ⟨gh, rh, rht, _, _, _, _, _, _, _, _, _, _, rfl, by simp [hsz], ?_⟩
        rw [hup]
        exact ⟨h.f0, h.f1, h.f2, h.f3, h.f4, fun _ => rfl, h.f6, h.f7, h.f8, h.f10, h.d4x1, h.d4x3, fun _ => d4, fun _ => rfl, fun _ => rfl, h.d9x8, h.d9x4, h.fb⟩
      · obtain ⟨hun, o, ho, hall⟩ := mem_ready.1 hi
        obtain rfl : _ = o := Option.some.inj ho
        have hoff : l.getD 6 false = false := inv.off l 6 hun
        have hup := inv.upd_eq l 6 hun
        have d5 : l.getD 5 false = true := hall ⟨5, .data⟩ (by simp) (by decide)
        obtain rfl := h.f5 d5
        refine wpOp_step rfl (fun K' hK => ?_)
        have HK := Lib.hid hK
        clear hK hall ho
        go_simp
        refine HK.out _ _ ⟨gh, rh, rht, _, _, _, _, _, _, _, _, _, _, rfl, by simp [hsz], ?_⟩
        rw [hup]
        exact ⟨h.f0, h.f1, h.f2, h.f3, h.f4, h.f5, fun _ => rfl, h.f7, h.f8, h.f10, h.d4x1, h.d4x3, h.d5x4, fun _ => d5, h.d7x5, h.d9x8, h.d9x4, h.fb⟩
      · obtain ⟨hun, o, ho, hall⟩ := mem_ready.1 hi
        obtain rfl : _ = o := Option.some.inj ho
        have hoff : l.getD 7 false = false := inv.off l 7 hun
        have hup := inv.upd_eq l 7 hun
        have d5 : l.getD 5 false = true := hall ⟨5, .data⟩ (by simp) (by decide)
        obtain rfl := h.f5 d5
        refine wpOp_step rfl (fun K' hK => ?_)
        have HK := Lib.hid hK
        clear hK hall ho
        go_simp
        refine HK.out _ _ ⟨gh, rh, rht, _, _, _, _, _, _, _, _, _, _, rfl, by simp [hsz], ?_⟩
        rw [hup]
        exact ⟨h.f0, h.f1, h.f2, h.f3, h.f4, h.f5, h.f6, fun _ => rfl, h.f8, h.f10, h.d4x1, h.d4x3, h.d5x4, h.d6x5, fun _ => d5, h.d9x8, h.d9x4, h.fb⟩
      · obtain ⟨hun, o, ho, hall⟩ := mem_ready.1 hi
        obtain rfl : _ = o := Option.some.inj ho
        have hoff : l.getD 8 false = false := inv.off l 8 hun
        have hup := inv.upd_eq l 8 hun
        refine wpOp_step rfl (fun K' hK => ?_)
        have HK := Lib.hid hK
        clear hK hall ho
        go_simp
        refine HK.out _ (Wh.alloc (.cells #[.int .i64 0, .slice none 0 0, .slice none 0 0] 43)) ⟨Wh.heap.size, rh, rht, _, _, _, _, _, _, _, _, _, _, rfl, by simp [hsz], ?_⟩
        rw [hup]
        have e9 : l.getD 9 false = false := off_of h.d9x8 hoff
        have al := (below_al (Below.refl _ Wh) (.cells #[.int .i64 0, .slice none 0 0, .slice none 0 0] 43))
        have k8 : Blk (Wh.alloc (.cells #[.int .i64 0, .slice none 0 0, .slice none 0 0] 43)) Wh.heap.size 43 (cel (l.getD 9 false) q rh rht) := by rw [cel_off e9]; exact Blk.new Wh _ _
        exact ⟨h.f0, fun h1 h4 => (h.f1 h1 h4).imp fun _ k => k.imp fun _ k => ⟨k.1, k.2.below al⟩, h.f2, fun h1 h4 => (h.f3 h1 h4).imp fun _ k => k.imp fun _ k => ⟨k.1, k.2.below al⟩, fun h4 => ⟨(h.f4 h4).1, (h.f4 h4).2.1.below al, fun _ Wh'' hw => (h.f4 h4).2.1.below (al.trans (hw.below (B := Wh.heap.size) (fun p hp => Nat.le_of_eq hp.symm)))⟩, h.f5, h.f6, h.f7, fun _ => ⟨rfl, h.fb.size, k8⟩, h.f10, h.d4x1, h.d4x3, h.d5x4, h.d6x5, h.d7x5, fun _ => rfl, h.d9x4, below_tr h.fb al⟩
      · obtain ⟨hun, o, ho, hall⟩ := mem_ready.1 hi
        obtain rfl : _ = o := Option.some.inj ho
        have hoff : l.getD 9 false = false := inv.off l 9 hun
        have hup := inv.upd_eq l 9 hun
        have d4 : l.getD 4 false = true := hall ⟨4, .chain⟩ (by simp) (by decide)
        have d6 : l.getD 6 false = true := hall ⟨6, .data⟩ (by simp) (by decide)
        have d8 : l.getD 8 false = true := hall ⟨8, .data⟩ (by simp) (by decide)
        obtain ⟨ta, tn, tc, ra, rn, rc, rfl, rfl⟩ := (h.f4 d4).2.1.shape
        obtain rfl := h.f6 d6
        obtain ⟨e6, hg, hk⟩ := h.f8 d8
        subst e6
        have hk : Blk Wh gh 43 (cel (l.getD 9 false) q (.slice ra rn rc) (.slice ta tn tc)) := hk
        rw [cel_off hoff] at hk
        unfold zer at hk
        obtain ⟨c0, c1, c2, c3⟩ := scene.three_cells hk
        have rf : ∀ k, Wh.frozen? ⟨gh, k, none⟩ = false := fun k => Joins.unfrozen_of_block hk k
        refine wpOp_step rfl (fun K' hK => ?_)
        have HK := Lib.hid hK
        clear hK hall ho
        go_simp
        refine HK.out _ (fle.set3 Wh gh (.int .i64 q.x) (.slice ra rn rc) (.slice ta tn tc)) ⟨gh, (.slice ra rn rc), (.slice ta tn tc), _, _, _, _, _, _, _, _, _, _, rfl, by simp [hsz], ?_⟩
        rw [hup]
        exact ⟨h.f0, fun _ h4 => no d4 h4, h.f2, fun _ h4 => no d4 h4, fun _ => ⟨(h.f4 d4).1, (h.f4 d4).2.2 d8 _ (fle.set3_wrote Wh gh (.int .i64 q.x) (.slice ra rn rc) (.slice ta tn tc)), fun _ Wh'' hw => (h.f4 d4).2.2 d8 _ ((fle.set3_wrote Wh gh (.int .i64 q.x) (.slice ra rn rc) (.slice ta tn tc)).trans hw)⟩, h.f5, h.f6, h.f7, fun _ => ⟨rfl, hg, fle.set3_same _ _ _ hk⟩, h.f10, h.d4x1, h.d4x3, h.d5x4, h.d6x5, h.d7x5, fun _ => d8, fun _ => d4, fle.set3_below _ _ _ hg h.fb⟩
      · obtain ⟨hun, o, ho, hall⟩ := mem_ready.1 hi
        obtain rfl : _ = o := Option.some.inj ho
        have hoff : l.getD 10 false = false := inv.off l 10 hun
        have hup := inv.upd_eq l 10 hun
        have d7 : l.getD 7 false = true := hall ⟨7, .data⟩ (by simp) (by decide)
        obtain rfl := h.f7 d7
        refine wpOp_step rfl (fun K' hK => ?_)
        have HK := Lib.hid hK
        clear hK hall ho
        go_simp
        refine HK.out _ _ ⟨gh, rh, rht, _, _, _, _, _, _, _, _, _, _, rfl, by simp [hsz], ?_⟩
        rw [hup]
        exact ⟨h.f0, h.f1, h.f2, h.f3, h.f4, h.f5, h.f6, h.f7, h.f8, fun _ => rfl, h.d4x1, h.d4x3, h.d5x4, h.d6x5, h.d7x5, h.d9x8, h.d9x4, h.fb⟩
    · rintro l a' Wh ⟨gh, rh, rht, t0, t1, t2, t3, t4, t5, t6, t7, t8, t10, rfl, hsz, h⟩ hr
      have hup : ∀ i, i < 11 → l.getD i false = true := inv.all_upm (by kernel_rfl) hsz hr
      obtain rfl := h.f0 (hup 0 (by omega))
      obtain rfl := h.f2 (hup 2 (by omega))
      obtain rfl := h.f5 (hup 5 (by omega))
      obtain rfl := h.f6 (hup 6 (by omega))
      obtain rfl := h.f7 (hup 7 (by omega))
      obtain rfl := h.f10 (hup 10 (by omega))
      obtain ⟨e32, huW, _⟩ := h.f4 (hup 4 (by omega))
      subst e32
      obtain ⟨e6, hgb, hk⟩ := h.f8 (hup 8 (by omega))
      subst e6
      have hk : Blk Wh gh 43 (cel (l.getD 9 false) q rh rht) := hk
      rw [cel_on (hup 9 (by omega))] at hk
      have hbt := h.fb
      clear h hup hr hsz HA0 HA1
      obtain ⟨Hha, Hhn, Hhc, Hhd, Hhm, Hhe, rfl, rfl⟩ := huW.shape
      obtain rfl := HQ.out
      clear HQ
      clear p0c0 p0c1 p0c2 p0c3 p1c0 p1c1 p1c2 p1c3 bWc0 bWc1 bWc2 bWc3 bx0c0 bx0c1 bx0c2 bx0c3 bx1c0 bx1c1 bx1c2 bx1c3 bGc0 bGc1 bGc2 bGc3
      have BE49 := Lib.hid (below_tr BE48.out hbt)
      have HBW49 := Lib.hid (below_tr HBW48.out hbt)
      have HBM49 := Lib.hid (below_tr HBM48.out hbt)
      have KBp049 := Lib.hid (KBp048.out.below hbt)
      have KBp149 := Lib.hid (KBp148.out.below hbt)
      have KBbW49 := Lib.hid (KBbW48.out.below hbt)
      have KBbx049 := Lib.hid (KBbx048.out.below hbt)
      have KBbx149 := Lib.hid (KBbx148.out.below hbt)
      have KBbG49 := Lib.hid (KBbG48.out.below hbt)
      have ZZ49 : Hid (wh47.heap.size ≤ Wh.heap.size) := Lib.hid (by have := (hbt).size; simpa using this)
      clear BE48 HBW48 HBM48 KBp048 KBp148 KBbW48 KBbx048 KBbx148 KBbG48
      obtain ⟨p0c0, p0c1, p0c2, p0c3⟩ := scene.three_cells KBp049.out
      obtain ⟨p1c0, p1c1, p1c2, p1c3⟩ := scene.three_cells KBp149.out
      obtain ⟨bWc0, bWc1, bWc2, bWc3⟩ := scene.three_cells KBbW49.out
      obtain ⟨bx0c0, bx0c1, bx0c2, bx0c3⟩ := scene.three_cells KBbx049.out
      obtain ⟨bx1c0, bx1c1, bx1c2, bx1c3⟩ := scene.three_cells KBbx149.out
      obtain ⟨bGc0, bGc1, bGc2, bGc3⟩ := scene.three_cells KBbG49.out
      clear hbt hgb
      have VWHh := Lib.hid huW
      have HBHh := Lib.hid (Below.refl Wh.heap.size Wh)
      clear huW
      have ZZgHh : Hid (gh + 1 ≤ Wh.heap.size) := Lib.hid hk.lt
      have KBbHh0 := Lib.hid hk
      clear hk
      obtain ⟨bHhc0, bHhc1, bHhc2, bHhc3⟩ := scene.three_cells KBbHh0.out
      go_wp2_with fail
      refine (scene.eq_same ((jsp.joinR x0 xss0 ws0 x1 xss1 ws1).x) _ _ ((jsp.joinR x0 xss0 ws0 x1 xss1 ws1).rows) _ _ ((jsp.joinR x0 xss0 ws0 x1 xss1 ws1).ws) _ (VWHh.out.below HBHh.out) (VWW.out.below HBW49.out) (jsp.len_join (x0 := x0) (xss0 := xss0) (ws0 := ws0) (x1 := x1) (xss1 := xss1) (ws1 := ws1)) (jsp.tot_join (x0 := x0) (xss0 := xss0) (ws0 := ws0) (x1 := x1) (xss1 := xss1) (ws1 := ws1))).mono ?_
      rintro e we50 ⟨rfl, hb⟩
      clear p0c0 p0c1 p0c2 p0c3 p1c0 p1c1 p1c2 p1c3 bWc0 bWc1 bWc2 bWc3 bx0c0 bx0c1 bx0c2 bx0c3 bx1c0 bx1c1 bx1c2 bx1c3 bGc0 bGc1 bGc2 bGc3 bHhc0 bHhc1 bHhc2 bHhc3
      have BE51 := Lib.hid (below_tr BE49.out hb)
      have HBW51 := Lib.hid (below_tr HBW49.out hb)
      have HBM51 := Lib.hid (below_tr HBM49.out hb)
      have HBHh51 := Lib.hid (below_tr HBHh.out hb)
      have KBp051 := Lib.hid (KBp049.out.below hb)
      have KBp151 := Lib.hid (KBp149.out.below hb)
      have KBbW51 := Lib.hid (KBbW49.out.below hb)
      have KBbx051 := Lib.hid (KBbx049.out.below hb)
      have KBbx151 := Lib.hid (KBbx149.out.below hb)
      have KBbG51 := Lib.hid (KBbG49.out.below hb)
      have KBbHh51 := Lib.hid (KBbHh0.out.below hb)
      have ZZ51 : Hid (Wh.heap.size ≤ we50.heap.size) := Lib.hid (by have := (hb).size; simpa using this)
      clear BE49 HBW49 HBM49 HBHh KBp049 KBp149 KBbW49 KBbx049 KBbx149 KBbG49 KBbHh0
      obtain ⟨p0c0, p0c1, p0c2, p0c3⟩ := scene.three_cells KBp051.out
      obtain ⟨p1c0, p1c1, p1c2, p1c3⟩ := scene.three_cells KBp151.out
      obtain ⟨bWc0, bWc1, bWc2, bWc3⟩ := scene.three_cells KBbW51.out
      obtain ⟨bx0c0, bx0c1, bx0c2, bx0c3⟩ := scene.three_cells KBbx051.out
      obtain ⟨bx1c0, bx1c1, bx1c2, bx1c3⟩ := scene.three_cells KBbx151.out
      obtain ⟨bGc0, bGc1, bGc2, bGc3⟩ := scene.three_cells KBbG51.out
      obtain ⟨bHhc0, bHhc1, bHhc2, bHhc3⟩ := scene.three_cells KBbHh51.out
      clear hb
      go_wp2_with fail
      refine (scene.held_any ((jsp.joinR x0 xss0 ws0 x1 xss1 ws1).x) _ ((jsp.joinR x0 xss0 ws0 x1 xss1 ws1).rows) _ ((jsp.joinR x0 xss0 ws0 x1 xss1 ws1).ws).length 1 _ (VWM.out.below HBM51.out) (jsp.len_join (x0 := x0) (xss0 := xss0) (ws0 := ws0) (x1 := x1) (xss1 := xss1) (ws1 := ws1)) (jsp.tot_join (x0 := x0) (xss0 := xss0) (ws0 := ws0) (x1 := x1) (xss1 := xss1) (ws1 := ws1)) (by omega) (by omega)).mono ?_
      rintro e wh52 ⟨rfl, hb⟩
      clear p0c0 p0c1 p0c2 p0c3 p1c0 p1c1 p1c2 p1c3 bWc0 bWc1 bWc2 bWc3 bx0c0 bx0c1 bx0c2 bx0c3 bx1c0 bx1c1 bx1c2 bx1c3 bGc0 bGc1 bGc2 bGc3 bHhc0 bHhc1 bHhc2 bHhc3
      have BE53 := Lib.hid (below_tr BE51.out hb)
      have HBW53 := Lib.hid (below_tr HBW51.out hb)
      have HBM53 := Lib.hid (below_tr HBM51.out hb)
      have HBHh53 := Lib.hid (below_tr HBHh51.out hb)
      have KBp053 := Lib.hid (KBp051.out.below hb)
      have KBp153 := Lib.hid (KBp151.out.below hb)
      have KBbW53 := Lib.hid (KBbW51.out.below hb)
      have KBbx053 := Lib.hid (KBbx051.out.below hb)
      have KBbx153 := Lib.hid (KBbx151.out.below hb)
      have KBbG53 := Lib.hid (KBbG51.out.below hb)
      have KBbHh53 := Lib.hid (KBbHh51.out.below hb)
      have ZZ53 : Hid (we50.heap.size ≤ wh52.heap.size) := Lib.hid (by have := (hb).size; simpa using this)
      clear BE51 HBW51 HBM51 HBHh51 KBp051 KBp151 KBbW51 KBbx051 KBbx151 KBbG51 KBbHh51
      obtain ⟨p0c0, p0c1, p0c2, p0c3⟩ := scene.three_cells KBp053.out
      obtain ⟨p1c0, p1c1, p1c2, p1c3⟩ := scene.three_cells KBp153.out
      obtain ⟨bWc0, bWc1, bWc2, bWc3⟩ := scene.three_cells KBbW53.out
      obtain ⟨bx0c0, bx0c1, bx0c2, bx0c3⟩ := scene.three_cells KBbx053.out
      obtain ⟨bx1c0, bx1c1, bx1c2, bx1c3⟩ := scene.three_cells KBbx153.out
      obtain ⟨bGc0, bGc1, bGc2, bGc3⟩ := scene.three_cells KBbG53.out
      obtain ⟨bHhc0, bHhc1, bHhc2, bHhc3⟩ := scene.three_cells KBbHh53.out
      clear hb
      go_wp2_with fail
      go_ret
      exact ⟨rfl, BE53.out⟩

/-! ### the frame of the row -/
theorem own : ownKnob Try.prog.godebug = none := by kernel_rfl
theorem laidOut : laidOutB Try.prog = true := by kernel_rfl
set_option maxRecDepth 100000 in
theorem lifted (os : Os) (started : os.Started) (H : Type) (enc : TypeId × Value → H) :
    ReturnsInHanded {} Try.checked os 4 .any (Rows.fnExactJoinScenesSpec.pre6 enc Try.prog Try.f4 Rows.fnExactJoinScenesRow.domain false) (Rows.fnExactJoinScenesSpec.post enc Try.prog Try.f4 false true false false) := by
  refine returnsInHanded_of_change (C := Try.checked) own started (by kernel_rfl) Try.func4
    (ChangeSpec.witness6 (enc := enc) (C := Try.checked) false ⟨#[], #[.agg #[.int .i64 0, .slice none 0 0, .slice none 0 0], .agg #[.int .i64 0, .slice none 0 0, .slice none 0 0]], []⟩ 8 (by kernel_rfl) (by kernel_rfl) (by kernel_rfl) (by kernel_rfl)) ?_
  intro W base args ds gs before hval0 hW _ _
  have hval : ∀ (j : Nat) t v, Try.f4.params[j]? = some t → args[j]? = some v → Value.okWide Try.prog W .any base t v := hval0
  have hW' := hW
  obtain ⟨p, q, hA0, hV, rfl, hfz, hnd⟩ := hW
  have hA : DataW.TrodAll enc Try.prog W 0 (fun _ => true) true Try.f4.params.toList args.toList ds p := hA0
  rw [Try.params4] at hA hval
  obtain ⟨v0, vs0, d0, ds0, p0, q0, hargs, rfl, rfl, h0, r0⟩ := trodAll_cons hA
  obtain ⟨v1, vs1, d1, ds1, p1, q1, rfl, rfl, rfl, h1, r1⟩ := trodAll_cons r0
  obtain ⟨rfl, rfl, rfl⟩ := trodAll_nil r1
  obtain rfl : args = #[v0, v1] := by cases args; simp_all
  obtain ⟨rfl, rfl⟩ := trodVars_none hV
  have lt0 : ∀ x ∈ p0, x.block < W.heap.size := by obtain ⟨m, hm⟩ := h0; exact DataW.trod_lt m _ _ _ hm
  obtain ⟨x0, u0, xss0, wv0, ws0, rfl, g10, g20⟩ := opns.scene_of_trod Try.underlying41 (by kernel_rfl) (by kernel_rfl) Try.underlying3 Try.underlying22 Try.underlying39 Try.underlying39 Try.underlying3 (by kernel_rfl) (by kernel_rfl) (hval 0 41 v0 rfl rfl) h0
  have g0 : scene.GV W wv0 ws0 u0 xss0 := ⟨g10, g20⟩
  have lt1 : ∀ x ∈ p1, x.block < W.heap.size := by obtain ⟨m, hm⟩ := h1; exact DataW.trod_lt m _ _ _ hm
  obtain ⟨x1, u1, xss1, wv1, ws1, rfl, g11, g21⟩ := opns.scene_of_trod Try.underlying41 (by kernel_rfl) (by kernel_rfl) Try.underlying3 Try.underlying22 Try.underlying39 Try.underlying39 Try.underlying3 (by kernel_rfl) (by kernel_rfl) (hval 1 41 v1 rfl rfl) h1
  have g1 : scene.GV W wv1 ws1 u1 xss1 := ⟨g11, g21⟩
  clear hA0 hval0
  refine (walk x0 u0 xss0 wv0 ws0 x1 u1 xss1 wv1 ws1 W g0 g1).mono fun e W' ⟨he, bel⟩ => ?_
  subst he
  exact ⟨_, rfl, _, _, _, [], _, [], hW', trodAll_mk1 (shut_bool Try.underlying4 _), (trodAll_cons_mk (Below.trod laidOut (by kernel_rfl) (of_decide_eq_true (by kernel_rfl)) h0 bel lt0) (trodAll_cons_mk (Below.trod laidOut (by kernel_rfl) (of_decide_eq_true (by kernel_rfl)) h1 bel lt1) trodAll_mk0)), rfl, bel.frame _, fun h => by cases h⟩

theorem over : Rows.fnExactJoinScenesRow.holds Try.pinned (OpenSpec.ofChange Rows.fnExactJoinScenesSpec) :=
  OpenClaim.holds_of_wide 4 Try.f4 rfl rfl rfl rfl rfl rfl rfl ⟨rfl, rfl, rfl, rfl, rfl⟩ rfl rfl rfl rfl rfl (by kernel_rfl) Try.func4 (by kernel_rfl)
    (of_decide_eq_true (by kernel_rfl)) (by unfold Func.isWrapper; first | (rw [if_pos (by decide +kernel)]; kernel_rfl) | (rw [if_neg (by decide +kernel)]; exact ⟨rfl, rfl⟩))
    (fun os started H enc _ => lifted os started H enc)

theorem proved : Rows.FnExactJoinScenesSaid := over
#print axioms proved
end Go.Proofs.Ytiigfhigmdjooaa.lawJoinScenes
