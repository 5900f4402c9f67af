/- SumOf of the program. -/
import Derived.Test.YtimfnhejiiagmaaSom
import Derived.Test.YtimfnhejiiagmaaSfp
import Derived.Test.YtimfnhejiiagmaaWorthc
import Derived.Deep.RegionHeld3
namespace Go.Proofs.Ytimfnhejiiagmaa.sop
open Go.RowKit Go.Deep Go.Proofs.Ytimfnhejiiagmaa.base
open Go.Proofs.Ytimfnhejiiagmaa.val (okSizes okBox ret_b)
open Go.Proofs.Ytimfnhejiiagmaa.prt (two_cells)
open Go.Proofs.Ytimfnhejiiagmaa.qfo (okFour)
open Go.Proofs.Ytimfnhejiiagmaa.sfm (rows)
open Go.Proofs.Ytimfnhejiiagmaa.som

/-- a Box and two pairs in memory of the call's own -/
structure Box2 (w wr : World) (x y wh : Int) (v : Value) (a b c d : Int) : Prop where
  below : Below w.heap.size w wr
  box : Blk wr w.heap.size 29 #[.int .i64 x, .int .i64 y, .int .i64 wh, v]
  one : Blk wr (w.heap.size + 1) 26 #[.int .i64 a, .int .i64 b]
  two : Blk wr (w.heap.size + 1 + 1) 26 #[.int .i64 c, .int .i64 d]
theorem Box2.keep {w wr w' : World} {x y wh : Int} {v : Value} {a b c d : Int} (h : Box2 w wr x y wh v a b c d) (hb : Below wr.heap.size wr w') : Box2 w w' x y wh v a b c d := ⟨below_tr h.below hb, h.box.below hb, h.one.below hb, h.two.below hb⟩
theorem Box2.start (w : World) (x y wh : Int) (v : Value) (a b c d : Int) : Box2 w (((w.alloc (.cells #[.int .i64 x, .int .i64 y, .int .i64 wh, v] 29)).alloc (.cells #[.int .i64 a, .int .i64 b] 26)).alloc (.cells #[.int .i64 c, .int .i64 d] 26)) x y wh v a b c d :=
  ⟨below_al (below_al (below_al (Below.refl _ _) _) _) _, ((Blk.new _ _ _).alloc _).alloc _, by
    have := (Blk.new (w.alloc (.cells #[.int .i64 x, .int .i64 y, .int .i64 wh, v] 29)) 26 #[.int .i64 a, .int .i64 b]).alloc (.cells #[.int .i64 c, .int .i64 d] 26)
    simpa using this, by
    have := Blk.new ((w.alloc (.cells #[.int .i64 x, .int .i64 y, .int .i64 wh, v] 29)).alloc (.cells #[.int .i64 a, .int .i64 b] 26)) 26 #[.int .i64 c, .int .i64 d]
    simpa using this⟩
theorem held44 {w w' : World} {p0 p1 p2 p3 p4 p5 p6 p7 : Addr} {u0 u1 u2 u3 u4 u5 u6 u7 : Value} (h0 : w.cell? p0 = some u0) (h1 : w.cell? p1 = some u1) (h2 : w.cell? p2 = some u2) (h3 : w.cell? p3 = some u3) (h4 : w.cell? p4 = some u4) (h5 : w.cell? p5 = some u5) (h6 : w.cell? p6 = some u6) (h7 : w.cell? p7 = some u7) (hb : Below w.heap.size w w') :
    w'.cell? p0 = some u0 ∧ w'.cell? p1 = some u1 ∧ w'.cell? p2 = some u2 ∧ w'.cell? p3 = some u3 ∧ w'.cell? p4 = some u4 ∧ w'.cell? p5 = some u5 ∧ w'.cell? p6 = some u6 ∧ w'.cell? p7 = some u7 ∧ Below w.heap.size w w' :=
  ⟨below_cell hb _ _ h0, below_cell hb _ _ h1, below_cell hb _ _ h2, below_cell hb _ _ h3, below_cell hb _ _ h4, below_cell hb _ _ h5, below_cell hb _ _ h6, below_cell hb _ _ h7, hb⟩


set_option maxRecDepth 100000 in
set_option maxHeartbeats 4000000 in
theorem impl_any (x y wh : Int) (v : Value) (xss : List (List Int)) (a b c d m : Int) (w : World) (h : IRows w v xss) (hn : rws.total xss ≤ 1048576) :
    Calls Try.prog 137 #[.agg #[.int .i64 x, .int .i64 y, .int .i64 wh, v], .agg #[.int .i64 a, .int .i64 b], .agg #[.int .i64 c, .int .i64 d], .int .i64 m] w fun e w' =>
      e = .returned (.tuple #[.int .i64 (res x y wh xss a b c d m).1, .bool (res x y wh xss a b c d m).2]) ∧ Below w.heap.size w w' := by
  obtain ⟨va, vn, vc, rfl⟩ := h.shape
  have T0 := Lib.hid (Box2.start w x y wh (.slice va vn vc) a b c d)
  have HV := Lib.hid h
  obtain ⟨b0, b1, b2, b3, _⟩ := four_cells T0.out.box
  obtain ⟨c0, c1, _⟩ := two_cells T0.out.one
  obtain ⟨d0, d1, _⟩ := two_cells T0.out.two
  have HF := Lib.hid (sfp.impl_any x y a b c d m)
  clear h
  by_cases h4 : okFour x y a b c d m
  · rw [sfm.res_yes h4] at HF
    have HT : Hid (rws.total (rows a b c d m y.toNat (x.toNat * y.toNat)) ≤ 1048576) := Lib.hid (make.total_rowsOf _ _ (sfm.mul9 h4))
    have HW := Lib.hid (fun vf W (hf : IRows W vf (rows a b c d m y.toNat (x.toNat * y.toNat))) (hx : IRows W (.slice va vn vc) xss) => worth.impl_any x y wh vf (.slice va vn vc) (rows a b c d m y.toNat (x.toNat * y.toNat)) xss W hf hx HT.out hn)
    have HR : Hid (worth.res x y wh (rows a b c d m y.toNat (x.toNat * y.toNat)) xss = res x y wh xss a b c d m) := Lib.hid (by
      by_cases hb : okBox x y wh xss
      · rw [worth.res_yes ⟨hb, okFun_rows h4⟩, res_yes ⟨hb, h4⟩, sum_is ⟨hb, h4⟩]
      · rw [worth.res_no (fun g => hb g.1), res_no (fun g => hb g.1)])
    rw [← HR.out]
    generalize rows a b c d m y.toNat (x.toNat * y.toNat) = fss at *
    clear h4
    go_enter Try.func137, Try.ntmps137
    go_wp2_with fail
    refine (HF.out _).mono ?_
    rintro e w1 ⟨u1, rfl, hu, hb⟩
    have U1 := Lib.hid hu.rows
    obtain ⟨ua, un, uc, rfl⟩ := hu.rows.shape
    have T1 := Lib.hid (T0.out.keep hb)
    clear hu hb b0 b1 b2 b3 c0 c1 d0 d1 HF T0
    obtain ⟨b0, b1, b2, b3, _⟩ := four_cells T1.out.box
    go_wp2_with fail
    refine (HW.out _ _ U1.out (HV.out.below T1.out.below)).mono ?_
    rintro e w2 ⟨rfl, hb⟩
    have B2 := Lib.hid (below_tr T1.out.below hb)
    clear hb b0 b1 b2 b3 HW
    go_wp2_with fail
    go_ret2
    exact ⟨rfl, B2.out⟩
  · rw [sfm.res_no h4] at HF
    rw [res_no (fun g => h4 g.2)]
    clear h4
    go_enter Try.func137, Try.ntmps137
    go_wp2_with fail
    refine (HF.out _).mono ?_
    rintro e w1 ⟨u1, rfl, hu, hb⟩
    obtain ⟨ua, un, uc, rfl⟩ := hu.rows.shape
    have B1 := Lib.hid (below_tr T0.out.below hb)
    clear hu hb b0 b1 b2 b3 c0 c1 d0 d1 HF T0
    go_wp2_with fail
    go_ret2
    exact ⟨rfl, B1.out⟩

end Go.Proofs.Ytimfnhejiiagmaa.sop
