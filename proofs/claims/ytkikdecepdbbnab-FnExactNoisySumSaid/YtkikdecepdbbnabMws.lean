/- mixWithSum of the program; a Box mixed with an equal-sum box. -/
import Derived.Test.YtkikdecepdbbnabEqm
import Derived.Test.YtkikdecepdbbnabMixb
import Derived.Test.YtkikdecepdbbnabScaleb
namespace Go.Proofs.Ytkikdecepdbbnab.mws
open Go.RowKit Go.Deep Go.Proofs.Ytkikdecepdbbnab.base
open Go.Proofs.Ytkikdecepdbbnab.rws (total)
open Go.Proofs.Ytkikdecepdbbnab.val (okBox okSizes)

def sr (k : Nat) : List (List Int) := make.rowsOf (eqs.N k) 4
/-- the equal-sum box k, so many times -/
def sc (k : Nat) (s : Int) : List (List Int) := make.rowsOf (scale.N (sr k) s) 4
def M (xss : List (List Int)) (k : Nat) (s : Int) : List (List Int) := make.rowsOf (mix.N xss (sc k s)) 4
def all (wh s : Int) : Prop := 1 ≤ s ∧ wh + 2 * s ≤ 1000
open Classical in
noncomputable def res (wh : Int) (xss : List (List Int)) (k : Nat) (s : Int) : make.Res := if all wh s then ⟨2, 2, wh + 2 * s, M xss k s, true⟩ else make.Res.zero
theorem res_yes {wh : Int} {xss : List (List Int)} {k : Nat} {s : Int} (h : all wh s) : res wh xss k s = ⟨2, 2, wh + 2 * s, M xss k s, true⟩ := if_pos h
theorem res_no {wh : Int} {xss : List (List Int)} {k : Nat} {s : Int} (h : ¬ all wh s) : res wh xss k s = make.Res.zero := if_neg h
theorem sc_all {k : Nat} {s : Int} (h1 : 1 ≤ s) (h2 : 2 * s ≤ 1000) : scale.all 2 2 2 (sr k) s := ⟨eqm.ok k, h1, by omega, h2⟩
theorem sc_ok {k : Nat} {s : Int} (h1 : 1 ≤ s) (h2 : 2 * s ≤ 1000) : okBox 2 2 (2 * s) (sc k s) := scale.box_ok (X := 2) (Y := 2) (sc_all h1 h2)
theorem M_ok {wh : Int} {xss : List (List Int)} {k : Nat} {s : Int} (h : okBox 2 2 wh xss) (ha : all wh s) : okBox 2 2 (wh + 2 * s) (M xss k s) :=
  mix.box_ok (X := 2) (Y := 2) h (sc_ok ha.1 (by have := ha.2; have := h.2.1; omega)) ha.2


set_option maxHeartbeats 8000000 in
theorem impl_any (wh : Int) (v : Value) (xss : List (List Int)) (k : Nat) (s : Int) (w : World) (h : IRows w v xss) (hok : okBox 2 2 wh xss) (hn : total xss ≤ 1048576) (hk : k < 8) :
    Calls Try.prog 78 #[.agg #[.int .i64 2, .int .i64 2, .int .i64 wh, v], .int .i64 (k : Int), .int .i64 s] w fun e w' => ∃ r, e = .returned (.tuple #[.agg #[.int .i64 (res wh xss k s).x, .int .i64 (res wh xss k s).y, .int .i64 (res wh xss k s).wh, r], .bool (res wh xss k s).ok]) ∧ OwnRows w' w.heap.size w'.heap.size r (res wh xss k s).rows ∧ Below w.heap.size w w' := by
  obtain ⟨va, vn, vc, rfl⟩ := h.shape
  have H := Lib.hid h
  have B0 := Lib.hid (below_al (below_al (Below.refl w.heap.size w) (.cells #[.int .i64 2, .int .i64 2, .int .i64 wh, .slice va vn vc] 41)) (.cells #[.int .i64 0, .int .i64 0, .int .i64 0, .slice none 0 0] 41))
  have K0 := Lib.hid ((Blk.new w 41 #[.int .i64 2, .int .i64 2, .int .i64 wh, .slice va vn vc]).alloc (.cells #[.int .i64 0, .int .i64 0, .int .i64 0, .slice none 0 0] 41))
  have R0 : Hid (Blk ((w.alloc (.cells #[.int .i64 2, .int .i64 2, .int .i64 wh, .slice va vn vc] 41)).alloc (.cells #[.int .i64 0, .int .i64 0, .int .i64 0, .slice none 0 0] 41)) (w.heap.size + 1) 41 #[.int .i64 0, .int .i64 0, .int .i64 0, .slice none 0 0]) := Lib.hid (by
    have := Blk.new (w.alloc (.cells #[.int .i64 2, .int .i64 2, .int .i64 wh, .slice va vn vc] 41)) 41 #[.int .i64 0, .int .i64 0, .int .i64 0, .slice none 0 0]
    simpa using this)
  have HRW := Lib.hid (fun W => eqr.rows k hk W)
  have HSC := Lib.hid (fun (u : Value) (W : World) (hu : IRows W u (sr k)) => scale.impl_any 2 2 2 u (sr k) s W hu (make.total_rowsOf _ _ (by omega)))
  have HOK := Lib.hid hok
  have hwh := hok.2.1
  clear h hok hk
  by_cases h1 : 1 ≤ s ∧ 2 * s ≤ 1000
  · rw [scale.res_yes (sc_all h1.1 h1.2)] at HSC
    have HMX := Lib.hid (fun (u : Value) (W : World) (hv : IRows W (.slice va vn vc) xss) (hu : IRows W u (sc k s)) => mix.impl_any 2 2 wh (.slice va vn vc) xss 2 2 (2 * s) u (sc k s) W hv hu hn (make.total_rowsOf _ _ (by omega)))
    have HE : Hid (mix.res 2 2 wh xss 2 2 (2 * s) (sc k s) = res wh xss k s) := Lib.hid (by
      by_cases h3 : wh + 2 * s ≤ 1000
      · rw [res_yes ⟨h1.1, h3⟩, mix.res_yes ⟨⟨HOK.out, sc_ok h1.1 h1.2, rfl, rfl⟩, h3⟩]; rfl
      · rw [res_no (fun h => h3 h.2), mix.res_no (fun h => h3 h.2)])
    rw [HE.out] at HMX
    obtain ⟨h10, h11⟩ := h1
    go_enter Try.func78, Try.ntmps78
    go_wp2_with fail
    refine (HRW.out _).mono ?_
    rintro e w1 ⟨rfl, hb⟩
    have B1 := Lib.hid (below_tr B0.out hb)
    have K1 := Lib.hid (K0.out.below hb)
    have R1 := Lib.hid (R0.out.below hb)
    clear hb HRW B0 K0 R0
    go_wp2_with fail
    refine (four.boxof (eqs.N k) 2 _).mono ?_
    rintro e w2 ⟨u, rfl, hu, hb⟩
    obtain ⟨ua, ul, uc, rfl⟩ := hu.rows.shape
    have HU : Hid (IRows w2 (.slice ua ul uc) (sr k)) := Lib.hid hu.rows
    have B2 := Lib.hid (below_tr B1.out hb)
    have K2 := Lib.hid (K1.out.below hb)
    have R2 := Lib.hid (R1.out.below hb)
    clear hb hu B1 K1 R1
    go_wp2_with fail
    refine (HSC.out _ _ HU.out).mono ?_
    rintro e w3 ⟨q, rfl, hq, hb⟩
    obtain ⟨qa, ql, qc, rfl⟩ := hq.rows.shape
    have HQ : Hid (IRows w3 (.slice qa ql qc) (sc k s)) := Lib.hid hq.rows
    have B3 := Lib.hid (below_tr B2.out hb)
    have K3 := Lib.hid (K2.out.below hb)
    have R3 := Lib.hid (R2.out.below hb)
    obtain ⟨c0, c1, c2, c3, c4⟩ := four_cells (K3.out.alloc (.cells #[.int .i64 2, .int .i64 2, .int .i64 (2 * s), .slice qa ql qc] 41))
    clear hb hq B2 K2 R2 HSC HU
    go_wp2_with fail
    refine (HMX.out _ _ (H.out.below (below_al B3.out _)) (HQ.out.below (below_al (Below.refl _ _) _))).mono ?_
    rintro e w4 ⟨r, rfl, hr, hb⟩
    obtain ⟨ra, rl, rc, rfl⟩ := hr.rows.shape
    have HR := Lib.hid hr
    have hb2 := Lib.hid (below_tr (below_al (Below.refl w3.heap.size w3) (.cells #[.int .i64 2, .int .i64 2, .int .i64 (2 * s), .slice qa ql qc] 41)) hb)
    have B4 := Lib.hid (below_tr B3.out hb2.out)
    have R4 := Lib.hid (R3.out.below hb2.out)
    have hz := B3.out.size
    have hz1 := R3.out.lt
    obtain ⟨r0, r1, r2, r3, r4⟩ := four_cells R4.out
    have rf : ∀ k, w4.frozen? ⟨w.heap.size + 1, k, none⟩ = false := fun k => Joins.unfrozen_of_block R4.out k
    clear hb hr hb2 HMX HQ c0 c1 c2 c3 c4
    obtain ⟨z, hz0⟩ : ∃ z, z = res wh xss k s := ⟨_, rfl⟩
    rw [← hz0] at HR ⊢
    have HZ := Lib.hid hz0
    clear hz0 HE
    go_wp2_with fail
    refine bodyPost_ret (v := .tuple #[.agg #[.int .i64 z.x, .int .i64 z.y, .int .i64 z.wh, .slice ra rl rc], .bool z.ok]) (by simp [results, Try.results78, go_sem, r0, r1, r2, r3]) rfl ?_
    rw [← HZ.out]
    refine ⟨_, rfl, ?_, ?_⟩
    · refine (HR.out.wrote (S := fun p => p.block < w.heap.size + 1 + 1) ?_ (fun p hp => .inl (by simp; omega))).mono (by simp; omega) (by simp [World.setCell])
      repeat (first | (with_reducible exact Wrote.refl _ _) | (with_reducible refine Wrote.setCell ?_ (by simp) _))
    · repeat (first | (with_reducible exact B4.out) | (with_reducible refine Below.setCell ?_ (by simp) _))
  · rw [scale.res_no (fun h => h1 ⟨h.2.1, h.2.2.2⟩)] at HSC
    rw [res_no (fun h => h1 ⟨h.1, by have := h.2; omega⟩)]
    have zx : make.Res.zero.x = 0 := rfl
    have zy : make.Res.zero.y = 0 := rfl
    have zw : make.Res.zero.wh = 0 := rfl
    have zo : make.Res.zero.ok = false := rfl
    clear h1
    go_enter Try.func78, Try.ntmps78
    go_wp2_with fail
    refine (HRW.out _).mono ?_
    rintro e w1 ⟨rfl, hb⟩
    have B1 := Lib.hid (below_tr B0.out hb)
    have R1 := Lib.hid (R0.out.below hb)
    clear hb HRW B0 K0 R0
    go_wp2_with fail
    refine (four.boxof (eqs.N k) 2 _).mono ?_
    rintro e w2 ⟨u, rfl, hu, hb⟩
    obtain ⟨ua, ul, uc, rfl⟩ := hu.rows.shape
    have HU : Hid (IRows w2 (.slice ua ul uc) (sr k)) := Lib.hid hu.rows
    have B2 := Lib.hid (below_tr B1.out hb)
    have R2 := Lib.hid (R1.out.below hb)
    clear hb hu B1 R1
    go_wp2_with fail
    refine (HSC.out _ _ HU.out).mono ?_
    rintro e w3 ⟨q, rfl, hq, hb⟩
    obtain ⟨qa, ql, qc, rfl⟩ := hq.rows.shape
    have B3 := Lib.hid (below_al (below_tr B2.out hb) (.cells #[.int .i64 0, .int .i64 0, .int .i64 0, .slice qa ql qc] 41))
    have R3 := Lib.hid ((R2.out.below hb).alloc (.cells #[.int .i64 0, .int .i64 0, .int .i64 0, .slice qa ql qc] 41))
    obtain ⟨r0, r1, r2, r3, r4⟩ := four_cells R3.out
    have rf := fun k => Joins.unfrozen_of_block R3.out k
    clear hb hq B2 R2 HSC HU
    go_wp2_with fail
    refine bodyPost_ret (v := .tuple #[.agg #[.int .i64 0, .int .i64 0, .int .i64 0, .slice none 0 0], .bool false]) (by simp [results, Try.results78, go_sem, r0, r1, r2, r3]) rfl ⟨_, rfl, OwnRows.nil _ _ _, ?_⟩
    repeat (first | (with_reducible exact B3.out) | (with_reducible refine Below.setCell ?_ (by simp) _))


end Go.Proofs.Ytkikdecepdbbnab.mws
