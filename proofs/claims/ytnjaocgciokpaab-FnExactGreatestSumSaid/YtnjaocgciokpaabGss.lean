/- GreatestSum of the model. -/
import Derived.Test.YtnjaocgciokpaabGsg
namespace Go.Proofs.Ytnjaocgciokpaab.gss
open Go.RowKit Go.Deep Go.Proofs.Ytnjaocgciokpaab.base
open Go.Proofs.Ytnjaocgciokpaab.val (okSizes okBox boxB boxB_yes boxB_no ret_b)
open Go.Proofs.Ytnjaocgciokpaab.gsm
open Go.Proofs.Ytnjaocgciokpaab.gsi (res res_yes res_no big ret_ib)
open Go.Proofs.Ytnjaocgciokpaab.gsg (Is bst l3greatest)


set_option maxRecDepth 100000 in
set_option maxHeartbeats 4000000 in
theorem spec_any (x y wh : Int) (v : Value) (xss : List (List Int)) (w : World) (h : IRows w v xss) (hn : rws.total xss ≤ 1048576) :
    Calls Try.prog 28 #[.agg #[.int .i64 x, .int .i64 y, .int .i64 wh, v]] w fun e w' => e = .returned (.tuple #[.int .i64 (res x y wh xss).1, .bool (res x y wh xss).2]) ∧ Below w.heap.size w w' := by
  obtain ⟨va, vn, vc, rfl⟩ := h.shape
  have HV := Lib.hid h
  have B0 := Lib.hid (below_al (Below.refl w.heap.size w) (.cells #[.int .i64 x, .int .i64 y, .int .i64 wh, .slice va vn vc] 28))
  have K0 := Lib.hid (Blk.new w 28 #[.int .i64 x, .int .i64 y, .int .i64 wh, .slice va vn vc])
  have HC := Lib.hid (fun W (hb : Below w.heap.size w W) => val.spec_any x y wh (.slice va vn vc) xss W (h.below hb) hn)
  obtain ⟨b0, b1, b2, b3, _⟩ := four_cells K0.out
  clear h
  by_cases hok : okBox x y wh xss
  · rw [boxB_yes hok] at HC
    rw [res_yes hok]
    obtain ⟨X, rfl⟩ : ∃ X : Nat, x = X := ⟨x.toNat, by have := hok.1.1; omega⟩
    obtain ⟨Y, rfl⟩ : ∃ Y : Nat, y = Y := ⟨y.toNat, by have := hok.1.2; omega⟩
    have HG := Lib.hid (fun W (hb : Below w.heap.size w W) => l3greatest X Y wh (.slice va vn vc) xss W (HV.out.below hb) hok)
    have HBIG : Hid (big X Y xss = mx (f xss X Y) (num X Y)) := Lib.hid (by simp [big])
    rw [HBIG.out]
    clear hok
    go_enter Try.func28, Try.ntmps28
    go_wp2_with fail
    refine (HC.out _ B0.out).mono ?_
    rintro e w1 ⟨rfl, hb⟩
    have B1 := Lib.hid (below_tr B0.out hb)
    have K1 := Lib.hid (K0.out.below hb)
    clear hb b0 b1 b2 b3 B0 K0 HC
    obtain ⟨b0, b1, b2, b3, _⟩ := four_cells K1.out
    go_wp2_with fail
    refine (HG.out _ B1.out).mono ?_
    rintro e w2 ⟨s, a, b, c, d, m, fd, rfl, hIs, hb⟩
    have HS := Lib.hid hIs.1
    have B2 := Lib.hid (below_tr B1.out hb)
    clear hIs hb b0 b1 b2 b3 HG
    unfold bst
    have hfld : ∀ W : World, (Instr.field 92 (.agg #[.int .i64 s, .int .i64 a, .int .i64 b, .int .i64 c, .int .i64 d, .int .i64 m, .bool fd]) 0).run Try.prog W = .ok (.int .i64 s) W := fun W => by kernel_rfl
    go_wp2_with fail
    go_ret2
    exact ⟨ret_ib HS.out, B2.out⟩
  · rw [boxB_no hok] at HC
    rw [res_no hok]
    clear hok
    go_enter Try.func28, Try.ntmps28
    go_wp2_with fail
    refine (HC.out _ B0.out).mono ?_
    rintro e w1 ⟨rfl, hb⟩
    have B1 := Lib.hid (below_tr B0.out hb)
    clear hb b0 b1 b2 b3
    go_wp2_with fail
    go_ret2
    exact ⟨rfl, B1.out⟩

end Go.Proofs.Ytnjaocgciokpaab.gss
