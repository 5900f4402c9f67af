/- sizeOfSum of the program. -/
import Derived.Test.YtimfnhejiiagmaaGsm
import Derived.Test.YtimfnhejiiagmaaSop
namespace Go.Proofs.Ytimfnhejiiagmaa.gsz
open Go.RowKit Go.Deep Go.Proofs.Ytimfnhejiiagmaa.base
open Go.Proofs.Ytimfnhejiiagmaa.prt (two_cells)
open Go.Proofs.Ytimfnhejiiagmaa.ints (ret_int)

theorem five_cells {w : World} {b : Nat} {t : TypeId} {u0 u1 u2 u3 u4 : Value} (h : Blk w b t #[u0, u1, u2, u3, u4]) : w.cell? ⟨b, 0, none⟩ = some u0 ∧ w.cell? ⟨b, 1, none⟩ = some u1 ∧ w.cell? ⟨b, 2, none⟩ = some u2 ∧ w.cell? ⟨b, 3, none⟩ = some u3 ∧ w.cell? ⟨b, 4, none⟩ = some u4 ∧ b < w.heap.size := by
  have hl := h.lt
  unfold Blk at h
  refine ⟨?_, ?_, ?_, ?_, ?_, hl⟩ <;> simp only [World.cell?, h] <;> rfl

/-- a place as a value -/
def pv (a b c d m : Int) : Value := .agg #[.int .i64 a, .int .i64 b, .int .i64 c, .int .i64 d, .int .i64 m]


set_option maxRecDepth 100000 in
set_option maxHeartbeats 4000000 in
theorem size_any (x y wh : Int) (v : Value) (xss : List (List Int)) (a b c d m : Int) (w : World) (h : IRows w v xss) (hn : rws.total xss ≤ 1048576) (ha : som.all x y wh xss a b c d m) :
    Calls Try.prog 67 #[.agg #[.int .i64 x, .int .i64 y, .int .i64 wh, v], pv a b c d m] w fun e w' =>
      e = .returned (.int .i64 (gsm.abs' (som.sum xss a b c d m y))) ∧ Below w.heap.size w w' := by
  obtain ⟨va, vn, vc, rfl⟩ := h.shape
  have HI := Lib.hid (fun W (hb : Below w.heap.size w W) => sop.impl_any x y wh (.slice va vn vc) xss a b c d m W (h.below hb) hn)
  rw [som.res_yes ha] at HI
  have hbd := som.sum_bd ha 4 (Nat.le_refl _)
  have e9 : worth.cum (som.part xss a b c d m y) 4 = som.sum xss a b c d m y := rfl
  rw [e9] at hbd
  have B0 := Lib.hid (below_al (below_al (Below.refl w.heap.size w) (.cells #[.int .i64 x, .int .i64 y, .int .i64 wh, .slice va vn vc] 29)) (.cells #[.int .i64 a, .int .i64 b, .int .i64 c, .int .i64 d, .int .i64 m] 89))
  obtain ⟨b0, b1, b2, b3, _⟩ := four_cells ((Blk.new w 29 #[.int .i64 x, .int .i64 y, .int .i64 wh, .slice va vn vc]).alloc (.cells #[.int .i64 a, .int .i64 b, .int .i64 c, .int .i64 d, .int .i64 m] 89))
  have K1 := Blk.new (w.alloc (.cells #[.int .i64 x, .int .i64 y, .int .i64 wh, .slice va vn vc] 29)) 89 #[.int .i64 a, .int .i64 b, .int .i64 c, .int .i64 d, .int .i64 m]
  obtain ⟨c0, c1, c2, c3, c4, _⟩ := five_cells K1
  simp at c0 c1 c2 c3 c4
  clear K1 ha h
  generalize som.sum xss a b c d m y = s at *
  have n1 : IntKind.i64.wrap (-s) = -s := IntWalk.i64_in _ (by omega)
  have n2 : wrap64 (-s) = -s := IntWalk.wrap64_in _ (by omega)
  obtain ⟨g, hg⟩ : ∃ g, gsm.abs' s = g := ⟨_, rfl⟩
  have hm : max s (-s) = g := by rw [← hg]; unfold gsm.abs'; split <;> omega
  have HG := Lib.hid hg
  clear hbd hg e9
  unfold pv
  go_enter Try.func67, Try.ntmps67
  go_wp2_with fail
  refine (HI.out _ B0.out).mono ?_
  rintro e w1 ⟨rfl, hb⟩
  have B1 := Lib.hid (below_tr B0.out hb)
  clear hb b0 b1 b2 b3 c0 c1 c2 c3 c4
  go_wp2_with fail
  all_goals
    go_ret
    exact ⟨ret_int (by have h9 := HG.out; unfold gsm.abs' at h9 ⊢; split <;> omega), B1.out⟩

end Go.Proofs.Ytimfnhejiiagmaa.gsz
