/- validTrio of the program and l11Kept of the model. -/
import Derived.Test.YtomofmmecpdalaaTrv
namespace Go.Proofs.Ytomofmmecpdalaa.tvk
open Go.RowKit Go.Deep Go.Proofs.Ytomofmmecpdalaa.base
open Go.Proofs.Ytomofmmecpdalaa.rws (total)
open Go.Proofs.Ytomofmmecpdalaa.tri (two_cells)
open Go.Proofs.Ytomofmmecpdalaa.trv (okTrio trioB trioB_yes trioB_no)

/-- a Trio that is answered, and whether it is -/
structure Res where
  wh : Int
  rows : List (List Int)
  ok : Bool
def Res.zero : Res := ⟨0, [], false⟩


set_option maxHeartbeats 1000000 in
theorem valid_yes (wh : Int) (v : Value) (xss : List (List Int)) (w : World) (h : IRows w v xss) (hn : total xss ≤ 1048576) (hok : okTrio wh xss) :
    Calls Try.prog 62 #[.agg #[.int .i64 wh, v]] w fun e w' => e = .returned (.tuple #[.agg #[.int .i64 wh, v], .bool true]) ∧ Below w.heap.size w w' := by
  obtain ⟨va, vn, vc, rfl⟩ := h.shape
  have K0 := Lib.hid ((Blk.new w 27 #[.int .i64 wh, .slice va vn vc]).alloc (.cells #[.int .i64 0, .slice none 0 0] 27))
  have R0 : Hid (Blk ((w.alloc (.cells #[.int .i64 wh, .slice va vn vc] 27)).alloc (.cells #[.int .i64 0, .slice none 0 0] 27)) (w.heap.size + 1) 27 #[.int .i64 0, .slice none 0 0]) := Lib.hid (by
    have := Blk.new (w.alloc (.cells #[.int .i64 wh, .slice va vn vc] 27)) 27 #[.int .i64 0, .slice none 0 0]
    simpa using this)
  have hr := trv.impl_any wh _ xss _ (h.below (below_al (below_al (Below.refl _ _) (.cells #[.int .i64 wh, .slice va vn vc] 27)) (.cells #[.int .i64 0, .slice none 0 0] 27))) hn
  rw [trioB_yes hok] at hr
  have HR := Lib.hid hr
  clear h hr hok
  go_enter Try.func62, Try.ntmps62
  go_wp2_with fail
  refine HR.out.mono ?_
  rintro e w1 ⟨rfl, hb⟩
  have B1 := Lib.hid (below_tr (below_al (below_al (Below.refl _ _) _) _) hb)
  have K1 := Lib.hid (K0.out.below hb)
  have R1 := Lib.hid (R0.out.below hb)
  obtain ⟨c0, c1, _⟩ := two_cells K1.out
  obtain ⟨r0, r1, _⟩ := two_cells R1.out
  have rf : ∀ k, w1.frozen? ⟨w.heap.size + 1, k, none⟩ = false := fun k => Joins.unfrozen_of_block R1.out k
  clear hb HR K0 R0
  go_wp2_with fail
  refine bodyPost_ret (v := .tuple #[.agg #[.int .i64 wh, .slice va vn vc], .bool true]) (by simp [results, Try.results62, go_sem, r0, r1]) rfl ⟨rfl, ?_⟩
  repeat (refine Below.setCell ?_ (by simp <;> omega) _)
  exact B1.out



set_option maxHeartbeats 1000000 in
theorem valid_no (wh : Int) (v : Value) (xss : List (List Int)) (w : World) (h : IRows w v xss) (hn : total xss ≤ 1048576) (hok : ¬ okTrio wh xss) :
    Calls Try.prog 62 #[.agg #[.int .i64 wh, v]] w fun e w' => e = .returned (.tuple #[.agg #[.int .i64 0, .slice none 0 0], .bool false]) ∧ Below w.heap.size w w' := by
  obtain ⟨va, vn, vc, rfl⟩ := h.shape
  have R0 : Hid (Blk ((w.alloc (.cells #[.int .i64 wh, .slice va vn vc] 27)).alloc (.cells #[.int .i64 0, .slice none 0 0] 27)) (w.heap.size + 1) 27 #[.int .i64 0, .slice none 0 0]) := Lib.hid (by
    have := Blk.new (w.alloc (.cells #[.int .i64 wh, .slice va vn vc] 27)) 27 #[.int .i64 0, .slice none 0 0]
    simpa using this)
  have hr := trv.impl_any wh _ xss _ (h.below (below_al (below_al (Below.refl _ _) (.cells #[.int .i64 wh, .slice va vn vc] 27)) (.cells #[.int .i64 0, .slice none 0 0] 27))) hn
  rw [trioB_no hok] at hr
  have HR := Lib.hid hr
  clear h hr hok
  go_enter Try.func62, Try.ntmps62
  go_wp2_with fail
  refine HR.out.mono ?_
  rintro e w1 ⟨rfl, hb⟩
  have B1 := Lib.hid (below_tr (below_al (below_al (Below.refl _ _) _) _) hb)
  have R1 := Lib.hid (R0.out.below hb)
  obtain ⟨r0, r1, _⟩ := two_cells R1.out
  have rf : ∀ k, w1.frozen? ⟨w.heap.size + 1, k, none⟩ = false := fun k => Joins.unfrozen_of_block R1.out k
  clear hb HR R0
  go_wp2_with fail
  refine bodyPost_ret (v := .tuple #[.agg #[.int .i64 0, .slice none 0 0], .bool false]) (by simp [results, Try.results62, go_sem, r0, r1]) rfl ⟨rfl, ?_⟩
  repeat (refine Below.setCell ?_ (by simp <;> omega) _)
  exact B1.out



set_option maxHeartbeats 1000000 in
theorem kept_yes (wh : Int) (v : Value) (xss : List (List Int)) (w : World) (h : IRows w v xss) (hn : total xss ≤ 1048576) (hok : okTrio wh xss) :
    Calls Try.prog 75 #[.agg #[.int .i64 wh, v]] w fun e w' => e = .returned (.tuple #[.agg #[.int .i64 wh, v], .bool true]) ∧ Below w.heap.size w w' := by
  obtain ⟨va, vn, vc, rfl⟩ := h.shape
  have K0 := Lib.hid ((Blk.new w 27 #[.int .i64 wh, .slice va vn vc]).alloc (.cells #[.int .i64 0, .slice none 0 0] 27))
  have R0 : Hid (Blk ((w.alloc (.cells #[.int .i64 wh, .slice va vn vc] 27)).alloc (.cells #[.int .i64 0, .slice none 0 0] 27)) (w.heap.size + 1) 27 #[.int .i64 0, .slice none 0 0]) := Lib.hid (by
    have := Blk.new (w.alloc (.cells #[.int .i64 wh, .slice va vn vc] 27)) 27 #[.int .i64 0, .slice none 0 0]
    simpa using this)
  have hr := trv.spec_any wh _ xss _ (h.below (below_al (below_al (Below.refl _ _) (.cells #[.int .i64 wh, .slice va vn vc] 27)) (.cells #[.int .i64 0, .slice none 0 0] 27))) hn
  rw [trioB_yes hok] at hr
  have HR := Lib.hid hr
  clear h hr hok
  go_enter Try.func75, Try.ntmps75
  go_wp2_with fail
  refine HR.out.mono ?_
  rintro e w1 ⟨rfl, hb⟩
  have B1 := Lib.hid (below_tr (below_al (below_al (Below.refl _ _) _) _) hb)
  have K1 := Lib.hid (K0.out.below hb)
  have R1 := Lib.hid (R0.out.below hb)
  obtain ⟨c0, c1, _⟩ := two_cells K1.out
  obtain ⟨r0, r1, _⟩ := two_cells R1.out
  have rf : ∀ k, w1.frozen? ⟨w.heap.size + 1, k, none⟩ = false := fun k => Joins.unfrozen_of_block R1.out k
  clear hb HR K0 R0
  go_wp2_with fail
  refine bodyPost_ret (v := .tuple #[.agg #[.int .i64 wh, .slice va vn vc], .bool true]) (by simp [results, Try.results75, go_sem, r0, r1]) rfl ⟨rfl, ?_⟩
  repeat (refine Below.setCell ?_ (by simp <;> omega) _)
  exact B1.out



set_option maxHeartbeats 1000000 in
theorem kept_no (wh : Int) (v : Value) (xss : List (List Int)) (w : World) (h : IRows w v xss) (hn : total xss ≤ 1048576) (hok : ¬ okTrio wh xss) :
    Calls Try.prog 75 #[.agg #[.int .i64 wh, v]] w fun e w' => e = .returned (.tuple #[.agg #[.int .i64 0, .slice none 0 0], .bool false]) ∧ Below w.heap.size w w' := by
  obtain ⟨va, vn, vc, rfl⟩ := h.shape
  have R0 : Hid (Blk ((w.alloc (.cells #[.int .i64 wh, .slice va vn vc] 27)).alloc (.cells #[.int .i64 0, .slice none 0 0] 27)) (w.heap.size + 1) 27 #[.int .i64 0, .slice none 0 0]) := Lib.hid (by
    have := Blk.new (w.alloc (.cells #[.int .i64 wh, .slice va vn vc] 27)) 27 #[.int .i64 0, .slice none 0 0]
    simpa using this)
  have hr := trv.spec_any wh _ xss _ (h.below (below_al (below_al (Below.refl _ _) (.cells #[.int .i64 wh, .slice va vn vc] 27)) (.cells #[.int .i64 0, .slice none 0 0] 27))) hn
  rw [trioB_no hok] at hr
  have HR := Lib.hid hr
  clear h hr hok
  go_enter Try.func75, Try.ntmps75
  go_wp2_with fail
  refine HR.out.mono ?_
  rintro e w1 ⟨rfl, hb⟩
  have B1 := Lib.hid (below_tr (below_al (below_al (Below.refl _ _) _) _) hb)
  have R1 := Lib.hid (R0.out.below hb)
  obtain ⟨r0, r1, _⟩ := two_cells R1.out
  have rf : ∀ k, w1.frozen? ⟨w.heap.size + 1, k, none⟩ = false := fun k => Joins.unfrozen_of_block R1.out k
  clear hb HR R0
  go_wp2_with fail
  refine bodyPost_ret (v := .tuple #[.agg #[.int .i64 0, .slice none 0 0], .bool false]) (by simp [results, Try.results75, go_sem, r0, r1]) rfl ⟨rfl, ?_⟩
  repeat (refine Below.setCell ?_ (by simp <;> omega) _)
  exact B1.out

end Go.Proofs.Ytomofmmecpdalaa.tvk
