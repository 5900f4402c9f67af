/- RepeatSum of the program. -/
import Derived.Test.YtneonebgneonkaaSma
import Derived.Test.YtneonebgneonkaaRpb
namespace Go.Proofs.Ytneonebgneonkaa.rps
open Go.RowKit Go.Deep Go.Proofs.Ytneonebgneonkaa.base
open Go.Proofs.Ytneonebgneonkaa.rws (total)
open Go.Proofs.Ytneonebgneonkaa.smm
open Go.Proofs.Ytneonebgneonkaa.two (two)

noncomputable def res (n : Int) (b : Bx) : make.Res := if 1 ≤ n ∧ n ≤ 9 then fold P0 (List.replicate n.toNat b) else make.Res.zero
theorem tot_P0 : total P0.rows ≤ 1048576 := by rw [P0_eq]; exact make.total_rowsOf _ _ (by omega)
theorem tot_res (n : Int) (b : Bx) : total (res n b).rows ≤ 1048576 := by
  unfold res
  split
  · exact tot_fold _ tot_P0 _
  · exact Nat.zero_le _
theorem res_no {n : Int} {b : Bx} (h : ¬ (1 ≤ n ∧ n ≤ 9)) : res n b = make.Res.zero := by unfold res; rw [if_neg h]
theorem res_yes {n : Int} {b : Bx} (h : 1 ≤ n ∧ n ≤ 9) : res n b = fold P0 (List.replicate n.toNat b) := by unfold res; rw [if_pos h]
/-- the Boxes of a row that repeats one -/
theorem bxs_of {W : World} {g n : Nat} {x y wh : Int} {va : Option Addr} {vn vc : Nat} {xss : List (List Int)} {t : TypeId} (h : W.heap[g]? = some (.cells (rpb.rb [.int .i64 x, .int .i64 y, .int .i64 wh, .slice va vn vc] n n).toArray t (0, 0))) (hr : IRows W (.slice va vn vc) xss) (hT : total xss ≤ 1048576) : sma.Bxs W g 0 (List.replicate n ⟨x, y, wh, xss⟩) := by
  intro k hk
  have hk' : k < n := by simpa using hk
  have c : ∀ j v, (rpb.rb [.int .i64 x, .int .i64 y, .int .i64 wh, .slice va vn vc] n n)[k * 4 + j]? = some v → W.cell? ⟨g, 0 + k * 4 + j, none⟩ = some v := fun j v hj => by
    have := Joins.cell_of_block h (k * 4 + j)
    rw [show 0 + k * 4 + j = k * 4 + j from by omega]
    exact this.trans (by simpa using hj)
  have key : ∀ j v, [.int .i64 x, .int .i64 y, .int .i64 wh, .slice va vn vc][j]? = some v → (rpb.rb [.int .i64 x, .int .i64 y, .int .i64 wh, .slice va vn vc] n n)[k * 4 + j]? = some v := fun j v hj => by
    have hj4 : j < 4 := by
      rcases Nat.lt_or_ge j 4 with h | h
      · exact h
      · rw [List.getElem?_eq_none (by simpa using h)] at hj; cases hj
    have e1 : (rpb.bn [.int .i64 x, .int .i64 y, .int .i64 wh, .slice va vn vc] k).length = k * 4 := by rw [rpb.bn_length]; rfl
    rw [rpb.rb_bn, Nat.sub_self, show rpb.bn rpb.un 0 = [] from rfl, List.append_nil, show n = k + (1 + (n - k - 1)) from by omega, rpb.bn_add, rpb.bn_add, List.getElem?_append_right (by omega), e1, show k * 4 + j - k * 4 = j from by omega, List.getElem?_append_left (by show j < 4; exact hj4)]
    exact hj
  simp only [List.getElem_replicate]
  exact ⟨va, vn, vc, c 0 _ (key 0 _ rfl), c 1 _ (key 1 _ rfl), c 2 _ (key 2 _ rfl), c 3 _ (key 3 _ rfl), hr, hT⟩


set_option maxRecDepth 100000 in
set_option maxHeartbeats 4000000 in
theorem impl_any (x y wh : Int) (v : Value) (xss : List (List Int)) (n : Int) (w : World) (h : IRows w v xss) (hn : total xss ≤ 1048576) :
    Calls Try.prog 44 #[.agg #[.int .i64 x, .int .i64 y, .int .i64 wh, v], .int .i64 n] w fun e w' => ∃ r, e = .returned (.tuple #[.agg #[.int .i64 (res n ⟨x, y, wh, xss⟩).x, .int .i64 (res n ⟨x, y, wh, xss⟩).y, .int .i64 (res n ⟨x, y, wh, xss⟩).wh, r], .bool (res n ⟨x, y, wh, xss⟩).ok]) ∧ OwnRows w' w.heap.size w'.heap.size r (res n ⟨x, y, wh, xss⟩).rows ∧ Below w.heap.size w w' := by
  obtain ⟨va, vn, vc, rfl⟩ := h.shape
  have B2 := below_al (below_al (Below.refl w.heap.size w) (.cells #[.int .i64 x, .int .i64 y, .int .i64 wh, .slice va vn vc] 48)) (.cells #[.int .i64 0, .int .i64 0, .int .i64 0, .slice none 0 0] 48)
  have P1 := (Blk.new w 48 #[.int .i64 x, .int .i64 y, .int .i64 wh, .slice va vn vc]).alloc (.cells #[.int .i64 0, .int .i64 0, .int .i64 0, .slice none 0 0] 48)
  have P2 : Blk ((w.alloc (.cells #[.int .i64 x, .int .i64 y, .int .i64 wh, .slice va vn vc] 48)).alloc (.cells #[.int .i64 0, .int .i64 0, .int .i64 0, .slice none 0 0] 48)) (w.heap.size + 1) 48 #[.int .i64 0, .int .i64 0, .int .i64 0, .slice none 0 0] := by have := Blk.new (w.alloc (.cells #[.int .i64 x, .int .i64 y, .int .i64 wh, .slice va vn vc] 48)) 48 #[.int .i64 0, .int .i64 0, .int .i64 0, .slice none 0 0]; simpa using this
  have hz2 : ((w.alloc (.cells #[.int .i64 x, .int .i64 y, .int .i64 wh, .slice va vn vc] 48)).alloc (.cells #[.int .i64 0, .int .i64 0, .int .i64 0, .slice none 0 0] 48)).heap.size = w.heap.size + 1 + 1 := by simp
  have HV := Lib.hid (h.below B2)
  obtain ⟨w2, hw2⟩ : ∃ w2, ((w.alloc (.cells #[.int .i64 x, .int .i64 y, .int .i64 wh, .slice va vn vc] 48)).alloc (.cells #[.int .i64 0, .int .i64 0, .int .i64 0, .slice none 0 0] 48)) = w2 := ⟨_, rfl⟩
  rw [hw2] at B2 P1 P2 HV hz2
  have BB := Lib.hid B2
  have HZ2 := Lib.hid hz2
  have HP1 := Lib.hid P1
  have HP2 := Lib.hid P2
  obtain ⟨r0, r1, r2, r3, r4⟩ := four_cells HP2.out
  have rf : ∀ q, w2.frozen? ⟨w.heap.size + 1, q, none⟩ = false := fun q => Joins.unfrozen_of_block HP2.out q
  clear h B2 P1 P2 hz2
  by_cases h1 : n < 1
  · have HE := Lib.hid (res_no (b := ⟨x, y, wh, xss⟩) (show ¬ (1 ≤ n ∧ n ≤ 9) from by omega))
    go_enter Try.func44, Try.ntmps44
    go_wp2_with fail
    refine bodyPost_ret (v := .tuple #[.agg #[.int .i64 0, .int .i64 0, .int .i64 0, .slice none 0 0], .bool false]) (by simp [results, Try.results44, go_sem, r0, r1, r2, r3]) rfl ?_
    rw [HE.out]
    refine ⟨_, rfl, OwnRows.nil _ _ _, ?_⟩
    repeat (first | (with_reducible exact BB.out) | (with_reducible refine Below.setCell ?_ (by simp) _))
  by_cases h9 : 9 < n
  · have HE := Lib.hid (res_no (b := ⟨x, y, wh, xss⟩) (show ¬ (1 ≤ n ∧ n ≤ 9) from by omega))
    go_enter Try.func44, Try.ntmps44
    go_wp2_with fail
    refine bodyPost_ret (v := .tuple #[.agg #[.int .i64 0, .int .i64 0, .int .i64 0, .slice none 0 0], .bool false]) (by simp [results, Try.results44, go_sem, r0, r1, r2, r3]) rfl ?_
    rw [HE.out]
    refine ⟨_, rfl, OwnRows.nil _ _ _, ?_⟩
    repeat (first | (with_reducible exact BB.out) | (with_reducible refine Below.setCell ?_ (by simp) _))
  have HE := Lib.hid (res_yes (b := ⟨x, y, wh, xss⟩) (show 1 ≤ n ∧ n ≤ 9 from by omega))
  obtain ⟨m, rfl⟩ : ∃ m : Nat, n = (m : Int) := ⟨n.toNat, by omega⟩
  have HM := Lib.hid (show 1 ≤ m ∧ m ≤ 9 from by omega)
  have N3 := Blk.new w2 48 #[.int .i64 x, .int .i64 y, .int .i64 wh, .slice va vn vc]
  have A3 := below_al (Below.refl w2.heap.size w2) (.cells #[.int .i64 x, .int .i64 y, .int .i64 wh, .slice va vn vc] 48)
  have HRP := Lib.hid (rpb.repeat_any m w2.heap.size 0 1 x y wh va vn vc (w2.alloc (.cells #[.int .i64 x, .int .i64 y, .int .i64 wh, .slice va vn vc] 48)) (Joins.cell_of_block N3 0) (Joins.cell_of_block N3 1) (Joins.cell_of_block N3 2) (Joins.cell_of_block N3 3) HM.out.1 HM.out.2)
  have HA3 := Lib.hid A3
  obtain ⟨c0, c1, c2, c3, c4⟩ := four_cells HP1.out
  clear N3 A3 r0 r1 r2 r3 r4 rf
  go_enter Try.func44, Try.ntmps44
  go_wp2_with fail
  clear hw2
  refine HRP.out.mono ?_
  rintro e w4 ⟨rfl, hg, hb⟩
  have hb2 := below_tr HA3.out hb
  have hz4 := hb.size
  rw [show (w2.alloc (.cells #[.int .i64 x, .int .i64 y, .int .i64 wh, .slice va vn vc] 48)).heap.size = w2.heap.size + 1 from by simp] at hg hz4 ⊢
  have HC := Lib.hid (sma.sumAll (w2.heap.size + 1) 0 m m (List.replicate m ⟨x, y, wh, xss⟩) w4 (bxs_of hg (HV.out.below hb2) hn) (by simp) HM.out.2)
  have B4 := Lib.hid (below_tr BB.out hb2)
  have Q4 := Lib.hid (HP2.out.below hb2)
  have Z4 := Lib.hid hz4
  clear hg hb hb2 hz4 HRP c0 c1 c2 c3 c4
  go_wp2_with fail
  refine HC.out.mono ?_
  rintro e w5 ⟨r, rfl, hr, hb⟩
  obtain ⟨xa, xn, xc, rfl⟩ := hr.rows.shape
  have B5 := Lib.hid (below_tr B4.out hb)
  have R5 := Lib.hid (Q4.out.below hb)
  have HR := Lib.hid hr
  clear hr hb HC
  obtain ⟨q, hq⟩ : ∃ q, fold P0 (List.replicate m ⟨x, y, wh, xss⟩) = q := ⟨_, rfl⟩
  have HQ : Hid (res m ⟨x, y, wh, xss⟩ = q) := Lib.hid (HE.out.trans (by rw [show ((m : Int)).toNat = m from by omega]; exact hq))
  rw [hq] at HR ⊢
  clear hq HE
  obtain ⟨r0, r1, r2, r3, r4⟩ := four_cells R5.out
  have rf : ∀ q, w5.frozen? ⟨w.heap.size + 1, q, none⟩ = false := fun q => Joins.unfrozen_of_block R5.out q
  go_wp2_with fail
  refine bodyPost_ret (v := .tuple #[.agg #[.int .i64 q.x, .int .i64 q.y, .int .i64 q.wh, .slice xa xn xc], .bool q.ok]) (by simp [results, Try.results44, go_sem, r0, r1, r2, r3]) rfl ?_
  rw [HQ.out]
  refine ⟨_, rfl, ?_, ?_⟩
  · have hz : w.heap.size + 1 + 1 ≤ w4.heap.size := by have := Z4.out; have := HZ2.out; omega
    refine (HR.out.wrote (S := fun p => p.block < w.heap.size + 1 + 1) ?_ (fun p hp => .inl (by have e : p.block < w.heap.size + 1 + 1 := hp; omega))).mono (by omega) (by simp [World.setCell])
    repeat (first | exact Wrote.refl _ _ | refine Wrote.setCell ?_ (by simp) _)
  · repeat (first | (with_reducible exact B5.out) | (with_reducible refine Below.setCell ?_ (by simp) _))


end Go.Proofs.Ytneonebgneonkaa.rps
