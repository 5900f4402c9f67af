/- equalSumRows of the program. -/
import Derived.Test.YtggodllfaggjiabFour
namespace Go.Proofs.Ytggodllfaggjiab.eqr
open Go.RowKit Go.Deep Go.Proofs.Ytggodllfaggjiab.base
open Go.Proofs.Ytggodllfaggjiab.four (arr rv cells16)

def st (k j : Nat) : Array Value := #[.int .i64 (if 0 < j then eqs.N k 0 0 else 0), .int .i64 (if 0 < j then eqs.N k 0 1 else 0), .int .i64 (if 0 < j then eqs.N k 0 2 else 0), .int .i64 (if 0 < j then eqs.N k 0 3 else 0), .int .i64 (if 1 < j then eqs.N k 1 0 else 0), .int .i64 (if 1 < j then eqs.N k 1 1 else 0), .int .i64 (if 1 < j then eqs.N k 1 2 else 0), .int .i64 (if 1 < j then eqs.N k 1 3 else 0), .int .i64 (if 2 < j then eqs.N k 2 0 else 0), .int .i64 (if 2 < j then eqs.N k 2 1 else 0), .int .i64 (if 2 < j then eqs.N k 2 2 else 0), .int .i64 (if 2 < j then eqs.N k 2 3 else 0), .int .i64 (if 3 < j then eqs.N k 3 0 else 0), .int .i64 (if 3 < j then eqs.N k 3 1 else 0), .int .i64 (if 3 < j then eqs.N k 3 2 else 0), .int .i64 (if 3 < j then eqs.N k 3 3 else 0)]
def zer : Array Value := #[.int .i64 0, .int .i64 0, .int .i64 0, .int .i64 0, .int .i64 0, .int .i64 0, .int .i64 0, .int .i64 0, .int .i64 0, .int .i64 0, .int .i64 0, .int .i64 0, .int .i64 0, .int .i64 0, .int .i64 0, .int .i64 0]


set_option maxRecDepth 100000 in
set_option maxHeartbeats 8000000 in
theorem rows (k : Nat) (hk : k < 8) (w : World) :
    Calls Try.prog 101 #[.int .i64 (k : Int)] w fun e w' => e = .returned (rv (eqs.N k)) ∧ Below w.heap.size w w' := by
  have HS0 : Hid (Blk ((w.alloc (.cells zer 118)).alloc (.cells zer 118)) (w.heap.size + 1) 118 (st k 0) ∧ Blk ((w.alloc (.cells zer 118)).alloc (.cells zer 118)) w.heap.size 118 zer ∧ Below w.heap.size w ((w.alloc (.cells zer 118)).alloc (.cells zer 118))) := Lib.hid ⟨by
      have := Blk.new (w.alloc (.cells zer 118)) 118 zer
      simpa [zer, st] using this, (Blk.new w 118 zer).alloc _, below_al (below_al (Below.refl _ _) _) _⟩
  have HK := Lib.hid hk
  unfold rv arr
  unfold zer at *
  go_enter Try.func101, Try.ntmps101
  go_wp2_with fail
  go_loopw [4, 5, 6, 7] (fun _ _ _ i wr => ∃ j : Nat, j ≤ 4 ∧ i = .int .i64 j ∧ Hid (Blk wr (w.heap.size + 1) 118 (st k j) ∧ Blk wr w.heap.size 118 #[.int .i64 0, .int .i64 0, .int .i64 0, .int .i64 0, .int .i64 0, .int .i64 0, .int .i64 0, .int .i64 0, .int .i64 0, .int .i64 0, .int .i64 0, .int .i64 0, .int .i64 0, .int .i64 0, .int .i64 0, .int .i64 0] ∧ Below w.heap.size w wr)) (fun _ _ _ i _ => 4 - (intOf i).toNat)
  case atStart => exact ⟨0, Nat.zero_le _, rfl, HS0⟩
  case round =>
    obtain ⟨j, hj, rfl, hS⟩ := hrel
    clear HS0
    obtain rfl | rfl | rfl | rfl | rfl : j = 0 ∨ j = 1 ∨ j = 2 ∨ j = 3 ∨ j = 4 := by omega
    · have hB : Blk wr (w.heap.size + 1) 118 #[.int .i64 (0), .int .i64 (0), .int .i64 (0), .int .i64 (0), .int .i64 (0), .int .i64 (0), .int .i64 (0), .int .i64 (0), .int .i64 (0), .int .i64 (0), .int .i64 (0), .int .i64 (0), .int .i64 (0), .int .i64 (0), .int .i64 (0), .int .i64 (0)] := by simpa [st] using hS.out.1
      obtain ⟨c0, c1, c2, c3, c4, c5, c6, c7, c8, c9, c10, c11, c12, c13, c14, c15, cl⟩ := cells16 hB
      have rf : ∀ k, wr.frozen? ⟨w.heap.size + 1, k, none⟩ = false := fun k => Joins.unfrozen_of_block hB k
      have hc := eqs.oddat k 0 wr hk (by omega)
      have ho := eqs.odd_lt k 0
      have e0 : eqs.N k 0 0 = 1 - (eqs.odd k 0 : Int) := rfl
      have e1 : eqs.N k 0 1 = (eqs.odd k 0 : Int) := rfl
      have e2 : eqs.N k 0 2 = (eqs.odd k 0 : Int) := rfl
      have e3 : eqs.N k 0 3 = 1 - (eqs.odd k 0 : Int) := rfl
      obtain ⟨d, hd⟩ : ∃ d : Int, (eqs.odd k 0 : Int) = d := ⟨_, rfl⟩
      have d0 : 0 ≤ d := by omega
      have d1 : d ≤ 1 := by omega
      rw [hd] at hc e0 e1 e2 e3
      have HE := Lib.hid (And.intro e0 (And.intro e1 (And.intro e2 e3)))
      have HC := Lib.hid hc
      have HBK := Lib.hid hB
      clear hc ho e0 e1 e2 e3 hd hB
      go_wp2_with fail
      refine HC.out.mono ?_
      rintro e w' ⟨rfl, rfl⟩
      go_wp2_with fail
      go_roundw
      case rel =>
        refine ⟨1, by omega, by go_num, Lib.hid ⟨?_, ?_, ?_⟩⟩
        · have h1 := Joins.block_setCell (i := 0) HBK.out (.int .i64 (1 - d))
          have h2 := Joins.block_setCell (i := 1) h1 (.int .i64 (d))
          have h3 := Joins.block_setCell (i := 2) h2 (.int .i64 (d))
          have h4 := Joins.block_setCell (i := 3) h3 (.int .i64 (1 - d))
          obtain ⟨e0, e1, e2, e3⟩ := HE.out
          unfold Blk
          simpa [st, e0, e1, e2, e3] using h4
        · refine hS.out.2.1.wrote (S := fun p => p.block = w.heap.size + 1) ?_ (fun p hp => by rw [hp]; omega)
          repeat (first | exact Wrote.refl _ _ | refine Wrote.setCell (S := fun p => p.block = w.heap.size + 1) ?_ (by simp) _)
        · repeat (refine Below.setCell ?_ (by simp) _)
          exact hS.out.2.2
      case measure => simp [intOf]
    · have hB : Blk wr (w.heap.size + 1) 118 #[.int .i64 (eqs.N k 0 0), .int .i64 (eqs.N k 0 1), .int .i64 (eqs.N k 0 2), .int .i64 (eqs.N k 0 3), .int .i64 (0), .int .i64 (0), .int .i64 (0), .int .i64 (0), .int .i64 (0), .int .i64 (0), .int .i64 (0), .int .i64 (0), .int .i64 (0), .int .i64 (0), .int .i64 (0), .int .i64 (0)] := by simpa [st] using hS.out.1
      obtain ⟨c0, c1, c2, c3, c4, c5, c6, c7, c8, c9, c10, c11, c12, c13, c14, c15, cl⟩ := cells16 hB
      have rf : ∀ k, wr.frozen? ⟨w.heap.size + 1, k, none⟩ = false := fun k => Joins.unfrozen_of_block hB k
      have hc := eqs.oddat k 1 wr hk (by omega)
      have ho := eqs.odd_lt k 1
      have e0 : eqs.N k 1 0 = 1 - (eqs.odd k 1 : Int) := rfl
      have e1 : eqs.N k 1 1 = (eqs.odd k 1 : Int) := rfl
      have e2 : eqs.N k 1 2 = (eqs.odd k 1 : Int) := rfl
      have e3 : eqs.N k 1 3 = 1 - (eqs.odd k 1 : Int) := rfl
      obtain ⟨d, hd⟩ : ∃ d : Int, (eqs.odd k 1 : Int) = d := ⟨_, rfl⟩
      have d0 : 0 ≤ d := by omega
      have d1 : d ≤ 1 := by omega
      rw [hd] at hc e0 e1 e2 e3
      have HE := Lib.hid (And.intro e0 (And.intro e1 (And.intro e2 e3)))
      have HC := Lib.hid hc
      have HBK := Lib.hid hB
      clear hc ho e0 e1 e2 e3 hd hB
      go_wp2_with fail
      refine HC.out.mono ?_
      rintro e w' ⟨rfl, rfl⟩
      go_wp2_with fail
      go_roundw
      case rel =>
        refine ⟨2, by omega, by go_num, Lib.hid ⟨?_, ?_, ?_⟩⟩
        · have h1 := Joins.block_setCell (i := 4) HBK.out (.int .i64 (1 - d))
          have h2 := Joins.block_setCell (i := 5) h1 (.int .i64 (d))
          have h3 := Joins.block_setCell (i := 6) h2 (.int .i64 (d))
          have h4 := Joins.block_setCell (i := 7) h3 (.int .i64 (1 - d))
          obtain ⟨e0, e1, e2, e3⟩ := HE.out
          unfold Blk
          simpa [st, e0, e1, e2, e3] using h4
        · refine hS.out.2.1.wrote (S := fun p => p.block = w.heap.size + 1) ?_ (fun p hp => by rw [hp]; omega)
          repeat (first | exact Wrote.refl _ _ | refine Wrote.setCell (S := fun p => p.block = w.heap.size + 1) ?_ (by simp) _)
        · repeat (refine Below.setCell ?_ (by simp) _)
          exact hS.out.2.2
      case measure => simp [intOf]
    · have hB : Blk wr (w.heap.size + 1) 118 #[.int .i64 (eqs.N k 0 0), .int .i64 (eqs.N k 0 1), .int .i64 (eqs.N k 0 2), .int .i64 (eqs.N k 0 3), .int .i64 (eqs.N k 1 0), .int .i64 (eqs.N k 1 1), .int .i64 (eqs.N k 1 2), .int .i64 (eqs.N k 1 3), .int .i64 (0), .int .i64 (0), .int .i64 (0), .int .i64 (0), .int .i64 (0), .int .i64 (0), .int .i64 (0), .int .i64 (0)] := by simpa [st] using hS.out.1
      obtain ⟨c0, c1, c2, c3, c4, c5, c6, c7, c8, c9, c10, c11, c12, c13, c14, c15, cl⟩ := cells16 hB
      have rf : ∀ k, wr.frozen? ⟨w.heap.size + 1, k, none⟩ = false := fun k => Joins.unfrozen_of_block hB k
      have hc := eqs.oddat k 2 wr hk (by omega)
      have ho := eqs.odd_lt k 2
      have e0 : eqs.N k 2 0 = 1 - (eqs.odd k 2 : Int) := rfl
      have e1 : eqs.N k 2 1 = (eqs.odd k 2 : Int) := rfl
      have e2 : eqs.N k 2 2 = (eqs.odd k 2 : Int) := rfl
      have e3 : eqs.N k 2 3 = 1 - (eqs.odd k 2 : Int) := rfl
      obtain ⟨d, hd⟩ : ∃ d : Int, (eqs.odd k 2 : Int) = d := ⟨_, rfl⟩
      have d0 : 0 ≤ d := by omega
      have d1 : d ≤ 1 := by omega
      rw [hd] at hc e0 e1 e2 e3
      have HE := Lib.hid (And.intro e0 (And.intro e1 (And.intro e2 e3)))
      have HC := Lib.hid hc
      have HBK := Lib.hid hB
      clear hc ho e0 e1 e2 e3 hd hB
      go_wp2_with fail
      refine HC.out.mono ?_
      rintro e w' ⟨rfl, rfl⟩
      go_wp2_with fail
      go_roundw
      case rel =>
        refine ⟨3, by omega, by go_num, Lib.hid ⟨?_, ?_, ?_⟩⟩
        · have h1 := Joins.block_setCell (i := 8) HBK.out (.int .i64 (1 - d))
          have h2 := Joins.block_setCell (i := 9) h1 (.int .i64 (d))
          have h3 := Joins.block_setCell (i := 10) h2 (.int .i64 (d))
          have h4 := Joins.block_setCell (i := 11) h3 (.int .i64 (1 - d))
          obtain ⟨e0, e1, e2, e3⟩ := HE.out
          unfold Blk
          simpa [st, e0, e1, e2, e3] using h4
        · refine hS.out.2.1.wrote (S := fun p => p.block = w.heap.size + 1) ?_ (fun p hp => by rw [hp]; omega)
          repeat (first | exact Wrote.refl _ _ | refine Wrote.setCell (S := fun p => p.block = w.heap.size + 1) ?_ (by simp) _)
        · repeat (refine Below.setCell ?_ (by simp) _)
          exact hS.out.2.2
      case measure => simp [intOf]
    · have hB : Blk wr (w.heap.size + 1) 118 #[.int .i64 (eqs.N k 0 0), .int .i64 (eqs.N k 0 1), .int .i64 (eqs.N k 0 2), .int .i64 (eqs.N k 0 3), .int .i64 (eqs.N k 1 0), .int .i64 (eqs.N k 1 1), .int .i64 (eqs.N k 1 2), .int .i64 (eqs.N k 1 3), .int .i64 (eqs.N k 2 0), .int .i64 (eqs.N k 2 1), .int .i64 (eqs.N k 2 2), .int .i64 (eqs.N k 2 3), .int .i64 (0), .int .i64 (0), .int .i64 (0), .int .i64 (0)] := by simpa [st] using hS.out.1
      obtain ⟨c0, c1, c2, c3, c4, c5, c6, c7, c8, c9, c10, c11, c12, c13, c14, c15, cl⟩ := cells16 hB
      have rf : ∀ k, wr.frozen? ⟨w.heap.size + 1, k, none⟩ = false := fun k => Joins.unfrozen_of_block hB k
      have hc := eqs.oddat k 3 wr hk (by omega)
      have ho := eqs.odd_lt k 3
      have e0 : eqs.N k 3 0 = 1 - (eqs.odd k 3 : Int) := rfl
      have e1 : eqs.N k 3 1 = (eqs.odd k 3 : Int) := rfl
      have e2 : eqs.N k 3 2 = (eqs.odd k 3 : Int) := rfl
      have e3 : eqs.N k 3 3 = 1 - (eqs.odd k 3 : Int) := rfl
      obtain ⟨d, hd⟩ : ∃ d : Int, (eqs.odd k 3 : Int) = d := ⟨_, rfl⟩
      have d0 : 0 ≤ d := by omega
      have d1 : d ≤ 1 := by omega
      rw [hd] at hc e0 e1 e2 e3
      have HE := Lib.hid (And.intro e0 (And.intro e1 (And.intro e2 e3)))
      have HC := Lib.hid hc
      have HBK := Lib.hid hB
      clear hc ho e0 e1 e2 e3 hd hB
      go_wp2_with fail
      refine HC.out.mono ?_
      rintro e w' ⟨rfl, rfl⟩
      go_wp2_with fail
      go_roundw
      case rel =>
        refine ⟨4, by omega, by go_num, Lib.hid ⟨?_, ?_, ?_⟩⟩
        · have h1 := Joins.block_setCell (i := 12) HBK.out (.int .i64 (1 - d))
          have h2 := Joins.block_setCell (i := 13) h1 (.int .i64 (d))
          have h3 := Joins.block_setCell (i := 14) h2 (.int .i64 (d))
          have h4 := Joins.block_setCell (i := 15) h3 (.int .i64 (1 - d))
          obtain ⟨e0, e1, e2, e3⟩ := HE.out
          unfold Blk
          simpa [st, e0, e1, e2, e3] using h4
        · refine hS.out.2.1.wrote (S := fun p => p.block = w.heap.size + 1) ?_ (fun p hp => by rw [hp]; omega)
          repeat (first | exact Wrote.refl _ _ | refine Wrote.setCell (S := fun p => p.block = w.heap.size + 1) ?_ (by simp) _)
        · repeat (refine Below.setCell ?_ (by simp) _)
          exact hS.out.2.2
      case measure => simp [intOf]
    · have hB : Blk wr (w.heap.size + 1) 118 #[.int .i64 (eqs.N k 0 0), .int .i64 (eqs.N k 0 1), .int .i64 (eqs.N k 0 2), .int .i64 (eqs.N k 0 3), .int .i64 (eqs.N k 1 0), .int .i64 (eqs.N k 1 1), .int .i64 (eqs.N k 1 2), .int .i64 (eqs.N k 1 3), .int .i64 (eqs.N k 2 0), .int .i64 (eqs.N k 2 1), .int .i64 (eqs.N k 2 2), .int .i64 (eqs.N k 2 3), .int .i64 (eqs.N k 3 0), .int .i64 (eqs.N k 3 1), .int .i64 (eqs.N k 3 2), .int .i64 (eqs.N k 3 3)] := by simpa [st] using hS.out.1
      obtain ⟨c0, c1, c2, c3, c4, c5, c6, c7, c8, c9, c10, c11, c12, c13, c14, c15, cl⟩ := cells16 hB
      obtain ⟨r0, r1, r2, r3, r4, r5, r6, r7, r8, r9, r10, r11, r12, r13, r14, r15, rl⟩ := cells16 hS.out.2.1
      have rf : ∀ k, wr.frozen? ⟨w.heap.size, k, none⟩ = false := fun k => Joins.unfrozen_of_block hS.out.2.1 k
      have HB := Lib.hid hS.out.2.2
      clear hS hB
      go_wp2_with fail
      refine bodyPost_ret (v := .agg #[.int .i64 (eqs.N k 0 0), .int .i64 (eqs.N k 0 1), .int .i64 (eqs.N k 0 2), .int .i64 (eqs.N k 0 3), .int .i64 (eqs.N k 1 0), .int .i64 (eqs.N k 1 1), .int .i64 (eqs.N k 1 2), .int .i64 (eqs.N k 1 3), .int .i64 (eqs.N k 2 0), .int .i64 (eqs.N k 2 1), .int .i64 (eqs.N k 2 2), .int .i64 (eqs.N k 2 3), .int .i64 (eqs.N k 3 0), .int .i64 (eqs.N k 3 1), .int .i64 (eqs.N k 3 2), .int .i64 (eqs.N k 3 3)]) (by simp [results, Try.results101, go_sem, r0, r1, r2, r3, r4, r5, r6, r7, r8, r9, r10, r11, r12, r13, r14, r15]) rfl ⟨rfl, ?_⟩
      repeat (refine Below.setCell ?_ (by simp <;> omega) _)
      exact HB.out


end Go.Proofs.Ytggodllfaggjiab.eqr
