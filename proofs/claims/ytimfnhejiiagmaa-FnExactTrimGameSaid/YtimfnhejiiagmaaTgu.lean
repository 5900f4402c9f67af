/- l1Put of the model: a number put to its place in an ascending list. -/
import Derived.Test.YtimfnhejiiagmaaTgm
import Derived.Test.YtimfnhejiiagmaaApp
import Derived.Test.YtimfnhejiiagmaaStep
import Derived.Test.YtimfnhejiiagmaaOpen
import Derived.Deep.RegionHeld3
namespace Go.Proofs.Ytimfnhejiiagmaa.tgu
open Go.RowKit Go.Deep Go.Proofs.Ytimfnhejiiagmaa.base
open Go.Proofs.Ytimfnhejiiagmaa.ints (infoInt)
open Go.Proofs.Ytimfnhejiiagmaa.tgm

theorem some_own {w : World} {B e n : Nat} {v : Value} {vals : List Value} (h : w.ownsRow B e 1 v n vals) (hn : 0 < n) : ∃ b o c, v = .slice (some ⟨b, o, none⟩) n c := by
  rcases h.2 with ⟨_, h0⟩ | ⟨g, cap, cur, rfl, _⟩
  · omega
  · exact ⟨_, _, _, rfl⟩

theorem szI (W : World) : (sizeOf 3).run Try.prog W = .ok 1 W := by kernel_rfl
theorem cut_lo (b o n c k : Nat) (hk : k ≤ n) (hn : n ≤ c) (W : World) : (Instr.slice 34 (.slice (some ⟨b, o, none⟩) n c) none (some (.int .i64 (k : Int))) none).run Try.prog W = .ok (.slice (some ⟨b, o, none⟩) k c) W := by
  have ht' : Try.prog.underlying 34 = some (.slice (Try.prog.elem 34)) := by simp [Program.elem]
  have he : Try.prog.elem 34 = 3 := by simp [Program.elem]
  rw [run_slice_h W 34 _ _ _ ht' .i64 _ (by omega) (by omega), he, szI]
  by_cases h0 : c = 0
  · simp [Result.andThen, sliced, h0]
  · simp [Result.andThen, sliced, Addr.add, h0]
theorem cut_hi (b o n c k : Nat) (hk : k ≤ n) (hn : n ≤ c) : ∃ o5 c5, (0 < n - k → o5 = o + k) ∧ (n - k ≤ c5) ∧ c5 ≤ c ∧
    ∀ W, (Instr.slice 34 (.slice (some ⟨b, o, none⟩) n c) (some (.int .i64 (k : Int))) none none).run Try.prog W = .ok (.slice (some ⟨b, o5, none⟩) (n - k) c5) W := by
  have ht' : Try.prog.underlying 34 = some (.slice (Try.prog.elem 34)) := by simp [Program.elem]
  have he : Try.prog.elem 34 = 3 := by simp [Program.elem]
  refine ⟨if c = k then o else o + k, c - k, fun h => by rw [if_neg (by omega)], by omega, by omega, fun W => ?_⟩
  rw [run_slice_l W 34 _ _ _ ht' .i64 _ (by omega) (by omega), he, szI]
  by_cases h0 : c = k
  · simp [Result.andThen, sliced, h0]
  · simp [Result.andThen, sliced, Addr.add, h0]
set_option maxRecDepth 100000 in
set_option maxHeartbeats 4000000 in
theorem l1put (b o pc : Nat) (xs : List Int) (n : Int) (w : World) (h : Ints w (.slice (some ⟨b, o, none⟩) xs.length pc) xs) (hl : xs.length ≤ 8) :
    Calls Try.prog 150 #[.slice (some ⟨b, o, none⟩) xs.length pc, .int .i64 n] w fun e w' => ∃ b' o' pc' k, k ≤ xs.length ∧ (∀ j, j < k → xs.getD j 0 < n) ∧ (k < xs.length → n ≤ xs.getD k 0) ∧ e = .returned (.slice (some ⟨b', o', none⟩) (putAt xs n k).length pc') ∧ Ints w' (.slice (some ⟨b', o', none⟩) (putAt xs n k).length pc') (putAt xs n k) ∧ Below w.heap.size w w' := by
  obtain ⟨i0, hi, hz0, hz1, hz2⟩ := info_parts infoInt
  have HI := Lib.hid h
  obtain ⟨A, b1, o1, cap1, hv, hcap, hmax, hA, hc⟩ := h.form
  injection hv with e1 e2 e3
  subst e3
  have HC : Hid (∀ k, k < xs.length → w.cell? ⟨b, o + k, none⟩ = some (.int .i64 (xs.getD k 0))) := Lib.hid (fun k hk => by
    have := hc k hk
    rw [hA (by omega)] at e1
    injection e1 with e1
    injection e1 with q1 q2 _
    rw [q1, q2, this]
    simp [List.getD, hk])
  clear h e1 e2 hA hc
  go_enter Try.func150, Try.ntmps150
  go_wp2_with fail
  go_loopw [5] (fun s wr => ∃ k : Nat, k ≤ xs.length ∧ s = .int .i64 (k : Nat) ∧ Hid (∀ j, j < k → xs.getD j 0 < n) ∧ Hid (Below w.heap.size w wr)) (fun s _ => xs.length - (intOf s).toNat)
  case atStart => exact ⟨0, Nat.zero_le _, rfl, Lib.hid (fun j hj => absurd hj (Nat.not_lt_zero _)), Below.refl _ _⟩
  case round =>
    obtain ⟨k, hk, rfl, hlo, hB⟩ := hrel
    obtain ⟨wi, rfl⟩ : ∃ wi : World, wi = wr := ⟨_, rfl⟩
    by_cases hlt : k < xs.length
    · have hkz : (k : Int) < (xs.length : Int) := by omega
      have f1 := below_cell hB.out _ _ (HC.out k hlt)
      obtain ⟨z, hz⟩ : ∃ z, xs.getD k 0 = z := ⟨_, rfl⟩
      rw [hz] at f1
      have HZ := Lib.hid hz
      have HLT := Lib.hid hlt
      clear hz
      by_cases hzn : z < n
      · have dz : decide (z < n) = true := by simp [hzn]
        have HZN := Lib.hid hzn
        clear hzn
        go_wp2_with fail
        go_roundw
        case rel => exact ⟨k + 1, by have := HLT.out; omega, by go_num, Lib.hid (fun j hj => by
          by_cases e : j = k
          · subst e; rw [HZ.out]; exact HZN.out
          · exact hlo.out j (by omega)), hB⟩
        case measure => have := HLT.out; simp [intOf]; omega
      · have dz : decide (z < n) = false := by simp; omega
        by_cases hen : z = n
        · have de : (z == n) = true := by simp [hen]
          have HP : Hid (putAt xs n k = xs) := Lib.hid (by
            unfold putAt
            have : xs[k]? = some n := by rw [List.getElem?_eq_getElem HLT.out]; have := HZ.out; rw [List.getD_eq_getElem?_getD, List.getElem?_eq_getElem HLT.out] at this; simp at this; rw [this, hen]
            rw [if_pos this])
          have HE := Lib.hid hen
          clear hen hzn
          go_wp2_with fail
          go_ret
          refine ⟨b, o, pc, k, hk, hlo.out, fun _ => by rw [HZ.out, HE.out]; exact Int.le_refl _, by rw [HP.out]; rfl, by rw [HP.out]; exact HI.out.below hB.out, hB.out⟩
        · have de : (z == n) = false := by simp [hen]
          have HNX : Hid (putAt xs n k = xs.take k ++ n :: xs.drop k) := Lib.hid (by
            unfold putAt
            rw [if_neg (fun e => hen (by rw [← HZ.out, List.getD_eq_getElem?_getD, e]; rfl))])
          have HHI : Hid (k < xs.length → n ≤ xs.getD k 0) := Lib.hid (fun _ => by rw [HZ.out]; omega)
          clear hen hzn
          have HNM : Hid (putAt xs n k = xs.take k ++ n :: xs.drop k) := Lib.hid HNX.out
          have HKL := Lib.hid hk
          have pcb : xs.length ≤ pc := hcap
          have hcl := cut_lo b o xs.length pc k hk hcap
          obtain ⟨o5, c5, ho5, hc5, hc6, hch⟩ := cut_hi b o xs.length pc k hk hcap
          have HO5 := Lib.hid ho5
          clear ho5
          have HLO := hlo
          have CF1 : Hid (∀ W, Below wi.heap.size wi W → ∀ j u, (i64s (xs.take k))[j]? = some u → W.cell? ((⟨b, o, none⟩ : Addr).add j) = some u) := Lib.hid (fun W hW j u hu => by
            have hj : j < (xs.take k).length := by have := (List.getElem?_eq_some_iff.1 hu).1; rw [len_i64s] at this; exact this
            rw [get_i64s hj] at hu
            rw [List.length_take] at hj
            injection hu with hu
            have h1 := below_cell (below_tr hB.out hW) _ _ (HC.out j (by omega))
            rw [opn.add_none, h1, ← hu]
            simp [List.getD, show j < xs.length by omega])
          have CF2 : Hid (∀ W, Below wi.heap.size wi W → ∀ j u, (i64s (xs.drop k))[j]? = some u → W.cell? ((⟨b, o5, none⟩ : Addr).add j) = some u) := Lib.hid (fun W hW j u hu => by
            have hj : j < (xs.drop k).length := by have := (List.getElem?_eq_some_iff.1 hu).1; rw [len_i64s] at this; exact this
            rw [get_i64s hj] at hu
            rw [List.length_drop] at hj
            injection hu with hu
            have h1 := below_cell (below_tr hB.out hW) _ _ (HC.out (k + j) (by omega))
            rw [HO5.out (by omega), opn.add_none, show o + k + j = o + (k + j) by omega, h1, ← hu]
            simp [List.getD, show k + j < xs.length by omega])
          have L1 : Hid ((i64s (xs.take k)).length = k * 1) := Lib.hid (by rw [len_i64s, List.length_take]; have := HKL.out; omega)
          have L2 : Hid ((i64s (xs.drop k)).length = (xs.length - k) * 1) := Lib.hid (by rw [len_i64s, List.length_drop]; omega)
          have U1 : Hid (∀ L : List Int, ∀ u ∈ i64s L, u.oneCell' = true) := Lib.hid (fun L u hu => by obtain ⟨z, _, rfl⟩ := List.mem_map.1 hu; rfl)
          have b1 : 0 + k ≤ maxLen := by unfold maxLen; omega
          have b2 : (0 + k) * 8 ≤ 140737488355328 := by omega
          have b3 : 0 + k + 1 ≤ maxLen := by unfold maxLen; omega
          have b4 : (0 + k + 1) * 8 ≤ 140737488355328 := by omega
          have b5 : 0 + k + 1 + (xs.length - k) ≤ maxLen := by unfold maxLen; omega
          have b6 : (0 + k + 1 + (xs.length - k)) * 8 ≤ 140737488355328 := by omega
          have O1 : Hid ((wi.alloc (.cells #[] 3)).ownsRow wi.heap.size 3 1 (.slice (some ⟨wi.heap.size, 0, none⟩) 0 0) 0 []) := Lib.hid (World.ownsRow_made (base := wi.heap.size) (e := 3) (size := 1) wi #[] 0 (Nat.le_refl _) (Nat.zero_le _) rfl)
          have P1 : Hid ((wi.alloc (.cells #[] 3)).drew.ownsRow wi.heap.size 3 1 (.slice (some ⟨wi.heap.size, 0, none⟩) 0 0) 0 [] ∧ Below wi.heap.size wi (wi.alloc (.cells #[] 3)).drew) := Lib.hid ⟨app.owns_below O1.out (below_dr (Below.refl _ _)), below_dr (below_al (Below.refl _ _) _)⟩
          have P2 : Hid (((wi.alloc (.cells #[] 3)).alloc (.cells #[.int .i64 n] 3)).drew.ownsRow wi.heap.size 3 1 (.slice (some ⟨wi.heap.size, 0, none⟩) 0 0) 0 [] ∧ Below wi.heap.size wi ((wi.alloc (.cells #[] 3)).alloc (.cells #[.int .i64 n] 3)).drew) := Lib.hid ⟨app.owns_below O1.out (below_dr (below_al (Below.refl _ _) _)), below_dr (below_al (below_al (Below.refl _ _) _) _)⟩
          have P3 : Hid (((wi.alloc (.cells #[.int .i64 n] 3)).alloc (.cells #[] 3)).drew.ownsRow wi.heap.size 3 1 (.slice (some ⟨wi.heap.size + 1, 0, none⟩) 0 0) 0 [] ∧ Below wi.heap.size wi ((wi.alloc (.cells #[.int .i64 n] 3)).alloc (.cells #[] 3)).drew) := Lib.hid ⟨by
            have := World.ownsRow_made (base := wi.heap.size) (e := 3) (size := 1) (wi.alloc (.cells #[.int .i64 n] 3)) #[] 0 (by simp) (Nat.zero_le _) rfl
            have := app.owns_below this (below_dr (Below.refl _ _))
            simpa using this, below_dr (below_al (below_al (Below.refl _ _) _) _)⟩
          have G1 : Hid (∀ w1, (wi.alloc (.cells #[] 3)).drew.grownBy w1 (Value.ownBlock (.slice (some ⟨wi.heap.size, 0, none⟩) 0 0)) → Below wi.heap.size wi w1) := Lib.hid (fun w1 hg => P1.out.2.grown hg P1.out.2.size (fun q hq => (P1.out.1.lt q hq).1))
          have G2 : Hid (∀ w1, ((wi.alloc (.cells #[] 3)).alloc (.cells #[.int .i64 n] 3)).drew.grownBy w1 (Value.ownBlock (.slice (some ⟨wi.heap.size, 0, none⟩) 0 0)) → Below wi.heap.size wi w1 ∧ ∀ j u, [Value.int .i64 n][j]? = some u → w1.cell? ((⟨wi.heap.size + 1, 0, none⟩ : Addr).add j) = some u) := Lib.hid (fun w1 hg => ⟨P2.out.2.grown hg P2.out.2.size (fun q hq => (P2.out.1.lt q hq).1), fun j u hu => by
            have h5 := app.one_at (wi.alloc (.cells #[] 3)) (.int .i64 n) 3 j u hu
            have h6 : ((wi.alloc (.cells #[] 3)).alloc (.cells #[.int .i64 n] 3)).drew.cell? ((⟨wi.heap.size + 1, 0, none⟩ : Addr).add j) = some u := by simpa using h5
            exact hg.cell h6 (by rw [opn.add_none]; simp [Value.ownBlock])⟩)
          have G3 : Hid (∀ w1, ((wi.alloc (.cells #[.int .i64 n] 3)).alloc (.cells #[] 3)).drew.grownBy w1 (Value.ownBlock (.slice (some ⟨wi.heap.size + 1, 0, none⟩) 0 0)) → Below wi.heap.size wi w1 ∧ ∀ j u, [Value.int .i64 n][j]? = some u → w1.cell? ((⟨wi.heap.size, 0, none⟩ : Addr).add j) = some u) := Lib.hid (fun w1 hg => ⟨P3.out.2.grown hg P3.out.2.size (fun q hq => (P3.out.1.lt q hq).1), fun j u hu => by
            have h5 := app.one_at wi (.int .i64 n) 3 j u hu
            have h6 := below_cell (below_dr (below_al (Below.refl (wi.alloc (.cells #[.int .i64 n] 3)).heap.size (wi.alloc (.cells #[.int .i64 n] 3))) (.cells #[] 3))) _ _ h5
            exact hg.cell h6 (by rw [opn.add_none]; simp [Value.ownBlock])⟩)
          clear O1
          go_wp2_with fail
          go_region_held3 (fun _ => True)
            (trivial)
            (first
              | ((with_reducible refine step.own rfl (.tmp 33) (.tmp 36) 34 rfl 3 i0 (.int .i64 0) 1 8 Try.underlying34 hi hz0 hz1 hz2 rfl (by decide) wi.heap.size _ 0 [] P1.out.1 (by simp [Act.eval]) ⟨b, o, none⟩ k pc (i64s (xs.take k)) (by simp [Act.eval]) L1.out (CF1.out _ P1.out.2) (U1.out _) b1 b2 P1.out.2.size ?_); intro v1 w1 ho1 hg1; have bw1 := G1.out w1 hg1)
              | ((with_reducible refine step.own rfl (.tmp 33) (.tmp 36) 34 rfl 3 i0 (.int .i64 0) 1 8 Try.underlying34 hi hz0 hz1 hz2 rfl (by decide) wi.heap.size _ 0 [] P2.out.1 (by simp [Act.eval]) ⟨b, o, none⟩ k pc (i64s (xs.take k)) (by simp [Act.eval]) L1.out (CF1.out _ P2.out.2) (U1.out _) b1 b2 P2.out.2.size ?_); intro v1 w1 ho1 hg1; obtain ⟨bw1, hn1⟩ := G2.out w1 hg1)
              | ((with_reducible refine step.own rfl (.tmp 33) (.tmp 36) 34 rfl 3 i0 (.int .i64 0) 1 8 Try.underlying34 hi hz0 hz1 hz2 rfl (by decide) wi.heap.size _ 0 [] P3.out.1 (by simp [Act.eval]) ⟨b, o, none⟩ k pc (i64s (xs.take k)) (by simp [Act.eval]) L1.out (CF1.out _ P3.out.2) (U1.out _) b1 b2 P3.out.2.size ?_); intro v1 w1 ho1 hg1; obtain ⟨bw1, hn1⟩ := G3.out w1 hg1)
              | ((refine step.own rfl (.tmp 37) (.tmp 39) 34 rfl 3 i0 (.int .i64 0) 1 8 Try.underlying34 hi hz0 hz1 hz2 rfl (by decide) wi.heap.size _ (0 + k) ([] ++ i64s (xs.take k)) (ho1.alloc _) (by simp [Act.eval]) ⟨w1.heap.size, 0, none⟩ 1 1 [.int .i64 n] (by simp [Act.eval]) rfl (app.one_at _ _ _) (by intro u hu; simp at hu; subst hu; rfl) b3 b4 (below_al bw1 (.cells #[.int .i64 n] 3)).size ?_); intro v2 w2 ho2 hg2; have bw2 := (below_al bw1 (.cells #[.int .i64 n] 3)).grown hg2 (below_al bw1 (.cells #[.int .i64 n] 3)).size (fun q hq => (ho1.lt q hq).1))
              | ((refine step.own rfl (.tmp 37) (.tmp 39) 34 rfl 3 i0 (.int .i64 0) 1 8 Try.underlying34 hi hz0 hz1 hz2 rfl (by decide) wi.heap.size _ (0 + k) ([] ++ i64s (xs.take k)) ho1 (by simp [Act.eval]) ⟨wi.heap.size + 1, 0, none⟩ 1 1 [.int .i64 n] (by simp [Act.eval]) rfl hn1 (by intro u hu; simp at hu; subst hu; rfl) b3 b4 bw1.size ?_); intro v2 w2 ho2 hg2; have bw2 := bw1.grown hg2 bw1.size (fun q hq => (ho1.lt q hq).1))
              | ((refine step.own rfl (.tmp 37) (.tmp 39) 34 rfl 3 i0 (.int .i64 0) 1 8 Try.underlying34 hi hz0 hz1 hz2 rfl (by decide) wi.heap.size _ (0 + k) ([] ++ i64s (xs.take k)) ho1 (by simp [Act.eval]) ⟨wi.heap.size, 0, none⟩ 1 1 [.int .i64 n] (by simp [Act.eval]) rfl hn1 (by intro u hu; simp at hu; subst hu; rfl) b3 b4 bw1.size ?_); intro v2 w2 ho2 hg2; have bw2 := bw1.grown hg2 bw1.size (fun q hq => (ho1.lt q hq).1))
              | ((refine step.own rfl (.tmp 40) (.tmp 43) 34 rfl 3 i0 (.int .i64 0) 1 8 Try.underlying34 hi hz0 hz1 hz2 rfl (by decide) wi.heap.size _ (0 + k + 1) ([] ++ i64s (xs.take k) ++ [.int .i64 n]) ho2 (by simp [Act.eval]) ⟨b, o5, none⟩ (xs.length - k) c5 (i64s (xs.drop k)) (by simp [Act.eval]) L2.out (CF2.out _ bw2) (U1.out _) b5 b6 bw2.size ?_); intro v3 w3 ho3 hg3; have bw3 := bw2.grown hg3 bw2.size (fun q hq => (ho2.lt q hq).1)))
          all_goals
            have HLN : Hid ((putAt xs n k).length = 0 + k + 1 + (xs.length - k)) := Lib.hid (by have hkl := HKL.out; rw [HNM.out, List.length_append, List.length_take, List.length_cons, List.length_drop, Nat.min_eq_left hkl]; omega)
            have HI4 : Hid (Ints w3 v3 (putAt xs n k)) := Lib.hid (by
              rw [HNM.out]
              exact (app.ints_of_owns (xs := xs.take k ++ n :: xs.drop k) (by simpa [i64s] using ho3)).ints)
            have BB := Lib.hid (below_tr hB.out bw3)
            obtain ⟨g4, o4, c4, rfl⟩ := some_own ho3 (show 0 < 0 + k + 1 + (xs.length - k) by omega)
            rw [← HLN.out] at HI4
            clear hcl hch ho1 hg1 ho2 hg2 ho3 hg3
            go_wp2_with fail
            go_ret
            exact ⟨g4, o4, c4, k, HKL.out, HLO.out, HHI.out, by rw [HLN.out]; rfl, HI4.out, BB.out⟩
    · have hkz : ¬ (k : Int) < (xs.length : Int) := by omega
      have HNX : Hid (putAt xs n k = xs.take k ++ n :: xs.drop k) := Lib.hid (by
        unfold putAt
        rw [if_neg (by rw [List.getElem?_eq_none (by omega)]; simp)])
      have HHI : Hid (k < xs.length → n ≤ xs.getD k 0) := Lib.hid (fun h => absurd h hlt)
      clear hlt
      have HNM : Hid (putAt xs n k = xs.take k ++ n :: xs.drop k) := Lib.hid HNX.out
      have HKL := Lib.hid hk
      have pcb : xs.length ≤ pc := hcap
      have hcl := cut_lo b o xs.length pc k hk hcap
      obtain ⟨o5, c5, ho5, hc5, hc6, hch⟩ := cut_hi b o xs.length pc k hk hcap
      have HO5 := Lib.hid ho5
      clear ho5
      have HLO := hlo
      have CF1 : Hid (∀ W, Below wi.heap.size wi W → ∀ j u, (i64s (xs.take k))[j]? = some u → W.cell? ((⟨b, o, none⟩ : Addr).add j) = some u) := Lib.hid (fun W hW j u hu => by
        have hj : j < (xs.take k).length := by have := (List.getElem?_eq_some_iff.1 hu).1; rw [len_i64s] at this; exact this
        rw [get_i64s hj] at hu
        rw [List.length_take] at hj
        injection hu with hu
        have h1 := below_cell (below_tr hB.out hW) _ _ (HC.out j (by omega))
        rw [opn.add_none, h1, ← hu]
        simp [List.getD, show j < xs.length by omega])
      have CF2 : Hid (∀ W, Below wi.heap.size wi W → ∀ j u, (i64s (xs.drop k))[j]? = some u → W.cell? ((⟨b, o5, none⟩ : Addr).add j) = some u) := Lib.hid (fun W hW j u hu => by
        have hj : j < (xs.drop k).length := by have := (List.getElem?_eq_some_iff.1 hu).1; rw [len_i64s] at this; exact this
        rw [get_i64s hj] at hu
        rw [List.length_drop] at hj
        injection hu with hu
        have h1 := below_cell (below_tr hB.out hW) _ _ (HC.out (k + j) (by omega))
        rw [HO5.out (by omega), opn.add_none, show o + k + j = o + (k + j) by omega, h1, ← hu]
        simp [List.getD, show k + j < xs.length by omega])
      have L1 : Hid ((i64s (xs.take k)).length = k * 1) := Lib.hid (by rw [len_i64s, List.length_take]; have := HKL.out; omega)
      have L2 : Hid ((i64s (xs.drop k)).length = (xs.length - k) * 1) := Lib.hid (by rw [len_i64s, List.length_drop]; omega)
      have U1 : Hid (∀ L : List Int, ∀ u ∈ i64s L, u.oneCell' = true) := Lib.hid (fun L u hu => by obtain ⟨z, _, rfl⟩ := List.mem_map.1 hu; rfl)
      have b1 : 0 + k ≤ maxLen := by unfold maxLen; omega
      have b2 : (0 + k) * 8 ≤ 140737488355328 := by omega
      have b3 : 0 + k + 1 ≤ maxLen := by unfold maxLen; omega
      have b4 : (0 + k + 1) * 8 ≤ 140737488355328 := by omega
      have b5 : 0 + k + 1 + (xs.length - k) ≤ maxLen := by unfold maxLen; omega
      have b6 : (0 + k + 1 + (xs.length - k)) * 8 ≤ 140737488355328 := by omega
      have O1 : Hid ((wi.alloc (.cells #[] 3)).ownsRow wi.heap.size 3 1 (.slice (some ⟨wi.heap.size, 0, none⟩) 0 0) 0 []) := Lib.hid (World.ownsRow_made (base := wi.heap.size) (e := 3) (size := 1) wi #[] 0 (Nat.le_refl _) (Nat.zero_le _) rfl)
      have P1 : Hid ((wi.alloc (.cells #[] 3)).drew.ownsRow wi.heap.size 3 1 (.slice (some ⟨wi.heap.size, 0, none⟩) 0 0) 0 [] ∧ Below wi.heap.size wi (wi.alloc (.cells #[] 3)).drew) := Lib.hid ⟨app.owns_below O1.out (below_dr (Below.refl _ _)), below_dr (below_al (Below.refl _ _) _)⟩
      have P2 : Hid (((wi.alloc (.cells #[] 3)).alloc (.cells #[.int .i64 n] 3)).drew.ownsRow wi.heap.size 3 1 (.slice (some ⟨wi.heap.size, 0, none⟩) 0 0) 0 [] ∧ Below wi.heap.size wi ((wi.alloc (.cells #[] 3)).alloc (.cells #[.int .i64 n] 3)).drew) := Lib.hid ⟨app.owns_below O1.out (below_dr (below_al (Below.refl _ _) _)), below_dr (below_al (below_al (Below.refl _ _) _) _)⟩
      have P3 : Hid (((wi.alloc (.cells #[.int .i64 n] 3)).alloc (.cells #[] 3)).drew.ownsRow wi.heap.size 3 1 (.slice (some ⟨wi.heap.size + 1, 0, none⟩) 0 0) 0 [] ∧ Below wi.heap.size wi ((wi.alloc (.cells #[.int .i64 n] 3)).alloc (.cells #[] 3)).drew) := Lib.hid ⟨by
        have := World.ownsRow_made (base := wi.heap.size) (e := 3) (size := 1) (wi.alloc (.cells #[.int .i64 n] 3)) #[] 0 (by simp) (Nat.zero_le _) rfl
        have := app.owns_below this (below_dr (Below.refl _ _))
        simpa using this, below_dr (below_al (below_al (Below.refl _ _) _) _)⟩
      have G1 : Hid (∀ w1, (wi.alloc (.cells #[] 3)).drew.grownBy w1 (Value.ownBlock (.slice (some ⟨wi.heap.size, 0, none⟩) 0 0)) → Below wi.heap.size wi w1) := Lib.hid (fun w1 hg => P1.out.2.grown hg P1.out.2.size (fun q hq => (P1.out.1.lt q hq).1))
      have G2 : Hid (∀ w1, ((wi.alloc (.cells #[] 3)).alloc (.cells #[.int .i64 n] 3)).drew.grownBy w1 (Value.ownBlock (.slice (some ⟨wi.heap.size, 0, none⟩) 0 0)) → Below wi.heap.size wi w1 ∧ ∀ j u, [Value.int .i64 n][j]? = some u → w1.cell? ((⟨wi.heap.size + 1, 0, none⟩ : Addr).add j) = some u) := Lib.hid (fun w1 hg => ⟨P2.out.2.grown hg P2.out.2.size (fun q hq => (P2.out.1.lt q hq).1), fun j u hu => by
        have h5 := app.one_at (wi.alloc (.cells #[] 3)) (.int .i64 n) 3 j u hu
        have h6 : ((wi.alloc (.cells #[] 3)).alloc (.cells #[.int .i64 n] 3)).drew.cell? ((⟨wi.heap.size + 1, 0, none⟩ : Addr).add j) = some u := by simpa using h5
        exact hg.cell h6 (by rw [opn.add_none]; simp [Value.ownBlock])⟩)
      have G3 : Hid (∀ w1, ((wi.alloc (.cells #[.int .i64 n] 3)).alloc (.cells #[] 3)).drew.grownBy w1 (Value.ownBlock (.slice (some ⟨wi.heap.size + 1, 0, none⟩) 0 0)) → Below wi.heap.size wi w1 ∧ ∀ j u, [Value.int .i64 n][j]? = some u → w1.cell? ((⟨wi.heap.size, 0, none⟩ : Addr).add j) = some u) := Lib.hid (fun w1 hg => ⟨P3.out.2.grown hg P3.out.2.size (fun q hq => (P3.out.1.lt q hq).1), fun j u hu => by
        have h5 := app.one_at wi (.int .i64 n) 3 j u hu
        have h6 := below_cell (below_dr (below_al (Below.refl (wi.alloc (.cells #[.int .i64 n] 3)).heap.size (wi.alloc (.cells #[.int .i64 n] 3))) (.cells #[] 3))) _ _ h5
        exact hg.cell h6 (by rw [opn.add_none]; simp [Value.ownBlock])⟩)
      clear O1
      go_wp2_with fail
      go_region_held3 (fun _ => True)
        (trivial)
        (first
          | ((with_reducible refine step.own rfl (.tmp 33) (.tmp 36) 34 rfl 3 i0 (.int .i64 0) 1 8 Try.underlying34 hi hz0 hz1 hz2 rfl (by decide) wi.heap.size _ 0 [] P1.out.1 (by simp [Act.eval]) ⟨b, o, none⟩ k pc (i64s (xs.take k)) (by simp [Act.eval]) L1.out (CF1.out _ P1.out.2) (U1.out _) b1 b2 P1.out.2.size ?_); intro v1 w1 ho1 hg1; have bw1 := G1.out w1 hg1)
          | ((with_reducible refine step.own rfl (.tmp 33) (.tmp 36) 34 rfl 3 i0 (.int .i64 0) 1 8 Try.underlying34 hi hz0 hz1 hz2 rfl (by decide) wi.heap.size _ 0 [] P2.out.1 (by simp [Act.eval]) ⟨b, o, none⟩ k pc (i64s (xs.take k)) (by simp [Act.eval]) L1.out (CF1.out _ P2.out.2) (U1.out _) b1 b2 P2.out.2.size ?_); intro v1 w1 ho1 hg1; obtain ⟨bw1, hn1⟩ := G2.out w1 hg1)
          | ((with_reducible refine step.own rfl (.tmp 33) (.tmp 36) 34 rfl 3 i0 (.int .i64 0) 1 8 Try.underlying34 hi hz0 hz1 hz2 rfl (by decide) wi.heap.size _ 0 [] P3.out.1 (by simp [Act.eval]) ⟨b, o, none⟩ k pc (i64s (xs.take k)) (by simp [Act.eval]) L1.out (CF1.out _ P3.out.2) (U1.out _) b1 b2 P3.out.2.size ?_); intro v1 w1 ho1 hg1; obtain ⟨bw1, hn1⟩ := G3.out w1 hg1)
          | ((refine step.own rfl (.tmp 37) (.tmp 39) 34 rfl 3 i0 (.int .i64 0) 1 8 Try.underlying34 hi hz0 hz1 hz2 rfl (by decide) wi.heap.size _ (0 + k) ([] ++ i64s (xs.take k)) (ho1.alloc _) (by simp [Act.eval]) ⟨w1.heap.size, 0, none⟩ 1 1 [.int .i64 n] (by simp [Act.eval]) rfl (app.one_at _ _ _) (by intro u hu; simp at hu; subst hu; rfl) b3 b4 (below_al bw1 (.cells #[.int .i64 n] 3)).size ?_); intro v2 w2 ho2 hg2; have bw2 := (below_al bw1 (.cells #[.int .i64 n] 3)).grown hg2 (below_al bw1 (.cells #[.int .i64 n] 3)).size (fun q hq => (ho1.lt q hq).1))
          | ((refine step.own rfl (.tmp 37) (.tmp 39) 34 rfl 3 i0 (.int .i64 0) 1 8 Try.underlying34 hi hz0 hz1 hz2 rfl (by decide) wi.heap.size _ (0 + k) ([] ++ i64s (xs.take k)) ho1 (by simp [Act.eval]) ⟨wi.heap.size + 1, 0, none⟩ 1 1 [.int .i64 n] (by simp [Act.eval]) rfl hn1 (by intro u hu; simp at hu; subst hu; rfl) b3 b4 bw1.size ?_); intro v2 w2 ho2 hg2; have bw2 := bw1.grown hg2 bw1.size (fun q hq => (ho1.lt q hq).1))
          | ((refine step.own rfl (.tmp 37) (.tmp 39) 34 rfl 3 i0 (.int .i64 0) 1 8 Try.underlying34 hi hz0 hz1 hz2 rfl (by decide) wi.heap.size _ (0 + k) ([] ++ i64s (xs.take k)) ho1 (by simp [Act.eval]) ⟨wi.heap.size, 0, none⟩ 1 1 [.int .i64 n] (by simp [Act.eval]) rfl hn1 (by intro u hu; simp at hu; subst hu; rfl) b3 b4 bw1.size ?_); intro v2 w2 ho2 hg2; have bw2 := bw1.grown hg2 bw1.size (fun q hq => (ho1.lt q hq).1))
          | ((refine step.own rfl (.tmp 40) (.tmp 43) 34 rfl 3 i0 (.int .i64 0) 1 8 Try.underlying34 hi hz0 hz1 hz2 rfl (by decide) wi.heap.size _ (0 + k + 1) ([] ++ i64s (xs.take k) ++ [.int .i64 n]) ho2 (by simp [Act.eval]) ⟨b, o5, none⟩ (xs.length - k) c5 (i64s (xs.drop k)) (by simp [Act.eval]) L2.out (CF2.out _ bw2) (U1.out _) b5 b6 bw2.size ?_); intro v3 w3 ho3 hg3; have bw3 := bw2.grown hg3 bw2.size (fun q hq => (ho2.lt q hq).1)))
      all_goals
        have HLN : Hid ((putAt xs n k).length = 0 + k + 1 + (xs.length - k)) := Lib.hid (by have hkl := HKL.out; rw [HNM.out, List.length_append, List.length_take, List.length_cons, List.length_drop, Nat.min_eq_left hkl]; omega)
        have HI4 : Hid (Ints w3 v3 (putAt xs n k)) := Lib.hid (by
          rw [HNM.out]
          exact (app.ints_of_owns (xs := xs.take k ++ n :: xs.drop k) (by simpa [i64s] using ho3)).ints)
        have BB := Lib.hid (below_tr hB.out bw3)
        obtain ⟨g4, o4, c4, rfl⟩ := some_own ho3 (show 0 < 0 + k + 1 + (xs.length - k) by omega)
        rw [← HLN.out] at HI4
        clear hcl hch ho1 hg1 ho2 hg2 ho3 hg3
        go_wp2_with fail
        go_ret
        exact ⟨g4, o4, c4, k, HKL.out, HLO.out, HHI.out, by rw [HLN.out]; rfl, HI4.out, BB.out⟩

end Go.Proofs.Ytimfnhejiiagmaa.tgu
