/- The triple agreements of a Trio: both sides. -/
import Derived.Test.YtomofmmecpdalaaTrn
import Derived.Test.YtomofmmecpdalaaApp
namespace Go.Proofs.Ytomofmmecpdalaa.tra
open Go.RowKit Go.Deep Go.Proofs.Ytomofmmecpdalaa.base
open Go.Proofs.Ytomofmmecpdalaa.ints (infoInt)
open Go.Proofs.Ytomofmmecpdalaa.rws (total)
open Go.Proofs.Ytomofmmecpdalaa.tri (two_cells)
open Go.Proofs.Ytomofmmecpdalaa.trb (at3 tb b3 par parity_k)
open Go.Proofs.Ytomofmmecpdalaa.trn (tc tc_in forms shape_of)
open Go.Proofs.Ytomofmmecpdalaa.trv (okTrio trioB trioB_yes trioB_no)

def sg (k : Nat) : Int := 1 - 2 * (par k : Int)
def ag (xss : List (List Int)) (q : Nat) : Nat → Int
  | 0 => 0
  | n + 1 => ag xss q n + sg n * tc xss q n
theorem par_le (k : Nat) : par k ≤ 1 := by unfold par; omega
theorem sg_mul (k : Nat) (z : Int) : sg k * z = z ∨ sg k * z = -z := by
  have := par_le k
  obtain h | h : par k = 0 ∨ par k = 1 := by omega
  · left; unfold sg; rw [h]; simp
  · right; unfold sg; rw [h]; simp
theorem ag_in {wh : Int} {xss : List (List Int)} (h : okTrio wh xss) {q : Nat} (hq : q < 8) : ∀ n : Nat, n ≤ 8 → -(1000 * (n : Int)) ≤ ag xss q n ∧ ag xss q n ≤ 1000 * (n : Int)
  | 0, _ => by simp [ag]
  | n + 1, hn => by
    obtain ⟨h1, h2⟩ := ag_in h hq n (by omega)
    obtain ⟨h3, h4⟩ := tc_in h hq (show n < 8 by omega)
    have := sg_mul n (tc xss q n)
    simp only [ag]
    push_cast
    omega
/-- the facts that one step of the sum wants -/
theorem step {wh : Int} {xss : List (List Int)} (h : okTrio wh xss) {q n : Nat} (hq : q < 8) (hn : n < 8) :
    IntKind.i64.wrap (2 * (par n : Int)) = 2 * (par n : Int) ∧ IntKind.i64.wrap (1 - 2 * (par n : Int)) = sg n ∧ IntKind.i64.wrap (sg n * tc xss q n) = sg n * tc xss q n ∧ IntKind.i64.wrap (ag xss q n + sg n * tc xss q n) = ag xss q (n + 1) := by
  obtain ⟨h1, h2⟩ := ag_in h hq n (by omega)
  obtain ⟨h3, h4⟩ := tc_in h hq hn
  have h5 := sg_mul n (tc xss q n)
  have h6 := par_le n
  refine ⟨IntWalk.i64_in _ (by omega), IntWalk.i64_in _ (by omega), IntWalk.i64_in _ (by omega), IntWalk.i64_in _ (by omega)⟩
def ags (xss : List (List Int)) (n : Nat) : List Int := (List.range n).map fun q => ag xss q 8
theorem len_ags (xss : List (List Int)) (n : Nat) : (ags xss n).length = n := by simp [ags]
theorem ags_succ (xss : List (List Int)) (n : Nat) : ags xss (n + 1) = ags xss n ++ [ag xss n 8] := by simp [ags, List.range_succ]
open Classical in
/-- what TripleAgreements answers -/
noncomputable def resA (wh : Int) (xss : List (List Int)) : List Int × Bool := if okTrio wh xss then (ags xss 8, true) else ([], false)
theorem resA_yes {wh : Int} {xss : List (List Int)} (h : okTrio wh xss) : resA wh xss = (ags xss 8, true) := if_pos h
theorem resA_no {wh : Int} {xss : List (List Int)} (h : ¬ okTrio wh xss) : resA wh xss = ([], false) := if_neg h
theorem len_resA (wh : Int) (xss : List (List Int)) : (resA wh xss).1.length ≤ 1048576 := by
  by_cases h : okTrio wh xss
  · rw [resA_yes h, len_ags]; omega
  · rw [resA_no h]; simp


theorem spar (k : Nat) (hk : k < 8) (w : World) : Calls Try.prog 86 #[.int .i64 (k : Int)] w fun e w' => e = .returned (.int .i64 ((par k : Nat) : Int)) ∧ w = w' := by
  obtain rfl | rfl | rfl | rfl | rfl | rfl | rfl | rfl : k = 0 ∨ k = 1 ∨ k = 2 ∨ k = 3 ∨ k = 4 ∨ k = 5 ∨ k = 6 ∨ k = 7 := by omega
  all_goals
    go_enter Try.func86, Try.ntmps86
    go_wp2
    go_ret
    exact ⟨ints.ret_int (by first | decide | rfl | decide +kernel), rfl⟩



theorem sturn (k : Nat) (hk : k < 8) (w : World) : Calls Try.prog 84 #[.int .i64 (k : Int)] w fun e w' => e = .returned (.int .i64 ((k / 2 + k % 2 * 4 : Nat) : Int)) ∧ w = w' := by
  obtain rfl | rfl | rfl | rfl | rfl | rfl | rfl | rfl : k = 0 ∨ k = 1 ∨ k = 2 ∨ k = 3 ∨ k = 4 ∨ k = 5 ∨ k = 6 ∨ k = 7 := by omega
  all_goals
    go_enter Try.func84, Try.ntmps84
    go_wp2
    go_ret
    exact ⟨ints.ret_int (by first | decide | rfl | decide +kernel), rfl⟩



set_option maxHeartbeats 8000000 in
theorem l11triples (wh : Int) (v : Value) (xss : List (List Int)) (w : World) (h : IRows w v xss) (hok : okTrio wh xss) :
    Calls Try.prog 79 #[.agg #[.int .i64 wh, v]] w fun e w' => ∃ u, e = .returned u ∧ OwnInts w' w.heap.size w'.heap.size u (ags xss 8) ∧ Below w.heap.size w w' := by
  obtain ⟨i0, hi, hz0, hz1, hz2⟩ := info_parts infoInt
  obtain ⟨B, o, cap, rb, ro, rc, rfl, h1, h2⟩ := forms h (shape_of hok)
  have H1 := Lib.hid h1
  have H2 := Lib.hid h2
  have HST := Lib.hid (fun (q n : Nat) (hq : q < 8) (hn : n < 8) => step hok hq hn)
  clear h h1 h2 hok
  obtain ⟨W0, hW0⟩ : ∃ W, W = (w.alloc (.cells #[.int .i64 wh, .slice (some ⟨B, o, none⟩) 8 cap] 27)).alloc (.cells #[] 3) := ⟨_, rfl⟩
  have T0 : Hid (Blk W0 w.heap.size 27 #[.int .i64 wh, .slice (some ⟨B, o, none⟩) 8 cap]) := Lib.hid (by rw [hW0]; exact (Blk.new _ _ _).alloc _)
  have B0 : Hid (Below w.heap.size w W0) := Lib.hid (by rw [hW0]; exact below_al (below_al (Below.refl _ _) _) _)
  have O0 : Hid (W0.ownsRow (w.heap.size + 1) 3 1 (.slice (some ⟨w.heap.size + 1, 0, none⟩) 0 0) 0 (i64s (ags xss 0))) := Lib.hid (by
    rw [hW0]
    have := World.ownsRow_made (base := w.heap.size + 1) (e := 3) (size := 1) (w.alloc (.cells #[.int .i64 wh, .slice (some ⟨B, o, none⟩) 8 cap] 27)) #[] 0 (by simp) (Nat.zero_le _) rfl
    simpa [i64s, ags] using this)
  go_enter Try.func79, Try.ntmps79
  go_wp2_with fail
  rw [← hW0]
  clear hW0
  go_loopw [3, 4] (fun out s wr => ∃ q : Nat, q ≤ 8 ∧ s = .int .i64 q ∧ Hid (wr.ownsRow (w.heap.size + 1) 3 1 out q (i64s (ags xss q))) ∧ Hid (Blk wr w.heap.size 27 #[.int .i64 wh, .slice (some ⟨B, o, none⟩) 8 cap]) ∧ Hid (Below w.heap.size w wr)) (fun _ s _ => 8 - (intOf s).toNat)
  case atStart => exact ⟨0, by omega, rfl, O0, T0, B0⟩
  case round =>
    obtain ⟨q, hq, rfl, HO, HT, HB⟩ := hrel
    clear O0 T0 B0
    obtain ⟨wo, rfl⟩ : ∃ wo : World, wo = wr := ⟨_, rfl⟩
    by_cases hlt : q < 8
    · have hqz : (q : Int) < 8 := by omega
      go_wp2_with fail
      go_loopw [5, 6] (fun t s wr => ∃ k : Nat, k ≤ 8 ∧ s = .int .i64 k ∧ t = .int .i64 (ag xss q k) ∧ Hid (Below wo.heap.size wo wr)) (fun _ s _ => 8 - (intOf s).toNat)
      case atStart => exact ⟨0, by omega, rfl, rfl, Lib.hid (Below.refl _ _)⟩
      case round =>
        obtain ⟨k, hk, rfl, rfl, hJ⟩ := hrel
        obtain ⟨wj, rfl⟩ : ∃ wo : World, wo = wr := ⟨_, rfl⟩
        by_cases hlk : k < 8
        · have hkz : (k : Int) < 8 := by omega
          have x0 := below_tr HB.out hJ.out
          have x1 := below_cell x0 _ _ (H1.out q hlt)
          have x2 := below_cell x0 _ _ (H2.out q hlt k hlk)
          obtain ⟨_, t1, _⟩ := two_cells (HT.out.below hJ.out)
          have HP := Lib.hid (fun W => spar k hlk W)
          obtain ⟨s1, s2, s3, s4⟩ := HST.out q k hlt hlk
          generalize (par k : Int) = pk at *
          generalize sg k = sk at *
          generalize ag xss q k = ak at *
          obtain ⟨ak', hak⟩ : ∃ z, z = ag xss q (k + 1) := ⟨_, rfl⟩
          rw [← hak] at s4
          clear x0
          go_wp2_with fail
          go_region_held3 (fun w' => w'.cell? ⟨w.heap.size, 1, none⟩ = some (.slice (some ⟨B, o, none⟩) 8 cap) ∧ w'.cell? ⟨B, o + q, none⟩ = some (.slice (some ⟨rb q, ro q, none⟩) 8 (rc q)) ∧ w'.cell? ⟨rb q, ro q + k, none⟩ = some (.int .i64 (tc xss q k)) ∧ Below wj.heap.size wj w')
            ((refine ⟨below_cell ?_ _ _ t1, below_cell ?_ _ _ x1, below_cell ?_ _ _ x2, ?_⟩; all_goals (repeat (first | (with_reducible exact Below.refl _ _) | (with_reducible refine below_dr ?_) | (with_reducible refine below_tr ?_ (by assumption))))))
            (first | (go_at_call 86; (with_reducible refine (HP.out _).mono ?_); rintro e w8 ⟨rfl, rfl⟩))
          go_wp2_with fail
          go_roundw
          case rel => exact ⟨k + 1, by omega, by go_num, by rw [← hak], Lib.hid (by refine below_tr hJ.out ?_; repeat (first | (with_reducible exact Below.refl _ _) | (with_reducible refine below_dr ?_) | (with_reducible refine below_tr ?_ (by assumption))))⟩
          case measure => simp [intOf]; omega
        · have hkz : ¬ (k : Int) < 8 := by omega
          obtain rfl : k = 8 := by omega
          have hsz := (below_tr HB.out hJ.out).size
          have HO := Lib.hid (app.owns_below HO.out hJ.out)
          have HT := Lib.hid (HT.out.below hJ.out)
          have HB := Lib.hid (below_tr HB.out hJ.out)
          clear hJ
          go_wp2_with (at_builtin; go_must (refine wpList_append_own _ rfl (.tmp 31) (.tmp 33) 33 rfl (w.heap.size + 1) 3 i0 (.int .i64 0) 1 8 Try.underlying33 hi hz0 hz1 hz2 rfl (by decide) _ _ _ rfl (HO.out.alloc _) ⟨wj.heap.size, 0, none⟩ 1 1 [.int .i64 (ag xss q 8)] rfl rfl ?c1 ?c2 ?c3 ?c4 ?c5 ?_))
          try (case c1 => first | exact app.one_at _ _ _ | (intro q u hq; have h5 := app.one_at wj (.int .i64 (ag xss q 8)) 3 q u hq; simpa using h5))
          case c2 => first | rfl | (intro u hu; simp at hu; subst hu; rfl)
          case c3 => unfold maxLen; omega
          case c4 => omega
          try (case c5 => first | omega | (simp; omega))
          intro v9 w9 hown hgrow _
          have B9 := Lib.hid ((below_al HB.out _).grown hgrow (by simp; omega) (fun j hj => by have := (HO.out.lt j hj).1; omega))
          have O9 := Lib.hid hown
          rw [app.i64s_snoc] at O9
          have hgrow0 := hgrow
          have hsz9 : w.heap.size + 1 ≤ wj.heap.size := by have := HT.out.lt; omega
          have hsz10 : w.heap.size + 1 ≤ (wj.alloc (.cells #[.int .i64 (ag xss q 8)] 3)).heap.size := by simp; omega
          clear hown hgrow
          have T9 : Hid (Blk w9 w.heap.size 27 #[.int .i64 wh, .slice (some ⟨B, o, none⟩) 8 cap]) := Lib.hid (HT.out.belowB (B := w.heap.size + 1) ((Below.alloc (Below.refl _ _) hsz9 _).grown hgrow0 hsz10 (fun j hj => (HO.out.lt j hj).1)) (by omega))
          go_wp2_with fail
          go_roundw
          case rel => exact ⟨q + 1, by omega, by go_num, Lib.hid (by rw [ags_succ]; exact O9.out), T9, B9⟩
          case measure => simp [intOf]; omega
    · have hqz : ¬ (q : Int) < 8 := by omega
      obtain rfl : q = 8 := by omega
      go_wp2_with fail
      go_ret
      refine ⟨_, rfl, ?_, HB.out⟩
      exact (app.ints_of_owns HO.out).mono (by omega) (Nat.le_refl _)



set_option maxHeartbeats 4000000 in
theorem spec_any (wh : Int) (v : Value) (xss : List (List Int)) (w : World) (h : IRows w v xss) (hn : total xss ≤ 1048576) :
    Calls Try.prog 35 #[.agg #[.int .i64 wh, v]] w fun e w' => ∃ u, e = .returned (.tuple #[u, .bool (resA wh xss).2]) ∧ Ints w' u (resA wh xss).1 ∧ Below w.heap.size w w' := by
  obtain ⟨va, vn, vc, rfl⟩ := h.shape
  have al := below_al (Below.refl w.heap.size w) (.cells #[.int .i64 wh, .slice va vn vc] 27)
  have HB0 := Lib.hid (Blk.new w 27 #[.int .i64 wh, .slice va vn vc])
  obtain ⟨W0, hW0⟩ : ∃ W, W = w.alloc (.cells #[.int .i64 wh, .slice va vn vc] 27) := ⟨_, rfl⟩
  rw [← hW0] at al HB0
  have AL := Lib.hid al
  have HT := trv.spec_any wh _ xss W0 (h.below al) hn
  clear al
  obtain ⟨c0, c1, _⟩ := two_cells HB0.out
  rw [hW0] at c0 c1
  by_cases hok : okTrio wh xss
  · rw [trioB_yes hok] at HT
    have HT' := Lib.hid HT
    rw [resA_yes hok]
    have HF := Lib.hid (fun (W : World) (hb : Below w.heap.size w W) => l11triples wh _ xss W (h.below hb) hok)
    clear HT h hok
    go_enter Try.func35, Try.ntmps35
    go_wp2_with fail
    rw [← hW0]
    clear c0 c1 hW0
    refine HT'.out.mono ?_
    rintro e w1 ⟨rfl, hb⟩
    have H1 : Hid (Blk w1 w.heap.size 27 #[.int .i64 wh, .slice va vn vc] ∧ Below w.heap.size w w1) := Lib.hid ⟨HB0.out.below hb, below_tr AL.out hb⟩
    clear HT' hb AL HB0
    obtain ⟨c0, c1, _⟩ := two_cells H1.out.1
    go_wp2_with fail
    refine (HF.out _ H1.out.2).mono ?_
    rintro e w2 ⟨u, rfl, hu, hb⟩
    obtain ⟨ua, un, uc, rfl⟩ := hu.ints.shape
    have HU := Lib.hid (And.intro hu.ints (below_tr H1.out.2 hb))
    clear hu hb c0 c1 H1 HF
    go_wp2_with fail
    refine bodyPost_ret (v := .tuple #[.slice ua un uc, .bool true]) (by simp [results, Try.results35, go_sem]) rfl ⟨_, rfl, HU.out.1, HU.out.2⟩
  · rw [trioB_no hok] at HT
    have HT' := Lib.hid HT
    rw [resA_no hok]
    clear HT h hok
    go_enter Try.func35, Try.ntmps35
    go_wp2_with fail
    rw [← hW0]
    clear c0 c1 hW0
    refine HT'.out.mono ?_
    rintro e w1 ⟨rfl, hb⟩
    go_wp2_with fail
    refine bodyPost_ret (v := .tuple #[.slice (some ⟨w1.heap.size, 0, none⟩) 0 0, .bool false]) (by simp [results, Try.results35, go_sem]) rfl ⟨_, rfl, ⟨_, _, rfl, Nat.le_refl _, Nat.zero_le _, fun k u h => by simp [i64s] at h⟩, below_tr AL.out (below_al hb _)⟩



/-- the row under way: whole up to q, and q's first c numbers summed -/
def Fr (xss : List (List Int)) (q c i : Nat) : Int := if i < q then ag xss i 8 else if i = q then ag xss q c else 0
theorem Fr_step (xss : List (List Int)) (q c i : Nat) : (if i = q then ag xss q (c + 1) else Fr xss q c i) = Fr xss q (c + 1) i := by
  unfold Fr
  by_cases h : i = q
  · subst h; simp
  · simp [h]
theorem Fr_next (xss : List (List Int)) (q i : Nat) : Fr xss q 8 i = Fr xss (q + 1) 0 i := by
  unfold Fr
  by_cases h : i < q
  · have : i < q + 1 := by omega
    simp [h, this]
  · by_cases e : i = q
    · subst e; simp
    · have : ¬ i < q + 1 := by omega
      by_cases e2 : i = q + 1
      · subst e2; rw [if_neg h, if_neg e, if_neg this, if_pos rfl]; rfl
      · simp [h, e, this, e2]
set_option maxHeartbeats 8000000 in
theorem impl_any (wh : Int) (v : Value) (xss : List (List Int)) (w : World) (h : IRows w v xss) (hn : total xss ≤ 1048576) :
    Calls Try.prog 36 #[.agg #[.int .i64 wh, v]] w fun e w' => ∃ u, e = .returned (.tuple #[u, .bool (resA wh xss).2]) ∧ OwnInts w' w.heap.size w'.heap.size u (resA wh xss).1 ∧ Below w.heap.size w w' := by
  have hmk : ∀ W : World, (Instr.makeSlice 33 (.int .i64 8) (.int .i64 8)).run Try.prog W = .ok (.slice (some ⟨W.heap.size, 0, none⟩) 8 8) (W.alloc (.cells (madeCells #[.int .i64 0] 8) 3)) := fun W => by kernel_rfl
  obtain ⟨va, vn, vc, rfl⟩ := h.shape
  have al := below_al (Below.refl w.heap.size w) (.cells #[.int .i64 wh, .slice va vn vc] 27)
  have HB0 := Lib.hid (Blk.new w 27 #[.int .i64 wh, .slice va vn vc])
  obtain ⟨W0, hW0⟩ : ∃ W, W = w.alloc (.cells #[.int .i64 wh, .slice va vn vc] 27) := ⟨_, rfl⟩
  rw [← hW0] at al HB0
  have AL := Lib.hid al
  have HT := trv.impl_any wh _ xss W0 (h.below al) hn
  clear al
  by_cases hok : okTrio wh xss
  · rw [trioB_yes hok] at HT
    have HT' := Lib.hid HT
    rw [resA_yes hok]
    obtain ⟨B, o, cap, rb, ro, rc, hv, h1, h2⟩ := forms h (shape_of hok)
    injection hv with hv1 hv2 hv3
    subst hv1 hv2 hv3
    have H1 := Lib.hid h1
    have H2 := Lib.hid h2
    have HST := Lib.hid (fun (q n : Nat) (hq : q < 8) (hn : n < 8) => step hok hq hn)
    obtain ⟨c0, c1, _⟩ := two_cells HB0.out
    rw [hW0] at c0 c1
    clear HT h hok h1 h2
    go_enter Try.func36, Try.ntmps36
    go_wp2_with fail
    rw [← hW0]
    clear c0 c1 hW0
    refine HT'.out.mono ?_
    rintro e w1 ⟨rfl, hb⟩
    have K1 : Hid (Blk (w1.alloc (.cells (madeCells #[.int .i64 0] 8) 3)) w.heap.size 27 #[.int .i64 wh, .slice (some ⟨B, o, none⟩) 8 vc] ∧ Below w.heap.size w (w1.alloc (.cells (madeCells #[.int .i64 0] 8) 3))) := Lib.hid ⟨(HB0.out.below hb).alloc _, below_al (below_tr AL.out hb) _⟩
    have R1 : Hid ((w1.alloc (.cells (madeCells #[.int .i64 0] 8) 3)).rowIs w1.heap.size 3 8 (fun i => .int .i64 (Fr xss 0 0 i))) := Lib.hid ((World.rowIs_made w1 (.int .i64 0) 8 3).congr (fun i _ => by unfold Fr; by_cases e : i = 0 <;> simp [e, ag]))
    have HG : Hid (w.heap.size ≤ w1.heap.size) := Lib.hid (below_tr AL.out hb).size
    have H9 : Hid (w1.heap.size + 1 ≤ (w1.alloc (.cells (madeCells #[.int .i64 0] 8) 3)).heap.size) := Lib.hid (by simp)
    have hk := HB0.out.below hb
    obtain ⟨c0, c1, _⟩ := two_cells hk
    have c1' := World.cell?_alloc_lt w1 (.cells (madeCells #[.int .i64 0] 8) 3) ⟨w.heap.size, 1, none⟩ hk.lt
    rw [c1] at c1'
    clear HT' hb AL HB0 hk
    go_wp2_with fail
    clear c0 c1 c1' hmk
    generalize (w1.alloc (.cells (madeCells #[.int .i64 0] 8) 3)) = W1 at *
    generalize w1.heap.size = g at *
    go_loopw [17] (fun s wr => ∃ q : Nat, q ≤ 8 ∧ s = .int .i64 q ∧ Hid (wr.rowIs g 3 8 (fun i => .int .i64 (Fr xss q 0 i))) ∧ Hid (Below w.heap.size w wr)) (fun s _ => 8 - (intOf s).toNat)
    case atStart => exact ⟨0, by omega, rfl, R1, Lib.hid K1.out.2⟩
    case round =>
      obtain ⟨q, hq, rfl, hR, hB⟩ := hrel
      clear R1 K1
      obtain ⟨wo, rfl⟩ : ∃ wo : World, wo = wr := ⟨_, rfl⟩
      by_cases hlt : q < 8
      · have hqz : (q : Int) < 8 := by omega
        have x1 := below_cell hB.out _ _ (H1.out q hlt)
        go_wp2_with fail
        go_loopw [24] (fun s wr => ∃ k : Nat, k ≤ 8 ∧ s = .int .i64 k ∧ Hid (wr.rowIs g 3 8 (fun i => .int .i64 (Fr xss q k i))) ∧ Hid (Below w.heap.size w wr)) (fun s _ => 8 - (intOf s).toNat)
        case atStart => exact ⟨0, by omega, rfl, hR, hB⟩
        case round =>
          obtain ⟨k, hk, rfl, hR, hB⟩ := hrel
          obtain ⟨wj, rfl⟩ : ∃ wo : World, wo = wr := ⟨_, rfl⟩
          by_cases hlk : k < 8
          · have hkz : (k : Int) < 8 := by omega
            have x2 := below_cell hB.out _ _ (H2.out q hlt k hlk)
            have HA := Lib.hid (at3 k hlk wj)
            have HP := Lib.hid (fun W => parity_k k hlk W)
            obtain ⟨s1, s2, s3, s4⟩ := HST.out q k hlt hlk
            go_wp2_with fail
            refine HA.out.mono ?_
            rintro e w2 ⟨rfl, hb2⟩
            go_wp2_with fail
            refine (HP.out _).mono ?_
            rintro e w3 ⟨rfl, hb3⟩
            have E3 := below_tr hb2 hb3
            have R3 := Lib.hid (hR.out.of_block (E3.block _ hR.out.lt))
            have B3 := Lib.hid (below_tr hB.out E3)
            have r3 := R3.out.cell hlt
            have rf := R3.out.frozen q
            have er : Fr xss q k q = ag xss q k := by simp [Fr]
            simp only [er] at r3
            have R4 := Lib.hid ((R3.out.set q (.int .i64 (ag xss q (k + 1)))).congr (g := fun i => .int .i64 (Fr xss q (k + 1) i)) (fun i _ => by
              rw [← Fr_step xss q k i]
              by_cases e : i = q <;> simp [e]))
            have B4 := Lib.hid (Below.setCell B3.out (show w.heap.size ≤ (⟨g, q, none⟩ : Addr).block from HG.out) (.int .i64 (ag xss q (k + 1))))
            generalize (par k : Int) = pk at *
            generalize sg k = sk at *
            obtain ⟨ak, hak⟩ : ∃ z, z = ag xss q k := ⟨_, rfl⟩
            obtain ⟨ak', hak'⟩ : ∃ z, z = ag xss q (k + 1) := ⟨_, rfl⟩
            rw [← hak, ← hak'] at s4
            rw [← hak] at r3
            rw [← hak'] at R4 B4
            clear hb2 hb3 E3 R3 B3 HA HP er hak hak' x1 hR hB
            go_wp2_with fail
            go_roundw
            case rel => exact ⟨k + 1, by omega, by go_num, R4, B4⟩
            case measure => simp [intOf]; omega
          · have hkz : ¬ (k : Int) < 8 := by omega
            obtain rfl : k = 8 := by omega
            go_wp2_with fail
            go_roundw
            case rel => exact ⟨q + 1, by omega, by go_num, Lib.hid (hR.out.congr (fun i _ => by simp only [Fr_next])), hB⟩
            case measure => simp [intOf]; omega
      · have hqz : ¬ (q : Int) < 8 := by omega
        obtain rfl : q = 8 := by omega
        have hrow : wo.rowIs g 3 (ags xss 8).length (fun j => .int .i64 ((ags xss 8).getD j 0)) := by
          rw [len_ags]
          refine hR.out.congr (fun i hi => ?_)
          simp [Fr, hi, ags, List.getD]
        have HO := Lib.hid (ints.own_of_row (w := wo) (B := w.heap.size) (T := wo.heap.size) hrow HG.out hrow.lt (by rw [len_ags]; simp [maxLen]))
        rw [len_ags] at HO
        clear hrow
        go_wp2_with fail
        refine bodyPost_ret (v := .tuple #[.slice (some ⟨g, 0, none⟩) 8 8, .bool true]) (by simp [results, Try.results36, go_sem]) rfl ⟨_, rfl, HO.out, hB.out⟩
  · rw [trioB_no hok] at HT
    have HT' := Lib.hid HT
    rw [resA_no hok]
    obtain ⟨c0, c1, _⟩ := two_cells HB0.out
    rw [hW0] at c0 c1
    clear HT h hok hmk
    go_enter Try.func36, Try.ntmps36
    go_wp2_with fail
    rw [← hW0]
    clear c0 c1 hW0
    refine HT'.out.mono ?_
    rintro e w1 ⟨rfl, hb⟩
    go_wp2_with fail
    refine bodyPost_ret (v := .tuple #[.slice none 0 0, .bool false]) (by simp [results, Try.results36, go_sem]) rfl ⟨_, rfl, OwnInts.nil _ _ _, below_tr AL.out hb⟩


end Go.Proofs.Ytomofmmecpdalaa.tra
