/- BestPlays of the model. -/
import Derived.Test.YtkajebhagkbcaabLocalb
import Derived.Maps.AppendAt
namespace Go.Proofs.Ytkajebhagkbcaab.loc
open Go.RowKit Go.Deep Go.Proofs.Ytkajebhagkbcaab.base
open Go.Proofs.Ytkajebhagkbcaab.val (okSizes okBox ret_b)
open Go.Proofs.Ytkajebhagkbcaab.worth (okFun funB funB_yes funB_no worth)
open Go.Proofs.Ytkajebhagkbcaab.ints (infoInts ret_int)
open Go.Proofs.Ytkajebhagkbcaab.rws (total)

/-- the places below k whose number is m -/
def fl (g : Nat → Int) (m : Int) (k : Nat) : List Nat := (List.range k).filter (fun p => decide (g p = m))
theorem fl_yes {g : Nat → Int} {m : Int} {k : Nat} (h : g k = m) : fl g m (k + 1) = fl g m k ++ [k] := by
  unfold fl; rw [List.range_succ, List.filter_append]; simp [h]
theorem fl_no {g : Nat → Int} {m : Int} {k : Nat} (h : ¬ g k = m) : fl g m (k + 1) = fl g m k := by
  unfold fl; rw [List.range_succ, List.filter_append]; simp [h]
theorem fl_len (g : Nat → Int) (m : Int) (k : Nat) : (fl g m k).length ≤ k := by
  have := List.length_filter_le (fun p => decide (g p = m)) (List.range k)
  simpa [fl] using this
theorem fl_lt {g : Nat → Int} {m : Int} {k p : Nat} (h : p ∈ fl g m k) : p < k := List.mem_range.1 (List.mem_filter.1 h).1

/-- blocks from a on and below b stand as they did -/
def Far (w wr : World) (a b : Nat) : Prop := ∀ q, a ≤ q → q < b → wr.heap[q]? = w.heap[q]?
theorem Far.below {w wr w' : World} {a b : Nat} (h : Far w wr a b) (hb : Below wr.heap.size wr w') (hs : b ≤ wr.heap.size) : Far w w' a b := fun q h1 h2 => (hb.block q (by omega)).trans (h q h1 h2)
theorem Far.grown {w wr w' : World} {a b : Nat} {v : Value} (h : Far w wr a b) (hg : wr.grownBy w' v.ownBlock) (hs : b ≤ wr.heap.size) (hv : ∀ q, v.ownBlock = some q → q < a ∨ b ≤ q) : Far w w' a b := fun q h1 h2 =>
  (hg.block q (by omega) (fun e => by have := hv q e.symm; omega)).trans (h q h1 h2)
theorem Far.ints {w wr : World} {a b : Nat} {v : Value} {xs : List Int} (h : Far w wr a b) (hi : OwnInts w a b v xs) : Ints wr v xs :=
  pile.sl_heap hi.ints (fun p hp => h _ (hi.ge p hp) (hi.lt p hp))
/-- a slice of rows that lie there -/
theorem rows_of {wr : World} {B : Nat} {v : Value} {l : List Nat} {R : Nat → Value} {D : Nat → List Int} (ho : wr.ownsRow B 40 1 v l.length (l.map R)) (hr : ∀ p ∈ l, Ints wr (R p) (D p)) : IRows wr v (l.map D) := by
  refine ⟨l.map R, app.sl_of_owns ho, by simp, fun r h => ?_⟩
  have h' : r < l.length := by simpa using h
  refine ⟨R l[r], by simp [h'], ?_⟩
  have := hr l[r] (List.getElem_mem h')
  simpa using this

set_option maxHeartbeats 4000000 in
theorem spec_best (x y : Int) (vf : Value) (fss : List (List Int)) (w : World) (h : IRows w vf fss) (hn : total fss ≤ 1048576) :
    Calls Try.prog 20 #[.int .i64 x, .int .i64 y, vf] w fun e w' => ∃ u, e = .returned (.tuple #[u, .bool (res x y fss).2.2]) ∧ IRows w' u (res x y fss).2.1 ∧ Below w.heap.size w w' := by
  obtain ⟨s0, si, sz0, sz1, sz2⟩ := info_parts infoInts
  have HF := Lib.hid h
  obtain ⟨fa, fn, fc, rfl⟩ := h.shape
  clear h
  have B0 := Lib.hid (below_al (Below.refl w.heap.size w) (.cells #[] 40))
  have O0 : Hid ((w.alloc (.cells #[] 40)).ownsRow w.heap.size 40 1 (.slice (some ⟨w.heap.size, 0, none⟩) 0 0) 0 []) := Lib.hid (by
    have := World.ownsRow_made (base := w.heap.size) (e := 40) (size := 1) w #[] 0 (Nat.le_refl _) (Nat.zero_le _) rfl
    simpa using this)
  have HC := Lib.hid (asks x y (.slice fa fn fc) fss _ (HF.out.below B0.out) hn)
  by_cases hf : okFun x y fss
  · rw [res_yes hf]
    have EB := Lib.hid (funB_yes hf)
    have HO := Lib.hid hf
    have HL := Lib.hid (plays.l2plays x y (w.alloc (.cells #[] 40)) hf.1)
    have HVL := Lib.hid (fun (W : World) (hb : Below w.heap.size w W) => l3value x y (.slice fa fn fc) fss W (HF.out.below hb) HO.out)
    obtain ⟨n, hnn⟩ : ∃ n, (x + y).toNat = n := ⟨_, rfl⟩
    have h6 : n ≤ 6 := by obtain ⟨X, Y, _, _, _, _, e, h6⟩ := nat_of hf.1; omega
    obtain ⟨c, hc⟩ : ∃ c, 2 ^ n = c := ⟨_, rfl⟩
    have h64 : c ≤ 64 := hc ▸ plays.two_pow h6
    have HAL : Hid (plays.all (x + y).toNat = plays.upto n c) := Lib.hid (by unfold plays.all; rw [hnn, hc])
    have HN := Lib.hid hnn
    have HBE : Hid (best x y fss = ((fl (g x y fss) (val x y fss) c).map (plays.at_ n))) := Lib.hid (by unfold best val fl; rw [hnn, hc, bl_filter])
    rw [HBE.out]
    generalize val x y fss = m at *
    clear hf hnn h6 hc
    go_enter Try.func20, Try.ntmps20
    go_wp2_with fail
    refine HC.out.mono ?_
    rintro e w' ⟨rfl, rfl⟩
    rw [EB.out]
    go_wp2_with fail
    refine HL.out.mono ?_
    rintro e w1 ⟨u, rfl, hu, hb⟩
    have hu' : OwnRows w1 (w.heap.size + 1) w1.heap.size u (plays.upto n c) := by
      have := HAL.out ▸ hu
      simpa using this
    obtain ⟨vals0, hv0⟩ := hu'
    have HV0 := Lib.hid hv0
    have B1 := Lib.hid (below_tr B0.out hb)
    have O1 := Lib.hid (app.owns_below O0.out hb)
    have hz1 : w.heap.size + 1 ≤ w1.heap.size := by have := hb.size; simpa using this
    obtain ⟨A, b, o, cap, hvv, hcap, hmax, hA, hcc⟩ := hv0.outer.form
    have hlv : vals0.length = c := by rw [hv0.len, plays.len_upto]
    rw [hlv] at hvv hcap hA
    subst hvv
    have HCC := Lib.hid hcc
    have HLV := Lib.hid hlv
    clear hu hb HL hmax hcc hv0 hlv HAL O0
    go_wp2_with fail
    refine (HVL.out _ B1.out).mono ?_
    rintro e w2 ⟨rfl, hb⟩
    have B2 := Lib.hid (below_tr B1.out hb)
    have O2 := Lib.hid (app.owns_below O1.out hb)
    have F2 : Hid (Far w1 w2 (w.heap.size + 1) w1.heap.size) := Lib.hid (fun q _ hq => hb.block q hq)
    have hz2 := hb.size
    clear hb O1 HVL
    go_wp2_with fail
    go_loopw [8, 11] (fun v i wr => ∃ k : Nat, k ≤ c ∧ i = .int .i64 k ∧ Hid (wr.ownsRow w.heap.size 40 1 v (fl (g x y fss) m k).length ((fl (g x y fss) m k).map (fun p => vals0.getD p .nilFunc))) ∧ Hid (∀ q, v.ownBlock = some q → q < w.heap.size + 1 ∨ w1.heap.size ≤ q) ∧ Hid (Far w1 wr (w.heap.size + 1) w1.heap.size) ∧ Hid (Below w.heap.size w wr) ∧ w1.heap.size ≤ wr.heap.size) (fun _ i _ => c - (intOf i).toNat)
    case atStart => exact ⟨0, Nat.zero_le _, rfl, O2, Lib.hid (fun q hq => by simp [Value.ownBlock] at hq; omega), F2, B2, hz2⟩
    case round =>
      obtain ⟨k, hk, rfl, hOw, hAt, hFa, hB, hsz⟩ := hrel
      clear O2 F2 B2
      obtain ⟨wo, rfl⟩ : ∃ wo : World, wo = wr := ⟨_, rfl⟩
      by_cases hlt : k < c
      · have hkz : (k : Int) < (c : Int) := by omega
        obtain rfl := hA (by omega)
        obtain ⟨u, huk, hui⟩ := own_at HV0.out (r := k) (by rw [plays.len_upto]; exact hlt)
        have eat : (plays.upto n c)[k]'(by rw [plays.len_upto]; exact hlt) = plays.at_ n k := by simp [plays.upto]
        rw [eat] at hui
        obtain ⟨ua, ul, uc, rfl⟩ := hui.ints.shape
        have HUK : Hid (vals0.getD k .nilFunc = .slice ua ul uc) := Lib.hid (by simp [List.getD, huk])
        have g0 := HCC.out k _ huk
        have hbl0 := World.block_lt_of_cell? _ _ g0
        have hbge : w.heap.size + 1 ≤ b := by
          have := HV0.out.geo ⟨b, o + k, none⟩ ⟨b, o, c, cap, rfl, rfl, rfl, by simp, by simp; omega⟩
          exact this
        have g1 : wo.cell? ⟨b, o + k, none⟩ = some (.slice ua ul uc) := (pile.cell_heap (hFa.out b hbge hbl0)).trans g0
        have gi1 := hFa.out.ints hui
        rw [← HN.out] at gi1
        have L2 := l2both x y (.slice fa fn fc) fss HO.out k
        have HC1 := Lib.hid (L2.1 _ wo gi1)
        have HC2 := Lib.hid L2.2
        have hfl := fl_len (g x y fss) m k
        clear hui huk eat g0 gi1 L2 hbl0 hbge
        by_cases heq : g x y fss k = m
        · have te : (g x y fss k == m) = true := by simp [heq]
          have HFL := Lib.hid (fl_yes heq)
          clear heq
          generalize g x y fss k = q at *
          go_wp2_with fail
          refine HC1.out.mono ?_
          rintro e w3 ⟨u, rfl, hu, hb⟩
          obtain ⟨xa, xl, xc, rfl⟩ := hu.shape
          have U3 := Lib.hid hu
          have B3 := Lib.hid (below_tr hB.out hb)
          have BB3 := Lib.hid hb
          clear hu hb HC1
          go_wp2_with fail
          refine (HC2.out _ _ (HF.out.below B3.out) U3.out).mono ?_
          rintro e w4 ⟨rfl, hb⟩
          have BB4 := Lib.hid (below_tr BB3.out hb)
          have B4 := Lib.hid (below_tr hB.out BB4.out)
          have F4 := Lib.hid (hFa.out.below BB4.out hsz)
          have O4 := Lib.hid (app.owns_below hOw.out BB4.out)
          have g4 := below_cell BB4.out _ _ g1
          have hs4 := BB4.out.size
          clear hb hFa hOw hB g1 BB3 BB4 B3 U3
          have O4a := Lib.hid (O4.out.alloc (.cells #[.slice ua ul uc] 40))
          have F4a := Lib.hid (F4.out.below (below_al (Below.refl _ _) (.cells #[.slice ua ul uc] 40)) (by omega))
          have B4a := Lib.hid (below_al B4.out (.cells #[.slice ua ul uc] 40))
          have hs0 := B4.out.size
          go_wp2_with (at_builtin; refine wpList_append_own_at _ rfl (.tmp 43) (.tmp 48) 22 rfl w.heap.size 40 s0 (.slice none 0 0) 1 24 Try.underlying22 si sz0 sz1 sz2 rfl (by decide) _ _ _ rfl O4a.out ⟨w4.heap.size, 0, none⟩ 1 1 [.slice ua ul uc] rfl rfl ?c1 ?c2 ?c3 ?c4 ?c5 ?_)
          try (case c1 => exact app.one_at _ _ _)
          case c2 => first | rfl | (intro u hu; simp at hu; subst hu; rfl)
          case c3 => unfold maxLen; omega
          case c4 => omega
          case c5 => first | omega | (simp; omega)
          intro v' w5 hown' hgrow _ hat
          have O5 : Hid (w5.ownsRow w.heap.size 40 1 v' (fl (g x y fss) m (k + 1)).length ((fl (g x y fss) m (k + 1)).map (fun p => vals0.getD p .nilFunc))) := Lib.hid (by
            rw [HFL.out]
            simp only [List.map_append, List.map_cons, List.map_nil, List.length_append, List.length_cons, List.length_nil]
            rw [HUK.out]
            simpa using hown')
          have A5 : Hid (∀ q, v'.ownBlock = some q → q < w.heap.size + 1 ∨ w1.heap.size ≤ q) := Lib.hid (fun q hq => by
            rcases hat with e | e
            · exact hAt.out q (by rw [← e]; exact hq)
            · rw [e] at hq; injection hq with hq; first | omega | (simp at hq; omega))
          have F5 := Lib.hid (F4a.out.grown hgrow (by first | omega | (simp; omega)) hAt.out)
          have B5 : Hid (Below w.heap.size w w5) := Lib.hid (B4a.out.grown hgrow B4a.out.size (fun j hj => (O4a.out.lt j hj).1))
          have hs5 : w1.heap.size ≤ w5.heap.size := by have := hgrow.size; first | omega | (simp at this; omega)
          obtain ⟨xa, xl, xc, rfl⟩ := make.shape hown'
          clear hown' hgrow hat O4 O4a F4 F4a B4 B4a g4 hAt
          go_wp2_with fail
          go_roundw
          case rel => exact ⟨k + 1, by omega, by go_num, O5, A5, F5, B5, hs5⟩
          case measure => simp [intOf]; omega
        · have te : (g x y fss k == m) = false := by simp [heq]
          have HFL := Lib.hid (fl_no heq)
          clear heq
          generalize g x y fss k = q at *
          go_wp2_with fail
          refine HC1.out.mono ?_
          rintro e w3 ⟨u, rfl, hu, hb⟩
          obtain ⟨xa, xl, xc, rfl⟩ := hu.shape
          have U3 := Lib.hid hu
          have B3 := Lib.hid (below_tr hB.out hb)
          have BB3 := Lib.hid hb
          clear hu hb HC1
          go_wp2_with fail
          refine (HC2.out _ _ (HF.out.below B3.out) U3.out).mono ?_
          rintro e w4 ⟨rfl, hb⟩
          have BB4 := Lib.hid (below_tr BB3.out hb)
          have B4 := Lib.hid (below_tr hB.out BB4.out)
          have F4 := Lib.hid (hFa.out.below BB4.out hsz)
          have O4 : Hid (w4.ownsRow w.heap.size 40 1 _ (fl (g x y fss) m (k + 1)).length ((fl (g x y fss) m (k + 1)).map (fun p => vals0.getD p .nilFunc))) := Lib.hid (by rw [HFL.out]; exact app.owns_below hOw.out BB4.out)
          have hs4 : w1.heap.size ≤ w4.heap.size := by have := BB4.out.size; omega
          clear hb hFa hOw hB g1 BB3 BB4 B3 U3
          go_wp2_with fail
          go_roundw
          case rel => exact ⟨k + 1, by omega, by go_num, O4, hAt, F4, B4, hs4⟩
          case measure => simp [intOf]; omega
      · have hkz : ¬ (k : Int) < (c : Int) := by omega
        obtain rfl : k = c := by omega
        obtain ⟨xa, xl, xc, hvv⟩ := make.shape hOw.out
        subst hvv
        have HRW : Hid (IRows wo (.slice xa xl xc) ((fl (g x y fss) m k).map (plays.at_ n))) := Lib.hid (rows_of hOw.out (fun p hp => by
          have hpk := fl_lt hp
          obtain ⟨u, huk, hui⟩ := own_at HV0.out (r := p) (by rw [plays.len_upto]; exact hpk)
          have eat : (plays.upto n k)[p]'(by rw [plays.len_upto]; exact hpk) = plays.at_ n p := by simp [plays.upto]
          rw [eat] at hui
          have e : vals0.getD p .nilFunc = u := by simp [List.getD, huk]
          show Ints wo (vals0.getD p .nilFunc) _
          rw [e]
          exact hFa.out.ints hui))
        go_wp2_with fail
        refine bodyPost_ret (v := .tuple #[.slice xa xl xc, .bool true]) (by simp [results, Try.results20, go_sem]) rfl ⟨.slice xa xl xc, rfl, HRW.out, hB.out⟩
  · rw [res_no hf]
    have EB := Lib.hid (funB_no hf)
    clear hf
    go_enter Try.func20, Try.ntmps20
    go_wp2_with fail
    refine HC.out.mono ?_
    rintro e w' ⟨rfl, rfl⟩
    rw [EB.out]
    go_wp2_with fail
    go_ret2
    exact ⟨_, rfl, app.empties _ _ _ (Nat.zero_le _), B0.out⟩

end Go.Proofs.Ytkajebhagkbcaab.loc
