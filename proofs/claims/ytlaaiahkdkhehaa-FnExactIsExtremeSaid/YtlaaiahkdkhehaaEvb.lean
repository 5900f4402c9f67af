/- IsEvenBox of the model and of the program. -/
import Derived.Test.YtlaaiahkdkhehaaTwo
import Derived.Test.YtlaaiahkdkhehaaCounts
namespace Go.Proofs.Ytlaaiahkdkhehaa.evb
open Go.RowKit Go.Deep Go.Proofs.Ytlaaiahkdkhehaa.base
open Go.Proofs.Ytlaaiahkdkhehaa.val (okBox okSizes boxB boxB_yes boxB_no)
open Go.Proofs.Ytlaaiahkdkhehaa.rws (total)
open Go.Proofs.Ytlaaiahkdkhehaa.loud (Quiet quietB quietB_yes quietB_no)
open Go.Proofs.Ytlaaiahkdkhehaa.two (two twoB qt qtB qtB_yes qtB_no quiet_qt asksB asksB_yes asksB_no)
open Go.Proofs.Ytlaaiahkdkhehaa.counts (up1)

def evens (wh : Int) (cs : List Int) : Prop := ∀ k (h : k < cs.length), 2 * cs[k] = wh
open Classical in
noncomputable def evB (wh : Int) (cs : List Int) : Bool := if evens wh cs then true else false
theorem evB_yes {wh : Int} {cs : List Int} (h : evens wh cs) : evB wh cs = true := if_pos h
theorem evB_no {wh : Int} {cs : List Int} (h : ¬ evens wh cs) : evB wh cs = false := if_neg h
open Classical in
noncomputable def res (x y wh : Int) (xss : List (List Int)) : Bool × Bool := if qt x y wh xss then (evB wh (up1 xss 2 2 2), true) else (false, false)
theorem res_yes {x y wh : Int} {xss : List (List Int)} (h : qt x y wh xss) : res x y wh xss = (evB wh (up1 xss 2 2 2), true) := if_pos h
theorem res_no {x y wh : Int} {xss : List (List Int)} (h : ¬ qt x y wh xss) : res x y wh xss = (false, false) := if_neg h
theorem one_bd {wh : Int} {xss : List (List Int)} (h : okBox 2 2 wh xss) {r : Nat} (hr : r < 4) (p : Int) : 0 ≤ row.one xss r p ∧ row.one xss r p ≤ 2000 := by
  have hl : r < xss.length := by have := h.2.2.1; omega
  have b1 := row.nn_bd h hl (k := 1) (by omega)
  have b2 := row.nn_bd h hl (k := 2) (by omega)
  have b3 := row.nn_bd h hl (k := 3) (by omega)
  unfold row.one
  split <;> omega
theorem cs_len (xss : List (List Int)) : (up1 xss 2 2 2).length = 4 := counts.len_up1 _ _ _ _
theorem cs_bd {wh : Int} {xss : List (List Int)} (h : okBox 2 2 wh xss) : ∀ k (hk : k < (up1 xss 2 2 2).length), 0 ≤ (up1 xss 2 2 2)[k] ∧ (up1 xss 2 2 2)[k] ≤ 2000 := by
  have key : ∀ c, c ∈ up1 xss 2 2 2 → 0 ≤ c ∧ c ≤ 2000 := by
    intro c hm
    unfold up1 counts.up0 at hm
    rw [List.mem_append, List.mem_map, List.mem_map] at hm
    rcases hm with ⟨a, ha, rfl⟩ | ⟨a, ha, rfl⟩
    · have ha' := List.mem_range.1 ha
      exact one_bd h (by omega) _
    · have ha' := List.mem_range.1 ha
      exact one_bd h (by omega) _
  exact fun k hk => key _ (List.getElem_mem hk)
theorem ret_p {a b : Bool} (h : a = b) : Ending.returned (.tuple #[.bool a, .bool true]) = .returned (.tuple #[.bool b, .bool true]) := by rw [h]


set_option maxHeartbeats 4000000 in
theorem spec_any (x y wh : Int) (v : Value) (xss : List (List Int)) (w : World) (h : IRows w v xss) (hn : total xss ≤ 1048576) :
    Calls Try.prog 39 #[.agg #[.int .i64 x, .int .i64 y, .int .i64 wh, v]] w fun e w' => e = .returned (.tuple #[.bool (res x y wh xss).1, .bool (res x y wh xss).2]) ∧ Below w.heap.size w w' := by
  obtain ⟨va, vn, vc, rfl⟩ := h.shape
  have H := Lib.hid h
  have B0 := Lib.hid (below_al (Below.refl w.heap.size w) (.cells #[.int .i64 x, .int .i64 y, .int .i64 wh, .slice va vn vc] 24))
  have K0 := Lib.hid (Blk.new w 24 #[.int .i64 x, .int .i64 y, .int .i64 wh, .slice va vn vc])
  have hr := two.l6quiet x y wh _ xss _ (h.below B0.out) hn
  clear h
  by_cases hq : qt x y wh xss
  · rw [qtB_yes hq] at hr
    rw [res_yes hq]
    have hq' := quiet_qt hq.1
    rw [qtB_yes hq] at hq'
    obtain ⟨⟨hok, rfl, rfl⟩, hqq⟩ := hq
    have HQ := Lib.hid (fun W hW => counts.spec_any 2 2 wh (.slice va vn vc) xss W hW hn)
    rw [hq', show counts.data 2 2 wh xss = up1 xss 2 2 2 from counts.data_yes (X := 2) (Y := 2) hok hqq] at HQ
    have HBD := Lib.hid (cs_bd hok)
    have HLN : (up1 xss 2 2 2).length ≤ 4 := Nat.le_of_eq (cs_len xss)
    generalize up1 xss 2 2 2 = cs at HQ HBD HLN ⊢
    have HR := Lib.hid hr
    clear hr hok hqq hq'
    go_enter Try.func39, Try.ntmps39
    go_wp2_with fail
    refine HR.out.mono ?_
    rintro e w1 ⟨rfl, hb⟩
    have B1 := Lib.hid (below_tr B0.out hb)
    have K1 := Lib.hid (K0.out.below hb)
    obtain ⟨c0, c1, c2, c3, c4⟩ := four_cells K1.out
    clear hb HR B0 K0
    go_wp2_with fail
    refine (HQ.out _ (H.out.below B1.out)).mono ?_
    rintro e w2 ⟨u, rfl, hu, hb⟩
    have B2 := Lib.hid (below_tr B1.out hb)
    have K2 := Lib.hid (K1.out.below hb)
    obtain ⟨A, b, o, cap, rfl, _, hmax, hA, hc⟩ := hu.form
    have HC := Lib.hid hc
    have HA := Lib.hid hA
    clear hb HQ B1 K1 c0 c1 c2 c3 c4 hu hc hA hmax
    go_wp2_with fail
    go_loopw [6] (fun i wr => ∃ k : Nat, k ≤ cs.length ∧ i = .int .i64 k ∧ Hid (∀ j (h : j < cs.length), j < k → 2 * cs[j] = wh) ∧ ∃ q, wr = w2.drewN q) (fun i _ => cs.length - (intOf i).toNat)
    case atStart => exact ⟨0, Nat.zero_le _, rfl, Lib.hid (fun j _ hj => by omega), 0, rfl⟩
    case round =>
      obtain ⟨k, hk, rfl, hH, q, rfl⟩ := hrel
      by_cases hlt : k < cs.length
      · have hkz : (k : Int) < (cs.length : Int) := by omega
        have hpos : 0 < cs.length := by omega
        obtain rfl := HA.out (by omega)
        have g0 := HC.out k hlt
        have hbd := HBD.out k hlt
        have kw : IntKind.i64.wrap (2 * cs[k]) = 2 * cs[k] := IntWalk.i64_in _ (by omega)
        obtain ⟨c0, c1, c2, c3, c4⟩ := four_cells K2.out
        by_cases he : 2 * cs[k] = wh
        · have de : (2 * cs[k] != wh) = false := by simp [he]
          have HE := Lib.hid he
          clear he hbd
          go_wp2_with fail
          go_quiet (fail)
          go_wp2_with fail
          go_roundw
          case rel =>
            refine ⟨k + 1, by omega, by go_num, Lib.hid (fun j hj hj' => ?_), _, rfl⟩
            by_cases e : j = k
            · subst e; exact HE.out
            · exact hH.out j hj (by omega)
          case measure => simp [intOf]; omega
        · have de : (2 * cs[k] != wh) = true := by simp [he]
          have HN : Hid (¬ evens wh cs) := Lib.hid (fun h => he (h k hlt))
          clear he hbd
          go_wp2_with fail
          go_quiet (fail)
          go_wp2_with fail
          go_ret2
          exact ⟨ret_p (evB_no HN.out).symm, below_drewN (below_drewN B2.out _) _⟩
      · have hkz : ¬ (k : Int) < (cs.length : Int) := by omega
        have HN : Hid (evens wh cs) := Lib.hid (fun j hj => hH.out j hj (by omega))
        go_wp2_with fail
        go_ret2
        exact ⟨ret_p (evB_yes HN.out).symm, below_drewN B2.out _⟩
  · rw [qtB_no hq] at hr
    rw [res_no hq]
    have HR := Lib.hid hr
    clear hr hq
    go_enter Try.func39, Try.ntmps39
    go_wp2_with fail
    refine HR.out.mono ?_
    rintro e w1 ⟨rfl, hb⟩
    have B1 := Lib.hid (below_tr B0.out hb)
    clear hb HR B0 K0
    go_wp2_with fail
    go_ret2
    exact ⟨rfl, B1.out⟩



set_option maxHeartbeats 4000000 in
theorem impl_any (x y wh : Int) (v : Value) (xss : List (List Int)) (w : World) (h : IRows w v xss) (hn : total xss ≤ 1048576) :
    Calls Try.prog 40 #[.agg #[.int .i64 x, .int .i64 y, .int .i64 wh, v]] w fun e w' => e = .returned (.tuple #[.bool (res x y wh xss).1, .bool (res x y wh xss).2]) ∧ Below w.heap.size w w' := by
  obtain ⟨va, vn, vc, rfl⟩ := h.shape
  have B0 := Lib.hid (below_al (Below.refl w.heap.size w) (.cells #[.int .i64 x, .int .i64 y, .int .i64 wh, .slice va vn vc] 24))
  have K0 := Lib.hid (Blk.new w 24 #[.int .i64 x, .int .i64 y, .int .i64 wh, .slice va vn vc])
  have hr := counts.impl_any x y wh _ xss _ (h.below B0.out) hn
  clear h
  by_cases hq : quietB x y wh xss = true
  · have hok : okBox x y wh xss ∧ Quiet xss x.toNat y.toNat := by
      by_cases h : okBox x y wh xss ∧ Quiet xss x.toNat y.toNat
      · exact h
      · rw [show quietB x y wh xss = false from if_neg h] at hq; cases hq
    rw [hq] at hr
    by_cases h2 : x = 2 ∧ y = 2
    · obtain ⟨rfl, rfl⟩ := h2
      have hqt : qt 2 2 wh xss := ⟨⟨hok.1, rfl, rfl⟩, hok.2⟩
      rw [res_yes hqt]
      rw [show counts.data 2 2 wh xss = up1 xss 2 2 2 from counts.data_yes (X := 2) (Y := 2) hok.1 hok.2] at hr
      have HBD := Lib.hid (cs_bd hok.1)
      have HLN : (up1 xss 2 2 2).length ≤ 4 := Nat.le_of_eq (cs_len xss)
      generalize up1 xss 2 2 2 = cs at hr HBD HLN ⊢
      have HR := Lib.hid hr
      have HAS := Lib.hid (two.asks 2 2)
      rw [asksB_yes] at HAS
      clear hr hok hqt hq
      go_enter Try.func40, Try.ntmps40
      go_wp2_with fail
      refine HR.out.mono ?_
      rintro e w2 ⟨u, rfl, hu, hb⟩
      have B2 := Lib.hid (below_tr B0.out hb)
      have K2 := Lib.hid (K0.out.below hb)
      obtain ⟨A, b, o, cap, rfl, _, hmax, hA, hc⟩ := hu.ints.form
      have HC := Lib.hid hc
      have HA := Lib.hid hA
      obtain ⟨c0, c1, c2, c3, c4⟩ := four_cells K2.out
      clear hb HR B0 K0 hu hc hA hmax
      go_wp2_with fail
      refine (HAS.out _).mono ?_
      rintro e w3 ⟨rfl, rfl⟩
      go_wp2_with fail
      go_loopw [7, 25] (fun _ i wr => ∃ k : Nat, k ≤ cs.length ∧ i = .int .i64 k ∧ Hid (∀ j (h : j < cs.length), j < k → 2 * cs[j] = wh) ∧ w2 = wr) (fun _ i _ => cs.length - (intOf i).toNat)
      case atStart => exact ⟨0, Nat.zero_le _, rfl, Lib.hid (fun j _ hj => by omega), rfl⟩
      case round =>
        obtain ⟨k, hk, rfl, hH, rfl⟩ := hrel
        by_cases hlt : k < cs.length
        · have hkz : (k : Int) < (cs.length : Int) := by omega
          have hpos : 0 < cs.length := by omega
          obtain rfl := HA.out (by omega)
          have g0 := HC.out k hlt
          have hbd := HBD.out k hlt
          by_cases he : 2 * cs[k] = wh
          · have de : (2 * cs[k] != wh) = false := by simp [he]
            have HE := Lib.hid he
            clear he
            go_wp2_with fail
            go_roundw
            case rel =>
              refine ⟨k + 1, by omega, by go_num, Lib.hid (fun j hj hj' => ?_), by first | rfl | trivial⟩
              by_cases e : j = k
              · subst e; exact HE.out
              · exact hH.out j hj (by omega)
            case measure => simp [intOf]; omega
          · have de : (2 * cs[k] != wh) = true := by simp [he]
            have HN : Hid (¬ evens wh cs) := Lib.hid (fun h => he (h k hlt))
            clear he
            go_wp2_with fail
            go_ret2
            exact ⟨ret_p (evB_no HN.out).symm, B2.out⟩
        · have hkz : ¬ (k : Int) < (cs.length : Int) := by omega
          have HN : Hid (evens wh cs) := Lib.hid (fun j hj => hH.out j hj (by omega))
          go_wp2_with fail
          go_ret2
          exact ⟨ret_p (evB_yes HN.out).symm, B2.out⟩
    · rw [res_no (fun h => h2 h.1.2)]
      have HAS := Lib.hid (two.asks x y)
      rw [asksB_no h2] at HAS
      have HR := Lib.hid hr
      clear hr hok h2 hq
      go_enter Try.func40, Try.ntmps40
      go_wp2_with fail
      refine HR.out.mono ?_
      rintro e w2 ⟨u, rfl, hu, hb⟩
      have B2 := Lib.hid (below_tr B0.out hb)
      have K2 := Lib.hid (K0.out.below hb)
      obtain ⟨c0, c1, c2, c3, c4⟩ := four_cells K2.out
      clear hb HR B0 K0 hu
      go_wp2_with fail
      refine (HAS.out _).mono ?_
      rintro e w3 ⟨rfl, rfl⟩
      go_wp2_with fail
      go_ret2
      exact ⟨rfl, B2.out⟩
  · have hqf : quietB x y wh xss = false := by simpa using hq
    rw [hqf] at hr
    rw [res_no (fun h => hq (by rw [quiet_qt h.1]; exact qtB_yes h))]
    have HR := Lib.hid hr
    clear hr hq hqf
    go_enter Try.func40, Try.ntmps40
    go_wp2_with fail
    refine HR.out.mono ?_
    rintro e w2 ⟨u, rfl, hu, hb⟩
    have B2 := Lib.hid (below_tr B0.out hb)
    clear hb HR B0 K0 hu
    go_wp2_with fail
    go_ret2
    exact ⟨rfl, B2.out⟩


end Go.Proofs.Ytlaaiahkdkhehaa.evb
