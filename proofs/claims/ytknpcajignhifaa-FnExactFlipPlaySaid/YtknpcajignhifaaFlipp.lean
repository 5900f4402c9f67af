/- FlipPlay of the model and of the program. -/
import Derived.Test.YtknpcajignhifaaStep
import Derived.Test.YtknpcajignhifaaApp
import Derived.Test.YtknpcajignhifaaPboxc
namespace Go.Proofs.Ytknpcajignhifaa.flipp
open Go.RowKit Go.Deep Go.Proofs.Ytknpcajignhifaa.base
open Go.Proofs.Ytknpcajignhifaa.val (okSizes ret_b)
open Go.Proofs.Ytknpcajignhifaa.ints (infoInt)
open Go.Proofs.Ytknpcajignhifaa.play (within withinB withinB_yes withinB_no isPlay isPlay_yes isPlay_no)

def fl (ps fs : List Int) (k : Nat) : Int := if ps.getD k 0 = fs.getD k 0 then 0 else 1
def upto (ps fs : List Int) (n : Nat) : List Int := (List.range n).map (fl ps fs)
theorem upto_succ (ps fs : List Int) (k : Nat) : upto ps fs (k + 1) = upto ps fs k ++ [fl ps fs k] := by simp [upto, List.range_succ]
theorem len_upto (ps fs : List Int) (k : Nat) : (upto ps fs k).length = k := by simp [upto]
def all (x y : Int) (ps fs : List Int) : Prop := okSizes x y ∧ within (x + y) 0 1 ps ∧ within (x + y) 0 1 fs
open Classical in
noncomputable def res (x y : Int) (ps fs : List Int) : List Int × Bool := if all x y ps fs then (upto ps fs ps.length, true) else ([], false)
theorem res_yes {x y : Int} {ps fs : List Int} (h : all x y ps fs) : res x y ps fs = (upto ps fs ps.length, true) := if_pos h
theorem res_no {x y : Int} {ps fs : List Int} (h : ¬ all x y ps fs) : res x y ps fs = ([], false) := if_neg h
theorem all_len {x y : Int} {ps fs : List Int} (h : all x y ps fs) : ps.length ≤ 6 ∧ fs.length = ps.length := by
  obtain ⟨⟨⟨a1, a2⟩, b1, b2⟩, h1, h2⟩ := h
  have := h1.1; have := h2.1; omega
theorem len_res (x y : Int) (ps fs : List Int) : (res x y ps fs).1.length ≤ 1048576 := by
  by_cases h : all x y ps fs
  · rw [res_yes h]; simp only [len_upto]; have := all_len h; omega
  · rw [res_no h]; simp
theorem xor_fl {p q : Int} (hp : 0 ≤ p ∧ p ≤ 1) (hq : 0 ≤ q ∧ q ≤ 1) : bits .xor .i64 p q = if p = q then 0 else 1 := by
  have h1 : p = 0 ∨ p = 1 := by omega
  have h2 : q = 0 ∨ q = 1 := by omega
  rcases h1 with rfl | rfl <;> rcases h2 with rfl | rfl <;> decide
theorem fl_at {ps fs : List Int} {k : Nat} (h : k < ps.length) (h' : k < fs.length) : fl ps fs k = if ps[k] = fs[k] then 0 else 1 := by
  unfold fl; simp [List.getD, h, h']

set_option maxHeartbeats 2000000 in
theorem spec_any (x y : Int) (v u : Value) (ps fs : List Int) (w : World) (h : Ints w v ps) (h' : Ints w u fs) :
    Calls Try.prog 15 #[.int .i64 x, .int .i64 y, v, u] w fun e w' => ∃ r, e = .returned (.tuple #[r, .bool (res x y ps fs).2]) ∧ Ints w' r (res x y ps fs).1 ∧ Below w.heap.size w w' := by
  obtain ⟨i0, hi, hz0, hz1, hz2⟩ := info_parts infoInt
  have B0 := Lib.hid (below_al (Below.refl w.heap.size w) (.cells #[] 3))
  have O0 : Hid ((w.alloc (.cells #[] 3)).ownsRow w.heap.size 3 1 (.slice (some ⟨w.heap.size, 0, none⟩) 0 0) 0 (i64s [])) := Lib.hid (by
      have := World.ownsRow_made (base := w.heap.size) (e := 3) (size := 1) w #[] 0 (by simp) (Nat.zero_le _) rfl
      simpa [i64s] using this)
  have cp := pbox.l2play x y v ps _ (h.below B0.out)
  have cq := play.spec_bits u fs (x + y) _ (h'.below B0.out)
  obtain ⟨A, b, o, cap, rfl, hcap, hmax, hA, hc⟩ := h.form
  obtain ⟨A', b', o', cap', rfl, hcap', hmax', hA', hc'⟩ := h'.form
  clear h h' hmax hmax'
  by_cases hs : okSizes x y
  · have HSS := Lib.hid hs
    obtain ⟨⟨s1, s2⟩, s3, s4⟩ := hs
    by_cases hw : within (x + y) 0 1 ps
    · simp only [isPlay_yes HSS.out, withinB_yes hw] at cp
      have CP := Lib.hid cp
      clear cp
      by_cases hg : within (x + y) 0 1 fs
      · rw [withinB_yes hg] at cq
        have CQ := Lib.hid cq
        have HA := Lib.hid (show all x y ps fs from ⟨HSS.out, hw, hg⟩)
        have hl6 := (all_len HA.out).1
        have HLL := Lib.hid (all_len HA.out).2
        have HWI := Lib.hid hw.2
        have HGI := Lib.hid hg.2
        rw [res_yes HA.out]
        clear hw hg cq
        go_enter Try.func15, Try.ntmps15
        go_wp2_with fail
        refine CP.out.mono ?_
        rintro e w' ⟨rfl, rfl⟩
        go_wp2_with fail
        refine CQ.out.mono ?_
        rintro e w' ⟨rfl, rfl⟩
        go_wp2_with fail
        go_loopw [10, 11] (fun out i wr => ∃ k : Nat, k ≤ ps.length ∧ i = .int .i64 k ∧ Hid (wr.ownsRow w.heap.size 3 1 out k (i64s (upto ps fs k))) ∧ Hid (Below w.heap.size w wr)) (fun _ i _ => ps.length - (intOf i).toNat)
        case atStart => exact ⟨0, Nat.zero_le _, rfl, O0, B0⟩
        case round =>
          obtain ⟨k, hk, rfl, hO, hB⟩ := hrel
          obtain ⟨wo, rfl⟩ : ∃ wo : World, wo = wr := ⟨_, rfl⟩
          by_cases hlt : k < ps.length
          · have hkz : (k : Int) < (ps.length : Int) := by omega
            have hlt' : k < fs.length := by have := HLL.out; omega
            have hkz' : (k : Int) < (fs.length : Int) := by omega
            obtain rfl := hA (by omega)
            obtain rfl := hA' (by omega)
            have g0 := below_cell hB.out _ _ (hc k hlt)
            have f0 := below_cell hB.out _ _ (hc' k hlt')
            have p01 := HWI.out k hlt
            have q01 := HGI.out k hlt'
            have HF := Lib.hid (fl_at hlt hlt')
            have HC := Lib.hid hc
            have HC' := Lib.hid hc'
            have hsz := hB.out.size
            obtain ⟨p, hp⟩ : ∃ p, ps[k] = p := ⟨_, rfl⟩
            obtain ⟨q, hq⟩ : ∃ q, fs[k] = q := ⟨_, rfl⟩
            rw [hp] at g0 p01
            rw [hq] at f0 q01
            have HPQ : Hid (fl ps fs k = if p = q then 0 else 1) := Lib.hid (by rw [HF.out, hp, hq])
            obtain ⟨r, hr⟩ : ∃ r, (if p = q then (0 : Int) else 1) = r := ⟨_, rfl⟩
            have HR : Hid (fl ps fs k = r) := Lib.hid (by rw [HPQ.out, hr])
            clear hc hc' hA hA' hp hq HF
            have O1 := Lib.hid (app.owns_below hO.out (below_al (below_dr (Below.refl _ _)) (.cells #[.int .i64 r] 3)))
            have O2 := Lib.hid (app.owns_below hO.out (below_dr (below_al (Below.refl _ _) (.cells #[.int .i64 r] 3))))
            have hx : bits .xor .i64 p q = r := by rw [xor_fl p01 q01, hr]
            clear hr p01 q01 HPQ
            go_wp2_with fail
            go_region_law (refine step.own rfl (.tmp 33) (.tmp 43) 22 rfl 3 i0 (.int .i64 0) 1 8 Try.underlying22 hi hz0 hz1 hz2 rfl (by decide) w.heap.size _ k (i64s (upto ps fs k)) (by first | exact O1.out | exact O2.out) (by simp [Act.eval]) ⟨wo.heap.size, 0, none⟩ 1 1 [.int .i64 r] (by simp [Act.eval]) rfl (by intro j u hj; match j, hj with | 0, hj => (simp at hj; subst hj; simp [Addr.add])) (by intro u hu; simp at hu; subst hu; rfl) (by unfold maxLen; omega) (by omega) (by simp; omega) ?_; intro v' w3 hown' hgrow)
            all_goals
              have B3 := Lib.hid ((below_dr (below_al hB.out (.cells #[.int .i64 r] 3))).grown hgrow (by simp; omega) (fun j hj => (hO.out.lt j hj).1))
              have O3 : Hid (w3.ownsRow w.heap.size 3 1 v' (k + 1) (i64s (upto ps fs (k + 1)))) := Lib.hid (by rw [upto_succ, ← app.i64s_snoc, HR.out]; exact hown')
              clear hown' hgrow O1 O2
              go_wp2_with fail
              go_roundw
              case rel => exact ⟨k + 1, by omega, by go_num, O3, B3⟩
              case measure => simp [intOf]; omega
          · have hkz : ¬ (k : Int) < (ps.length : Int) := by omega
            obtain rfl : k = ps.length := by omega
            clear hc hc' hA hA'
            go_wp2_with fail
            go_ret2
            exact ⟨_, rfl, (app.ints_of_owns hO.out).ints, hB.out⟩
      · rw [withinB_no hg] at cq
        have CQ := Lib.hid cq
        rw [res_no (fun h => hg h.2.2)]
        clear hw hg cq hc hc' hA hA'
        go_enter Try.func15, Try.ntmps15
        go_wp2_with fail
        refine CP.out.mono ?_
        rintro e w' ⟨rfl, rfl⟩
        go_wp2_with fail
        refine CQ.out.mono ?_
        rintro e w' ⟨rfl, rfl⟩
        go_wp2_with fail
        go_ret2
        exact ⟨_, rfl, app.empty _ _ _ (Nat.zero_le _), B0.out⟩
    · simp only [isPlay_yes HSS.out, withinB_no hw] at cp
      have CP := Lib.hid cp
      rw [res_no (fun h => hw h.2.1)]
      clear cp hw cq hc hc' hA hA'
      go_enter Try.func15, Try.ntmps15
      go_wp2_with fail
      refine CP.out.mono ?_
      rintro e w' ⟨rfl, rfl⟩
      go_wp2_with fail
      go_ret2
      exact ⟨_, rfl, app.empty _ _ _ (Nat.zero_le _), B0.out⟩
  · simp only [isPlay_no hs] at cp
    have CP := Lib.hid cp
    rw [res_no (fun h => hs h.1)]
    clear cp hs cq hc hc' hA hA'
    go_enter Try.func15, Try.ntmps15
    go_wp2_with fail
    refine CP.out.mono ?_
    rintro e w' ⟨rfl, rfl⟩
    go_wp2_with fail
    go_ret2
    exact ⟨_, rfl, app.empty _ _ _ (Nat.zero_le _), B0.out⟩

/-- the row under way of the program -/
theorem row_done {ps fs : List Int} {wr : World} {g : Nat} (h : wr.rowIs g 3 ps.length (fun j => if j < ps.length then .int .i64 (fl ps fs j) else .int .i64 0)) : wr.rowIs g 3 (upto ps fs ps.length).length (fun j => .int .i64 ((upto ps fs ps.length).getD j 0)) := by
  rw [len_upto]
  refine h.congr (fun j hj => ?_)
  rw [if_pos hj]
  simp [upto, List.getD, hj]

set_option maxHeartbeats 2000000 in
theorem impl_any (x y : Int) (v u : Value) (ps fs : List Int) (w : World) (h : Ints w v ps) (h' : Ints w u fs) :
    Calls Try.prog 17 #[.int .i64 x, .int .i64 y, v, u] w fun e w' => ∃ r, e = .returned (.tuple #[r, .bool (res x y ps fs).2]) ∧ OwnInts w' w.heap.size w'.heap.size r (res x y ps fs).1 ∧ Below w.heap.size w w' := by
  have cp := play.impl_bits v ps (x + y) w h
  have cq := play.impl_bits u fs (x + y) w h'
  obtain ⟨A, b, o, cap, rfl, hcap, hmax, hA, hc⟩ := h.form
  obtain ⟨A', b', o', cap', rfl, hcap', hmax', hA', hc'⟩ := h'.form
  clear h h' hmax hmax'
  by_cases hs : okSizes x y
  · have HSS := Lib.hid hs
    obtain ⟨⟨s1, s2⟩, s3, s4⟩ := hs
    by_cases hw : within (x + y) 0 1 ps
    · rw [withinB_yes hw] at cp
      have CP := Lib.hid cp
      clear cp
      by_cases hg : within (x + y) 0 1 fs
      · rw [withinB_yes hg] at cq
        have CQ := Lib.hid cq
        have HA := Lib.hid (show all x y ps fs from ⟨HSS.out, hw, hg⟩)
        have hl6 := (all_len HA.out).1
        have HLL := Lib.hid (all_len HA.out).2
        have HWI := Lib.hid hw.2
        have HGI := Lib.hid hg.2
        have hmk := run_make_row' (P := Try.prog) 22 3 (.int .i64 0) 8 Try.underlying22 infoInt rfl .i64 .i64 ps.length (by omega) (by omega)
        rw [res_yes HA.out]
        clear hw hg cq
        go_enter Try.func17, Try.ntmps17
        go_wp2_with fail
        refine (val.isizes_yes _ _ _ HSS.out).mono ?_
        rintro e w' ⟨rfl, rfl⟩
        go_wp2_with fail
        refine CP.out.mono ?_
        rintro e w' ⟨rfl, rfl⟩
        go_wp2_with fail
        refine CQ.out.mono ?_
        rintro e w' ⟨rfl, rfl⟩
        go_wp2_with fail
        clear hmk
        go_loopw [11, 37] (fun z i wr => ∃ k : Nat, k ≤ ps.length ∧ i = .int .i64 k ∧ (∃ z', z = z') ∧ Hid (Below w.heap.size w wr) ∧ Hid (wr.rowIs w.heap.size 3 ps.length (fun j => if j < k then .int .i64 (fl ps fs j) else .int .i64 0))) (fun _ i _ => ps.length - (intOf i).toNat)
        case atStart => exact ⟨0, Nat.zero_le _, rfl, ⟨_, rfl⟩, (Below.refl _ _).alloc (Nat.le_refl _) _, (World.rowIs_made w _ _ _).congr (fun j _ => by simp)⟩
        case round =>
          obtain ⟨k, hk, rfl, ⟨z', rfl⟩, hB, hrow⟩ := hrel
          obtain ⟨wo, rfl⟩ : ∃ wo : World, wo = wr := ⟨_, rfl⟩
          by_cases hlt : k < ps.length
          · have hkz : (k : Int) < (ps.length : Int) := by omega
            have hlt' : k < fs.length := by have := HLL.out; omega
            have hkz' : (k : Int) < (fs.length : Int) := by omega
            obtain rfl := hA (by omega)
            obtain rfl := hA' (by omega)
            have g0 := below_cell hB.out _ _ (hc k hlt)
            have f0 := below_cell hB.out _ _ (hc' k hlt')
            have p01 := HWI.out k hlt
            have q01 := HGI.out k hlt'
            have HF := Lib.hid (fl_at hlt hlt')
            have g2 := hrow.out.cell hlt
            have g3 := hrow.out.frozen k
            simp only [Nat.lt_irrefl, if_false] at g2
            have HC := Lib.hid hc
            have HC' := Lib.hid hc'
            obtain ⟨p, hp⟩ : ∃ p, ps[k] = p := ⟨_, rfl⟩
            obtain ⟨q, hq⟩ : ∃ q, fs[k] = q := ⟨_, rfl⟩
            rw [hp] at g0 p01
            rw [hq] at f0 q01
            have HPQ : Hid (fl ps fs k = if p = q then 0 else 1) := Lib.hid (by rw [HF.out, hp, hq])
            obtain ⟨r, hr⟩ : ∃ r, (if p = q then (0 : Int) else 1) = r := ⟨_, rfl⟩
            have HR : Hid (fl ps fs k = r) := Lib.hid (by rw [HPQ.out, hr])
            have hx : bits .xor .i64 p q = r := by rw [xor_fl p01 q01, hr]
            clear hc hc' hA hA' hp hq HF hr p01 q01 HPQ
            go_wp2_with fail
            go_region
            go_wp2_with fail
            go_roundw
            case rel =>
              refine ⟨k + 1, by omega, by go_num, ⟨_, rfl⟩, Lib.hid (by first | exact below_dr (hB.out.setCell (Nat.le_refl _) _) | exact (below_dr hB.out).setCell (Nat.le_refl _) _), Lib.hid ?_⟩
              refine World.rowIs.congr (by first | exact (hrow.out.set k (.int .i64 r)).of_block rfl | exact (World.rowIs.of_block hrow.out rfl).set k (.int .i64 r)) (fun j hj => ?_)
              by_cases e : j = k
              · subst e; simp [HR.out]
              · rw [if_neg e]
                by_cases h2 : j < k
                · rw [if_pos h2, if_pos (by omega)]
                · rw [if_neg h2, if_neg (by omega)]
            case measure => simp [intOf]; omega
          · have hkz : ¬ (k : Int) < (ps.length : Int) := by omega
            obtain rfl : k = ps.length := by omega
            clear hc hc' hA hA'
            go_wp2_with fail
            go_ret2
            refine ⟨_, rfl, ?_, hB.out⟩
            have := ints.own_of_row (row_done hrow.out) (Nat.le_refl _) hrow.out.lt (by rw [len_upto]; unfold maxLen; omega)
            rw [len_upto] at this
            exact this
      · rw [withinB_no hg] at cq
        have CQ := Lib.hid cq
        rw [res_no (fun h => hg h.2.2)]
        clear hw hg cq hc hc' hA hA'
        go_enter Try.func17, Try.ntmps17
        go_wp2_with fail
        refine (val.isizes_yes _ _ _ HSS.out).mono ?_
        rintro e w' ⟨rfl, rfl⟩
        go_wp2_with fail
        refine CP.out.mono ?_
        rintro e w' ⟨rfl, rfl⟩
        go_wp2_with fail
        refine CQ.out.mono ?_
        rintro e w' ⟨rfl, rfl⟩
        go_wp2_with fail
        go_ret2
        exact ⟨_, rfl, OwnInts.nil _ _ _, Below.refl _ _⟩
    · rw [withinB_no hw] at cp
      have CP := Lib.hid cp
      rw [res_no (fun h => hw h.2.1)]
      clear cp hw cq hc hc' hA hA'
      go_enter Try.func17, Try.ntmps17
      go_wp2_with fail
      refine (val.isizes_yes _ _ _ HSS.out).mono ?_
      rintro e w' ⟨rfl, rfl⟩
      go_wp2_with fail
      refine CP.out.mono ?_
      rintro e w' ⟨rfl, rfl⟩
      go_wp2_with fail
      go_ret2
      exact ⟨_, rfl, OwnInts.nil _ _ _, Below.refl _ _⟩
  · have HSS := Lib.hid hs
    rw [res_no (fun h => hs h.1)]
    clear cp hs cq hc hc' hA hA'
    go_enter Try.func17, Try.ntmps17
    go_wp2_with fail
    refine (val.isizes_no _ _ _ HSS.out).mono ?_
    rintro e w' ⟨rfl, rfl⟩
    go_wp2_with fail
    go_ret2
    exact ⟨_, rfl, OwnInts.nil _ _ _, Below.refl _ _⟩

end Go.Proofs.Ytknpcajignhifaa.flipp
