/- slices.Grow of the nil slice and slices.Concat of two lists of lists. -/
import Derived.Test.YtfkdhdiacelcjaaCat
import Derived.Lib.AppendZerosOnto
import Derived.Lib.SliceRun
namespace Go.Proofs.Ytfkdhdiacelcjaa.cat
open Go.RowKit Go.Deep Go.Proofs.Ytfkdhdiacelcjaa.base
open Go.Proofs.Ytfkdhdiacelcjaa.ints (infoInts)


set_option maxHeartbeats 2000000 in
set_option maxRecDepth 100000 in
theorem grow (n : Nat) (w : World) (h1 : 0 < n) (h2 : n ≤ 6) :
    Calls Try.prog 122 #[.slice none 0 0, .int .i64 (n : Int)] w fun e w' => ∃ G, e = .returned (.slice (some ⟨w.heap.size, 0, none⟩) 0 G) ∧ w'.ownsRow w.heap.size 22 1 (.slice (some ⟨w.heap.size, 0, none⟩) 0 G) 0 [] ∧ Below w.heap.size w w' := by
  obtain ⟨s0, si, sz0, sz1, sz2⟩ := info_parts infoInts
  have hrz : ∀ ty, (Builtin.append_ #[23, 3] ty #[.slice none 0 0, .int .i64 (n : Int)]).run Try.prog w =
      .ok (.slice (some ⟨w.heap.size, 0, none⟩) n (grownCap w n 0 22)) (w.drew.alloc (.cells (([] : List Value).toArray ++ Builtin.zeroCells (Value.slice none 0 0).cells n ++ Builtin.zeroCells (Value.slice none 0 0).cells (grownCap w n 0 22 - n)) 22)) := fun ty => by
    have h := Lib.run_append_grow_zeros (P := Try.prog) w 23 3 ty 22 s0 (.slice none 0 0) .i64 .i64 Try.underlying23 Try.underlying3 si sz0 none 0 0 [] (run_firstCells_none w.drew s0.size 0 0 0) n h1 (by omega) (by omega) (by omega) (by rw [sz2]; omega)
      (growslice_fits (by omega) (by rw [sz2]; omega))
    simpa using h
  obtain ⟨G, hG⟩ : ∃ G, G = grownCap w n 0 22 := ⟨_, rfl⟩
  have hGn : n ≤ G := by rw [hG]; exact grownCap_ge w _ _ _
  have hGm : G ≤ maxLen := by rw [hG]; exact grownCap_le_maxLen w n 0 22 (by unfold maxLen; omega)
  rw [← hG] at hrz
  have hG63 : G ≤ 9223372036854775807 := by unfold maxLen at hGm; omega
  have hw : wrap64 (n : Int) = n := by unfold wrap64; omega
  have hw' : IntKind.i64.wrap (n : Int) = n := IntWalk.i64_in _ (by omega)
  have hn0 : ¬ ((n : Int) < 0) := by omega
  have hnp : (n : Int) > 0 := by omega
  have HO : Hid ((w.drew.alloc (.cells (([] : List Value).toArray ++ Builtin.zeroCells (Value.slice none 0 0).cells n ++ Builtin.zeroCells (Value.slice none 0 0).cells (G - n)) 22)).ownsRow w.heap.size 22 1 (.slice (some ⟨w.heap.size, 0, none⟩) 0 G) 0 []) := Lib.hid (by
    have := World.ownsRow_made (base := w.heap.size) (e := 22) (size := 1) w.drew (([] : List Value).toArray ++ Builtin.zeroCells (Value.slice none 0 0).cells n ++ Builtin.zeroCells (Value.slice none 0 0).cells (G - n)) G (Nat.le_refl _) hGm (by simp [size_zeroCells, Value.cells]; omega)
    simpa using this)
  have HB := Lib.hid (below_al (below_dr (Below.refl w.heap.size w)) (.cells (([] : List Value).toArray ++ Builtin.zeroCells (Value.slice none 0 0).cells n ++ Builtin.zeroCells (Value.slice none 0 0).cells (G - n)) 22))
  have HN := Lib.hid hGn
  clear hG hGm
  generalize (([] : List Value).toArray ++ Builtin.zeroCells (Value.slice none 0 0).cells n ++ Builtin.zeroCells (Value.slice none 0 0).cells (G - n)) = Z at hrz HO HB
  go_enter Try.func122, Try.ntmps122
  go_wp2_with (at_builtin; refine Lib.wpList_append_run _ rfl _ _ _ _ rfl _ _ rfl rfl _ _ (hrz _) ?_)
  all_goals
    go_ret
    exact ⟨_, rfl, HO.out, HB.out⟩



set_option maxHeartbeats 2000000 in
set_option maxRecDepth 100000 in
theorem concat (g c : Nat) (vr vp : Value) (rss pss : List (List Int)) (w : World) (h0 : w.cell? ⟨g, 0, none⟩ = some vr) (h1 : w.cell? ⟨g, 1, none⟩ = some vp) (h : IRows w vr rss) (h' : IRows w vp pss)
    (hr : 1 ≤ rss.length ∧ rss.length ≤ 3) (hp : 1 ≤ pss.length ∧ pss.length ≤ 3) :
    Calls Try.prog 114 #[.slice (some ⟨g, 0, none⟩) 2 c] w fun e w' => ∃ u, e = .returned u ∧ IRows w' u (rss ++ pss) ∧ Below w.heap.size w w' := by
  obtain ⟨s0, si, sz0, sz1, sz2⟩ := info_parts infoInts
  obtain ⟨b, o, rc, rvals, rfl, hrl, hrc, hro, hri⟩ := parts h (by omega)
  obtain ⟨b', o', pc, pvals, rfl, hpl, hpc, hpo, hpi⟩ := parts h' (by omega)
  have HJ := Lib.hid (joined hrl hri hpi)
  have HJL : Hid ((rvals ++ pvals).length = (rss ++ pss).length) := Lib.hid (by rw [List.length_append, List.length_append]; omega)
  have HRC := Lib.hid (fun (W : World) (hb : Below w.heap.size w W) => fun (j : Nat) (u : Value) (hu : rvals[j]? = some u) => below_cell hb _ _ (hrc j u hu))
  have HPC := Lib.hid (fun (W : World) (hb : Below w.heap.size w W) => fun (j : Nat) (u : Value) (hu : pvals[j]? = some u) => below_cell hb _ _ (hpc j u hu))
  have HRO := Lib.hid hro
  have HPO := Lib.hid hpo
  have HRL := Lib.hid hrl
  have HPL := Lib.hid hpl
  clear h h' hri hpi hrc hpc hro hpo hrl hpl
  obtain ⟨X, hX⟩ : ∃ X, rss.length = X := ⟨_, rfl⟩
  obtain ⟨Y, hY⟩ : ∃ Y, pss.length = Y := ⟨_, rfl⟩
  rw [hX] at hr HRL h0
  rw [hY] at hp HPL h1
  clear hX hY
  obtain ⟨hr1, hr3⟩ := hr
  obtain ⟨hp1, hp3⟩ := hp
  have k1 : IntKind.i64.wrap ((X : Int) + (Y : Int)) = ((X + Y : Nat) : Int) := by rw [IntWalk.i64_in _ (by omega)]; omega
  have k2 : IntKind.i64.wrap (X : Int) = X := IntWalk.i64_in _ (by omega)
  have n1 : decide (((X + Y : Nat) : Int) < 0) = false := by simp; omega
  have n2 : decide ((X : Int) < 0) = false := by simp
  have hGR := Lib.hid (fun (W : World) => grow (X + Y) W (by omega) (by omega))
  go_enter Try.func114, Try.ntmps114
  go_wp2_with fail
  go_loopw [3, 5, 11] (fun s z i wr => ∃ k : Nat, k ≤ 2 ∧ i = .int .i64 k ∧ s = .int .i64 ((if k = 0 then 0 else if k = 1 then X else X + Y : Nat) : Int) ∧ (∃ z', z = z') ∧ w = wr) (fun _ _ i _ => 2 - (intOf i).toNat)
  case atStart => exact ⟨0, by omega, rfl, rfl, ⟨_, rfl⟩, rfl⟩
  case round =>
    obtain ⟨k, hk, rfl, rfl, ⟨z, rfl⟩, rfl⟩ := hrel
    obtain rfl | rfl | rfl : k = 0 ∨ k = 1 ∨ k = 2 := by omega
    · go_wp2_with fail
      go_roundw
      case rel => exact ⟨1, by omega, by go_num, by simp, ⟨_, rfl⟩, by first | rfl | trivial⟩
      case measure => simp [intOf]
    · go_wp2_with fail
      go_roundw
      case rel => exact ⟨2, by omega, by go_num, by simp, ⟨_, rfl⟩, by first | rfl | trivial⟩
      case measure => simp [intOf]
    · go_wp2_with fail
      refine (hGR.out _).mono ?_
      rintro e w1 ⟨G, rfl, ho, hb⟩
      have C0 : Hid (Cat w w1 w.heap.size (.slice (some ⟨w.heap.size, 0, none⟩) 0 G) []) := Lib.hid ⟨hb, Nat.le_refl _, hb.size, ho⟩
      have h0' := below_cell hb _ _ h0
      have h1' := below_cell hb _ _ h1
      clear ho hb hGR k1 k2 n1 n2
      go_wp2_with fail
      go_loopw [6, 8, 27] (fun v z i wr => ∃ k : Nat, k ≤ 2 ∧ i = .int .i64 k ∧ (∃ z', z = z') ∧ Hid (Cat w wr w.heap.size v (if k = 0 then [] else if k = 1 then rvals else rvals ++ pvals))) (fun _ _ i _ => 2 - (intOf i).toNat)
      case atStart => exact ⟨0, by omega, rfl, ⟨_, rfl⟩, C0⟩
      case round =>
        clear C0
        obtain ⟨k, hk, rfl, ⟨z, rfl⟩, hC⟩ := hrel
        obtain ⟨wi, rfl⟩ : ∃ wi : World, wi = wr := ⟨_, rfl⟩
        have g0 := below_cell hC.out.below _ _ h0
        have g1 := below_cell hC.out.below _ _ h1
        obtain rfl | rfl | rfl : k = 0 ∨ k = 1 ∨ k = 2 := by omega
        · have C1 := Lib.hid (show Cat w wi w.heap.size _ [] from hC.out)
          clear hC
          go_wp2_with (at_builtin; go_must (refine wpList_append_own _ rfl (.tmp 31) (.tmp 32) 23 rfl w.heap.size 22 s0 (.slice none 0 0) 1 24 Try.underlying23 si sz0 sz1 sz2 rfl (by decide) _ _ _ rfl C1.out.owns ⟨b, o, none⟩ X rc rvals rfl ?dn ?d1 ?d2 ?d3 ?d4 ?d5 ?_))
          case dn => simp [HRL.out]
          case d1 => exact HRC.out _ C1.out.below
          case d2 => exact HRO.out
          case d3 => simp; unfold maxLen; omega
          case d4 => simp; omega
          case d5 => exact C1.out.below.size
          intro v1 w2 hown1 hgrow1 _
          have C2 : Hid (Cat w w2 w.heap.size v1 rvals) := Lib.hid (by have := C1.out.grow HRL.out (by simpa using hown1) hgrow1; simpa using this)
          obtain ⟨xa, xl, xc, rfl⟩ := make.shape hown1
          clear hown1 hgrow1 C1
          go_wp2_with fail
          go_roundw
          case rel => exact ⟨1, by omega, by go_num, ⟨_, rfl⟩, C2⟩
          case measure => simp [intOf]
        · have C1 := Lib.hid (show Cat w wi w.heap.size _ rvals from hC.out)
          have hrl := HRL.out
          clear hC
          go_wp2_with (at_builtin; go_must (refine wpList_append_own _ rfl (.tmp 31) (.tmp 32) 23 rfl w.heap.size 22 s0 (.slice none 0 0) 1 24 Try.underlying23 si sz0 sz1 sz2 rfl (by decide) _ _ _ rfl C1.out.owns ⟨b', o', none⟩ Y pc pvals rfl ?dn ?d1 ?d2 ?d3 ?d4 ?d5 ?_))
          case dn => simp [HPL.out]
          case d1 => exact HPC.out _ C1.out.below
          case d2 => exact HPO.out
          case d3 => unfold maxLen; omega
          case d4 => omega
          case d5 => exact C1.out.below.size
          intro v1 w2 hown1 hgrow1 _
          have C2 : Hid (Cat w w2 w.heap.size v1 (rvals ++ pvals)) := Lib.hid (C1.out.grow HPL.out (by first | exact hown1 | (rw [hrl]; exact hown1)) hgrow1)
          obtain ⟨xa, xl, xc, rfl⟩ := make.shape hown1
          clear hown1 hgrow1 C1
          go_wp2_with fail
          go_roundw
          case rel => exact ⟨2, by omega, by go_num, ⟨_, rfl⟩, C2⟩
          case measure => simp [intOf]
        · have C1 := Lib.hid (show Cat w wi w.heap.size _ (rvals ++ pvals) from hC.out)
          obtain ⟨xa, xl, xc, rfl⟩ := make.shape C1.out.owns
          clear hC
          go_wp2_with fail
          go_ret
          exact ⟨_, rfl, C1.out.rows HJL.out HJ.out, C1.out.below⟩


end Go.Proofs.Ytfkdhdiacelcjaa.cat
