/- What JoinScenes of the program calls: slices.Grow of the nil slice, slices.Concat of two lists, each of them empty or not, and validScene. -/
import Derived.Test.YtiigfhigmdjooaaCat
import Derived.Test.YtiigfhigmdjooaaFle
import Derived.Lib.AppendZerosOnto
import Derived.Lib.SliceRun
import Derived.Deep.RegionHeld3
namespace Go.Proofs.Ytiigfhigmdjooaa.jsa
open Go.RowKit Go.Deep Go.Proofs.Ytiigfhigmdjooaa.base
open Go.Proofs.Ytiigfhigmdjooaa.ints (infoInts infoInt)
open Go.Proofs.Ytiigfhigmdjooaa.scm

theorem run_none {P : Program} {w : World} (B : Nat) (t ty e : TypeId) (i : TypeInfo) (size : Nat) (ht : P.underlying t = some (.slice e)) (hi : P.info? e = some i)
    (v : Value) (n c : Nat) (xs : List Value) (hown : w.ownsRow B e size v n xs) :
    (Builtin.append_ #[t, t] ty #[v, .slice none 0 c]).run P w = .ok v w := by
  rcases hown.2 with ⟨rfl, rfl⟩ | ⟨g, cap, cur, rfl, _, _, hnc, _⟩
  · simp [Builtin.append_, run_underlying ht, sizeOf, typeInfo, hi, Builtin.lenOf, Builtin.firstCells]
  · simp [Builtin.append_, run_underlying ht, sizeOf, typeInfo, hi, Builtin.lenOf, Builtin.firstCells, hnc, storeCells]
/-- a slice appended to one of the call's own, whatever the slice is -/
theorem run_any {P : Program} (w : World) (B : Nat) (t ty e : TypeId) (i : TypeInfo) (z : Value) (bytes : Nat) (ht : P.underlying t = some (.slice e)) (hi : P.info? e = some i) (hz : i.zero = some z)
    (hsize : i.size = 1) (hby : i.bytes = bytes) (hzs : z.cells.size = 1)
    (v : Value) (n : Nat) (xs : List Value) (hown : w.ownsRow B e 1 v n xs) (x : Value) (news : List Value) (hx : Sl w x news) (h1 : ∀ u ∈ news, u.oneCell' = true)
    (h63 : n + news.length ≤ maxLen) (hbytes : (n + news.length) * bytes ≤ 140737488355328) (hB : B ≤ w.heap.size) :
    ∃ v' w', (Builtin.append_ #[t, t] ty #[v, x]).run P w = .ok v' w' ∧ w'.ownsRow B e 1 v' (n + news.length) (xs ++ news) ∧ w.grownBy w' v.ownBlock := by
  obtain ⟨A, b, o, cap, rfl, g1, g2, g3, hc⟩ := hx.form
  cases A with
  | none =>
    have h0 : news = [] := by
      rcases Nat.eq_zero_or_pos news.length with h | h
      · exact List.eq_nil_of_length_eq_zero h
      · exact absurd (g3 h) (by simp)
    subst h0
    exact ⟨v, w, run_none B t ty e i 1 ht hi v n cap xs hown, by simpa using hown, ⟨rfl, rfl, rfl, Nat.le_refl _, fun _ _ _ => rfl⟩⟩
  | some ad =>
    obtain ⟨v', w', r1, r2, r3, _⟩ := run_append_own (P := P) w B t ty e i z 1 bytes ht hi hz hsize hby hzs (by omega) v n xs hown ad news.length cap news (by omega)
      (fun j u hu => by
        have hj : j < news.length := by
          rcases Nat.lt_or_ge j news.length with h | h
          · exact h
          · rw [List.getElem?_eq_none h] at hu; cases hu
        have := g3 (by omega)
        injection this with e1
        subst e1
        rw [row.opn_add]
        exact hc j u hu) h1 h63 hbytes hB
    exact ⟨v', w', r1, r2, r3⟩
/-- memory of the call's own that holds some values -/
structure CatE (E : TypeId) (w W : World) (v : Value) (vals : List Value) : Prop where
  below : Below w.heap.size w W
  owns : W.ownsRow w.heap.size E 1 v vals.length vals
theorem CatE.grow {E : TypeId} {w W w' : World} {m : Nat} {v v' : Value} {vals news : List Value} (h : CatE E w W v vals) (hm : news.length = m) (ho : w'.ownsRow w.heap.size E 1 v' (vals.length + m) (vals ++ news)) (hg : W.grownBy w' v.ownBlock) : CatE E w w' v' (vals ++ news) :=
  ⟨h.below.grown hg h.below.size (fun j hj => (h.owns.lt j hj).1), by rw [List.length_append, hm]; exact ho⟩
theorem one_ints (xs : List Int) : ∀ u ∈ i64s xs, u.oneCell' = true := by
  intro u hu
  unfold i64s at hu
  obtain ⟨x, _, rfl⟩ := List.mem_map.1 hu
  rfl
theorem one_rows {w : World} {vals : List Value} {xss : List (List Int)} (hl : vals.length = xss.length) (h : ∀ r (h : r < xss.length), ∃ u, vals[r]? = some u ∧ Ints w u xss[r]) : ∀ u ∈ vals, u.oneCell' = true := by
  intro u hu
  obtain ⟨r, hr⟩ := List.mem_iff_getElem?.1 hu
  have hlt : r < vals.length := by
    rcases Nat.lt_or_ge r vals.length with h | h
    · exact h
    · rw [List.getElem?_eq_none h] at hr; cases hr
  obtain ⟨u', h4, h5⟩ := h r (by omega)
  rw [hr] at h4
  injection h4 with h4
  subst h4
  obtain ⟨A, c, hv, _⟩ := h5
  rw [hv]; rfl
theorem own_in {w : World} {B e n : Nat} {v : Value} {vals : List Value} (h : w.ownsRow B e 1 v n vals) : ∀ p, In v p → B ≤ p.block ∧ p.block < w.heap.size := by
  rintro p ⟨b, o, len, cap, rfl, hb, _⟩
  have := h.lt b (by simp [Value.ownBlock])
  omega
/-- the rows of two lists behind each other, in a slice made behind them -/
theorem join_own {w w' : World} {B M M' T : Nat} {va vb v : Value} {ps qs : List Value} {ass bss : List (List Int)} (ha : OwnVals w B M va ps ass) (hb : OwnVals w M' T vb qs bss) (hBM : B ≤ M) (hMT : M ≤ w.heap.size) (hMM : M ≤ M') (hT : T ≤ w.heap.size) (hw : Below w.heap.size w w')
    (ho : w'.ownsRow w.heap.size 39 1 v (ps ++ qs).length (ps ++ qs)) : OwnRows w' B w'.heap.size v (ass ++ bss) := by
  have hsz := hw.size
  have iv := own_in ho
  have mem : ∀ u ∈ ps ++ qs, (u ∈ ps ∧ ∀ p, In u p → B ≤ p.block ∧ p.block < M) ∨ (u ∈ qs ∧ ∀ p, In u p → M' ≤ p.block ∧ p.block < T) := by
    intro u hu
    rcases List.mem_append.1 hu with h | h
    · exact .inl ⟨h, fun p hp => ⟨ha.ge u h p hp, ha.lt u h p hp⟩⟩
    · exact .inr ⟨h, fun p hp => ⟨hb.ge u h p hp, hb.lt u h p hp⟩⟩
  have lt : ∀ u ∈ ps ++ qs, ∀ p, In u p → p.block < w.heap.size := fun u hu p hp => by
    rcases mem u hu with ⟨_, h⟩ | ⟨_, h⟩ <;> have := h p hp <;> omega
  refine ⟨ps ++ qs, app.sl_of_owns ho, by rw [List.length_append, List.length_append, ha.len, hb.len], ?_, fun p hp => by have := iv p hp; omega, fun p hp => (iv p hp).2, ?_, ?_, ?_, ?_, ?_⟩
  · intro r hr
    obtain ⟨u, h1, h2⟩ := cat.joined ha.len ha.row hb.row r hr
    exact ⟨u, h1, h2.below hw⟩
  · intro u hu p hp
    rcases mem u hu with ⟨_, h⟩ | ⟨_, h⟩ <;> have := h p hp <;> omega
  · intro u hu p hp
    have := lt u hu p hp; omega
  · intro u hu p hp
    refine (hw.frozen (lt u hu p hp)).trans ?_
    rcases mem u hu with ⟨h, _⟩ | ⟨h, _⟩
    · exact ha.free u h p hp
    · exact hb.free u h p hp
  · intro u hu p hp hv
    have := lt u hu p hp; have := iv p hv; omega
  · have at_ : ∀ (r : Nat) (a : Value), (ps ++ qs)[r]? = some a → (r < ps.length ∧ ps[r]? = some a) ∨ (ps.length ≤ r ∧ qs[r - ps.length]? = some a) := by
      intro r a h
      rcases Nat.lt_or_ge r ps.length with g | g
      · rw [List.getElem?_append_left g] at h; exact .inl ⟨g, h⟩
      · rw [List.getElem?_append_right g] at h; exact .inr ⟨g, h⟩
    intro r s a b hne h1 h2 p hp hq
    rcases at_ r a h1 with ⟨g1, k1⟩ | ⟨g1, k1⟩ <;> rcases at_ s b h2 with ⟨g2, k2⟩ | ⟨g2, k2⟩
    · exact ha.each r s a b hne k1 k2 p hp hq
    · have := ha.lt a (List.mem_of_getElem? k1) p hp
      have := hb.ge b (List.mem_of_getElem? k2) p hq
      omega
    · have := hb.ge a (List.mem_of_getElem? k1) p hp
      have := ha.lt b (List.mem_of_getElem? k2) p hq
      omega
    · exact hb.each _ _ a b (by omega) k1 k2 p hp hq


set_option maxHeartbeats 2000000 in
set_option maxRecDepth 100000 in
theorem grow_r (n : Nat) (w : World) (h2 : n ≤ 20) :
    Calls Try.prog 153 #[.slice none 0 0, .int .i64 (n : Int)] w fun e w' => ∃ v, e = .returned v ∧ CatE 39 w w' v [] := by
  rcases Nat.eq_zero_or_pos n with h1 | h1
  · subst h1
    have hN : Hid (CatE 39 w w (.slice none 0 0) []) := Lib.hid ⟨Below.refl _ _, rfl, .inl ⟨rfl, rfl⟩⟩
    go_enter Try.func153, Try.ntmps153
    go_wp2_with fail
    go_ret
    exact ⟨_, rfl, hN.out⟩
  obtain ⟨s0, si, sz0, sz1, sz2⟩ := info_parts infoInts
  have hrz : ∀ ty, (Builtin.append_ #[22, 3] ty #[.slice none 0 0, .int .i64 (n : Int)]).run Try.prog w =
      .ok (.slice (some ⟨w.heap.size, 0, none⟩) n (grownCap w n 0 39)) (w.drew.alloc (.cells (([] : List Value).toArray ++ Builtin.zeroCells (Value.slice none 0 0).cells n ++ Builtin.zeroCells (Value.slice none 0 0).cells (grownCap w n 0 39 - n)) 39)) := fun ty => by
    have h := Lib.run_append_grow_zeros (P := Try.prog) w 22 3 ty 39 s0 (Value.slice none 0 0) .i64 .i64 Try.underlying22 Try.underlying3 si sz0 none 0 0 [] (run_firstCells_none w.drew s0.size 0 0 0) n h1 (by omega) (by omega) (by omega) (by rw [sz2]; omega)
      (growslice_fits (by omega) (by rw [sz2]; omega))
    simpa using h
  obtain ⟨G, hG⟩ : ∃ G, G = grownCap w n 0 39 := ⟨_, rfl⟩
  have hGn : n ≤ G := by rw [hG]; exact grownCap_ge w _ _ _
  have hGm : G ≤ maxLen := by rw [hG]; exact grownCap_le_maxLen w n 0 39 (by unfold maxLen; omega)
  rw [← hG] at hrz
  have hG63 : G ≤ 9223372036854775807 := by unfold maxLen at hGm; omega
  have hw : wrap64 (n : Int) = n := by unfold wrap64; omega
  have hw' : IntKind.i64.wrap (n : Int) = n := IntWalk.i64_in _ (by omega)
  have hn0 : ¬ ((n : Int) < 0) := by omega
  have hnp : (n : Int) > 0 := by omega
  have HO : Hid ((w.drew.alloc (.cells (([] : List Value).toArray ++ Builtin.zeroCells (Value.slice none 0 0).cells n ++ Builtin.zeroCells (Value.slice none 0 0).cells (G - n)) 39)).ownsRow w.heap.size 39 1 (.slice (some ⟨w.heap.size, 0, none⟩) 0 G) 0 []) := Lib.hid (by
    have := World.ownsRow_made (base := w.heap.size) (e := 39) (size := 1) w.drew (([] : List Value).toArray ++ Builtin.zeroCells (Value.slice none 0 0).cells n ++ Builtin.zeroCells (Value.slice none 0 0).cells (G - n)) G (Nat.le_refl _) hGm (by simp [size_zeroCells, Value.cells]; omega)
    simpa using this)
  have HB := Lib.hid (below_al (below_dr (Below.refl w.heap.size w)) (.cells (([] : List Value).toArray ++ Builtin.zeroCells (Value.slice none 0 0).cells n ++ Builtin.zeroCells (Value.slice none 0 0).cells (G - n)) 39))
  have HN := Lib.hid hGn
  clear hG hGm
  generalize (([] : List Value).toArray ++ Builtin.zeroCells (Value.slice none 0 0).cells n ++ Builtin.zeroCells (Value.slice none 0 0).cells (G - n)) = Z at hrz HO HB
  go_enter Try.func153, Try.ntmps153
  go_wp2_with (at_builtin; refine Lib.wpList_append_run _ rfl _ _ _ _ rfl _ _ rfl rfl _ _ (hrz _) ?_)
  all_goals
    go_ret
    exact ⟨_, rfl, HB.out, HO.out⟩



set_option maxHeartbeats 2000000 in
set_option maxRecDepth 100000 in
theorem grow_i (n : Nat) (w : World) (h2 : n ≤ 20) :
    Calls Try.prog 155 #[.slice none 0 0, .int .i64 (n : Int)] w fun e w' => ∃ v, e = .returned v ∧ CatE 3 w w' v [] := by
  rcases Nat.eq_zero_or_pos n with h1 | h1
  · subst h1
    have hN : Hid (CatE 3 w w (.slice none 0 0) []) := Lib.hid ⟨Below.refl _ _, rfl, .inl ⟨rfl, rfl⟩⟩
    go_enter Try.func155, Try.ntmps155
    go_wp2_with fail
    go_ret
    exact ⟨_, rfl, hN.out⟩
  obtain ⟨s0, si, sz0, sz1, sz2⟩ := info_parts infoInt
  have hrz : ∀ ty, (Builtin.append_ #[39, 3] ty #[.slice none 0 0, .int .i64 (n : Int)]).run Try.prog w =
      .ok (.slice (some ⟨w.heap.size, 0, none⟩) n (grownCap w n 0 3)) (w.drew.alloc (.cells (([] : List Value).toArray ++ Builtin.zeroCells (Value.int .i64 0).cells n ++ Builtin.zeroCells (Value.int .i64 0).cells (grownCap w n 0 3 - n)) 3)) := fun ty => by
    have h := Lib.run_append_grow_zeros (P := Try.prog) w 39 3 ty 3 s0 (Value.int .i64 0) .i64 .i64 Try.underlying39 Try.underlying3 si sz0 none 0 0 [] (run_firstCells_none w.drew s0.size 0 0 0) n h1 (by omega) (by omega) (by omega) (by rw [sz2]; omega)
      (growslice_fits (by omega) (by rw [sz2]; omega))
    simpa using h
  obtain ⟨G, hG⟩ : ∃ G, G = grownCap w n 0 3 := ⟨_, rfl⟩
  have hGn : n ≤ G := by rw [hG]; exact grownCap_ge w _ _ _
  have hGm : G ≤ maxLen := by rw [hG]; exact grownCap_le_maxLen w n 0 3 (by unfold maxLen; omega)
  rw [← hG] at hrz
  have hG63 : G ≤ 9223372036854775807 := by unfold maxLen at hGm; omega
  have hw : wrap64 (n : Int) = n := by unfold wrap64; omega
  have hw' : IntKind.i64.wrap (n : Int) = n := IntWalk.i64_in _ (by omega)
  have hn0 : ¬ ((n : Int) < 0) := by omega
  have hnp : (n : Int) > 0 := by omega
  have HO : Hid ((w.drew.alloc (.cells (([] : List Value).toArray ++ Builtin.zeroCells (Value.int .i64 0).cells n ++ Builtin.zeroCells (Value.int .i64 0).cells (G - n)) 3)).ownsRow w.heap.size 3 1 (.slice (some ⟨w.heap.size, 0, none⟩) 0 G) 0 []) := Lib.hid (by
    have := World.ownsRow_made (base := w.heap.size) (e := 3) (size := 1) w.drew (([] : List Value).toArray ++ Builtin.zeroCells (Value.int .i64 0).cells n ++ Builtin.zeroCells (Value.int .i64 0).cells (G - n)) G (Nat.le_refl _) hGm (by simp [size_zeroCells, Value.cells]; omega)
    simpa using this)
  have HB := Lib.hid (below_al (below_dr (Below.refl w.heap.size w)) (.cells (([] : List Value).toArray ++ Builtin.zeroCells (Value.int .i64 0).cells n ++ Builtin.zeroCells (Value.int .i64 0).cells (G - n)) 3))
  have HN := Lib.hid hGn
  clear hG hGm
  generalize (([] : List Value).toArray ++ Builtin.zeroCells (Value.int .i64 0).cells n ++ Builtin.zeroCells (Value.int .i64 0).cells (G - n)) = Z at hrz HO HB
  go_enter Try.func155, Try.ntmps155
  go_wp2_with (at_builtin; refine Lib.wpList_append_run _ rfl _ _ _ _ rfl _ _ rfl rfl _ _ (hrz _) ?_)
  all_goals
    go_ret
    exact ⟨_, rfl, HB.out, HO.out⟩



set_option maxHeartbeats 4000000 in
set_option maxRecDepth 100000 in
theorem concat_r (g c : Nat) (va vb : Value) (ps qs : List Value) (w : World) (h0 : w.cell? ⟨g, 0, none⟩ = some va) (h1 : w.cell? ⟨g, 1, none⟩ = some vb) (ha : Sl w va ps) (hb : Sl w vb qs)
    (la : ps.length ≤ 10) (lb : qs.length ≤ 10) (oa : ∀ u ∈ ps, u.oneCell' = true) (ob : ∀ u ∈ qs, u.oneCell' = true) :
    Calls Try.prog 83 #[.slice (some ⟨g, 0, none⟩) 2 c] w fun e w' => ∃ u, e = .returned u ∧ CatE 39 w w' u (ps ++ qs) := by
  obtain ⟨s0, si, sz0, sz1, sz2⟩ := info_parts infoInts
  have HAS := Lib.hid (fun (W : World) (hW : Below w.heap.size w W) => ha.below hW)
  have HBS := Lib.hid (fun (W : World) (hW : Below w.heap.size w W) => hb.below hW)
  have HAO := Lib.hid oa
  have HBO := Lib.hid ob
  have HAL : Hid (ps.length ≤ 10) := Lib.hid la
  have HBL : Hid (ps.length ≤ 10 ∧ qs.length ≤ 10) := Lib.hid ⟨la, lb⟩
  obtain ⟨ra, rc, rfl⟩ : ∃ A c, va = .slice A ps.length c := by obtain ⟨A, c, hv, _⟩ := ha; exact ⟨A, c, hv⟩
  obtain ⟨pa, pc, rfl⟩ : ∃ A c, vb = .slice A qs.length c := by obtain ⟨A, c, hv, _⟩ := hb; exact ⟨A, c, hv⟩
  clear ha hb oa ob
  obtain ⟨X, hX⟩ : ∃ X, X = ps.length := ⟨_, rfl⟩
  obtain ⟨Y, hY⟩ : ∃ Y, Y = qs.length := ⟨_, rfl⟩
  rw [← hX] at h0 la
  rw [← hY] at h1 lb
  rw [← hX] at HAS HAL HBL
  rw [← hY] at HBS HBL
  have HX := Lib.hid hX
  have HY := Lib.hid hY
  clear hX hY
  have k1 : IntKind.i64.wrap ((X : Int) + (Y : Int)) = ((X + Y : Nat) : Int) := by rw [IntWalk.i64_in _ (by omega)]; omega
  have k2 : IntKind.i64.wrap (X : Int) = X := IntWalk.i64_in _ (by omega)
  have n1 : decide (((X + Y : Nat) : Int) < 0) = false := by simp; omega
  have n2 : decide ((X : Int) < 0) = false := by simp
  have hGR := Lib.hid (fun (W : World) => grow_r (X + Y) W (by omega))
  go_enter Try.func83, Try.ntmps83
  go_wp2_with fail
  go_loopw [3, 5, 11] (fun s z i wr => ∃ k : Nat, k ≤ 2 ∧ i = .int .i64 k ∧ s = .int .i64 ((if k = 0 then 0 else if k = 1 then X else X + Y : Nat) : Int) ∧ (∃ z', z = z') ∧ w = wr) (fun _ _ i _ => 2 - (intOf i).toNat)
  case atStart => exact ⟨0, by omega, rfl, rfl, ⟨_, rfl⟩, rfl⟩
  case round =>
    obtain ⟨k, hk, rfl, rfl, ⟨z, rfl⟩, rfl⟩ := hrel
    obtain rfl | rfl | rfl : k = 0 ∨ k = 1 ∨ k = 2 := by omega
    · go_wp2_with fail
      go_roundw
      case rel => exact ⟨1, by omega, by go_num, by simp, ⟨_, rfl⟩, by first | rfl | trivial⟩
      case measure => simp [intOf]
    · go_wp2_with fail
      go_roundw
      case rel => exact ⟨2, by omega, by go_num, by simp, ⟨_, rfl⟩, by first | rfl | trivial⟩
      case measure => simp [intOf]
    · go_wp2_with fail
      refine (hGR.out _).mono ?_
      rintro e w1 ⟨G, rfl, hG⟩
      have C0 := Lib.hid hG
      have h0' := below_cell hG.below _ _ h0
      have h1' := below_cell hG.below _ _ h1
      clear hG hGR k1 k2 n1 n2
      go_wp2_with fail
      go_loopw [6, 8, 27] (fun v z i wr => ∃ k : Nat, k ≤ 2 ∧ i = .int .i64 k ∧ (∃ z', z = z') ∧ Hid (CatE 39 w wr v (if k = 0 then [] else if k = 1 then ps else ps ++ qs))) (fun _ _ i _ => 2 - (intOf i).toNat)
      case atStart => exact ⟨0, by omega, rfl, ⟨_, rfl⟩, C0⟩
      case round =>
        clear C0
        obtain ⟨k, hk, rfl, ⟨z, rfl⟩, hC⟩ := hrel
        obtain ⟨wi, rfl⟩ : ∃ wi : World, wi = wr := ⟨_, rfl⟩
        have g0 := below_cell hC.out.below _ _ h0
        have g1 := below_cell hC.out.below _ _ h1
        obtain rfl | rfl | rfl : k = 0 ∨ k = 1 ∨ k = 2 := by omega
        · have C1 := Lib.hid (show CatE 39 w wi _ [] from hC.out)
          have hsl := HAS.out _ C1.out.below
          clear hC
          obtain ⟨v1, w2, hrun, ho2, hg2⟩ := run_any (P := Try.prog) wi w.heap.size 22 22 39 s0 (.slice none 0 0) 24 Try.underlying22 si sz0 sz1 sz2 rfl _ _ _ C1.out.owns _ _ hsl HAO.out (by have := HBL.out; have := HX.out; have := HY.out; unfold maxLen; (try simp only [List.length_nil]); omega) (by have := HBL.out; have := HX.out; have := HY.out; (try simp only [List.length_nil]); omega) C1.out.below.size
          have C2 : Hid (CatE 39 w w2 v1 ps) := Lib.hid (C1.out.grow rfl ho2 hg2)
          obtain ⟨xa, xl, xc, rfl⟩ := make.shape ho2
          clear hsl ho2 hg2 C1
          go_wp2_with (at_builtin; refine Lib.wpList_append_run _ rfl _ _ _ _ rfl _ _ rfl rfl _ _ hrun ?_)
          clear hrun
          go_roundw
          case rel => exact ⟨1, by omega, by go_num, ⟨_, rfl⟩, C2⟩
          case measure => simp [intOf]
        · have C1 := Lib.hid (show CatE 39 w wi _ ps from hC.out)
          have hsl := HBS.out _ C1.out.below
          clear hC
          obtain ⟨v1, w2, hrun, ho2, hg2⟩ := run_any (P := Try.prog) wi w.heap.size 22 22 39 s0 (.slice none 0 0) 24 Try.underlying22 si sz0 sz1 sz2 rfl _ _ _ C1.out.owns _ _ hsl HBO.out (by have := HBL.out; have := HX.out; have := HY.out; unfold maxLen; (try simp only [List.length_nil]); omega) (by have := HBL.out; have := HX.out; have := HY.out; (try simp only [List.length_nil]); omega) C1.out.below.size
          have C2 : Hid (CatE 39 w w2 v1 (ps ++ qs)) := Lib.hid (C1.out.grow rfl ho2 hg2)
          obtain ⟨xa, xl, xc, rfl⟩ := make.shape ho2
          clear hsl ho2 hg2 C1
          go_wp2_with (at_builtin; refine Lib.wpList_append_run _ rfl _ _ _ _ rfl _ _ rfl rfl _ _ hrun ?_)
          clear hrun
          go_roundw
          case rel => exact ⟨2, by omega, by go_num, ⟨_, rfl⟩, C2⟩
          case measure => simp [intOf]
        · have C1 := Lib.hid (show CatE 39 w wi _ (ps ++ qs) from hC.out)
          obtain ⟨xa, xl, xc, rfl⟩ := make.shape C1.out.owns
          clear hC
          go_wp2_with fail
          go_ret
          exact ⟨_, rfl, C1.out⟩



set_option maxHeartbeats 4000000 in
set_option maxRecDepth 100000 in
theorem concat_i (g c : Nat) (va vb : Value) (ps qs : List Value) (w : World) (h0 : w.cell? ⟨g, 0, none⟩ = some va) (h1 : w.cell? ⟨g, 1, none⟩ = some vb) (ha : Sl w va ps) (hb : Sl w vb qs)
    (la : ps.length ≤ 10) (lb : qs.length ≤ 10) (oa : ∀ u ∈ ps, u.oneCell' = true) (ob : ∀ u ∈ qs, u.oneCell' = true) :
    Calls Try.prog 85 #[.slice (some ⟨g, 0, none⟩) 2 c] w fun e w' => ∃ u, e = .returned u ∧ CatE 3 w w' u (ps ++ qs) := by
  obtain ⟨s0, si, sz0, sz1, sz2⟩ := info_parts infoInt
  have HAS := Lib.hid (fun (W : World) (hW : Below w.heap.size w W) => ha.below hW)
  have HBS := Lib.hid (fun (W : World) (hW : Below w.heap.size w W) => hb.below hW)
  have HAO := Lib.hid oa
  have HBO := Lib.hid ob
  have HAL : Hid (ps.length ≤ 10) := Lib.hid la
  have HBL : Hid (ps.length ≤ 10 ∧ qs.length ≤ 10) := Lib.hid ⟨la, lb⟩
  obtain ⟨ra, rc, rfl⟩ : ∃ A c, va = .slice A ps.length c := by obtain ⟨A, c, hv, _⟩ := ha; exact ⟨A, c, hv⟩
  obtain ⟨pa, pc, rfl⟩ : ∃ A c, vb = .slice A qs.length c := by obtain ⟨A, c, hv, _⟩ := hb; exact ⟨A, c, hv⟩
  clear ha hb oa ob
  obtain ⟨X, hX⟩ : ∃ X, X = ps.length := ⟨_, rfl⟩
  obtain ⟨Y, hY⟩ : ∃ Y, Y = qs.length := ⟨_, rfl⟩
  rw [← hX] at h0 la
  rw [← hY] at h1 lb
  rw [← hX] at HAS HAL HBL
  rw [← hY] at HBS HBL
  have HX := Lib.hid hX
  have HY := Lib.hid hY
  clear hX hY
  have k1 : IntKind.i64.wrap ((X : Int) + (Y : Int)) = ((X + Y : Nat) : Int) := by rw [IntWalk.i64_in _ (by omega)]; omega
  have k2 : IntKind.i64.wrap (X : Int) = X := IntWalk.i64_in _ (by omega)
  have n1 : decide (((X + Y : Nat) : Int) < 0) = false := by simp; omega
  have n2 : decide ((X : Int) < 0) = false := by simp
  have hGR := Lib.hid (fun (W : World) => grow_i (X + Y) W (by omega))
  go_enter Try.func85, Try.ntmps85
  go_wp2_with fail
  go_loopw [3, 5, 11] (fun s z i wr => ∃ k : Nat, k ≤ 2 ∧ i = .int .i64 k ∧ s = .int .i64 ((if k = 0 then 0 else if k = 1 then X else X + Y : Nat) : Int) ∧ (∃ z', z = z') ∧ w = wr) (fun _ _ i _ => 2 - (intOf i).toNat)
  case atStart => exact ⟨0, by omega, rfl, rfl, ⟨_, rfl⟩, rfl⟩
  case round =>
    obtain ⟨k, hk, rfl, rfl, ⟨z, rfl⟩, rfl⟩ := hrel
    obtain rfl | rfl | rfl : k = 0 ∨ k = 1 ∨ k = 2 := by omega
    · go_wp2_with fail
      go_roundw
      case rel => exact ⟨1, by omega, by go_num, by simp, ⟨_, rfl⟩, by first | rfl | trivial⟩
      case measure => simp [intOf]
    · go_wp2_with fail
      go_roundw
      case rel => exact ⟨2, by omega, by go_num, by simp, ⟨_, rfl⟩, by first | rfl | trivial⟩
      case measure => simp [intOf]
    · go_wp2_with fail
      refine (hGR.out _).mono ?_
      rintro e w1 ⟨G, rfl, hG⟩
      have C0 := Lib.hid hG
      have h0' := below_cell hG.below _ _ h0
      have h1' := below_cell hG.below _ _ h1
      clear hG hGR k1 k2 n1 n2
      go_wp2_with fail
      go_loopw [6, 8, 27] (fun v z i wr => ∃ k : Nat, k ≤ 2 ∧ i = .int .i64 k ∧ (∃ z', z = z') ∧ Hid (CatE 3 w wr v (if k = 0 then [] else if k = 1 then ps else ps ++ qs))) (fun _ _ i _ => 2 - (intOf i).toNat)
      case atStart => exact ⟨0, by omega, rfl, ⟨_, rfl⟩, C0⟩
      case round =>
        clear C0
        obtain ⟨k, hk, rfl, ⟨z, rfl⟩, hC⟩ := hrel
        obtain ⟨wi, rfl⟩ : ∃ wi : World, wi = wr := ⟨_, rfl⟩
        have g0 := below_cell hC.out.below _ _ h0
        have g1 := below_cell hC.out.below _ _ h1
        obtain rfl | rfl | rfl : k = 0 ∨ k = 1 ∨ k = 2 := by omega
        · have C1 := Lib.hid (show CatE 3 w wi _ [] from hC.out)
          have hsl := HAS.out _ C1.out.below
          clear hC
          obtain ⟨v1, w2, hrun, ho2, hg2⟩ := run_any (P := Try.prog) wi w.heap.size 39 39 3 s0 (.int .i64 0) 8 Try.underlying39 si sz0 sz1 sz2 rfl _ _ _ C1.out.owns _ _ hsl HAO.out (by have := HBL.out; have := HX.out; have := HY.out; unfold maxLen; (try simp only [List.length_nil]); omega) (by have := HBL.out; have := HX.out; have := HY.out; (try simp only [List.length_nil]); omega) C1.out.below.size
          have C2 : Hid (CatE 3 w w2 v1 ps) := Lib.hid (C1.out.grow rfl ho2 hg2)
          obtain ⟨xa, xl, xc, rfl⟩ := make.shape ho2
          clear hsl ho2 hg2 C1
          go_wp2_with (at_builtin; refine Lib.wpList_append_run _ rfl _ _ _ _ rfl _ _ rfl rfl _ _ hrun ?_)
          clear hrun
          go_roundw
          case rel => exact ⟨1, by omega, by go_num, ⟨_, rfl⟩, C2⟩
          case measure => simp [intOf]
        · have C1 := Lib.hid (show CatE 3 w wi _ ps from hC.out)
          have hsl := HBS.out _ C1.out.below
          clear hC
          obtain ⟨v1, w2, hrun, ho2, hg2⟩ := run_any (P := Try.prog) wi w.heap.size 39 39 3 s0 (.int .i64 0) 8 Try.underlying39 si sz0 sz1 sz2 rfl _ _ _ C1.out.owns _ _ hsl HBO.out (by have := HBL.out; have := HX.out; have := HY.out; unfold maxLen; (try simp only [List.length_nil]); omega) (by have := HBL.out; have := HX.out; have := HY.out; (try simp only [List.length_nil]); omega) C1.out.below.size
          have C2 : Hid (CatE 3 w w2 v1 (ps ++ qs)) := Lib.hid (C1.out.grow rfl ho2 hg2)
          obtain ⟨xa, xl, xc, rfl⟩ := make.shape ho2
          clear hsl ho2 hg2 C1
          go_wp2_with (at_builtin; refine Lib.wpList_append_run _ rfl _ _ _ _ rfl _ _ rfl rfl _ _ hrun ?_)
          clear hrun
          go_roundw
          case rel => exact ⟨2, by omega, by go_num, ⟨_, rfl⟩, C2⟩
          case measure => simp [intOf]
        · have C1 := Lib.hid (show CatE 3 w wi _ (ps ++ qs) from hC.out)
          obtain ⟨xa, xl, xc, rfl⟩ := make.shape C1.out.owns
          clear hC
          go_wp2_with fail
          go_ret
          exact ⟨_, rfl, C1.out⟩



set_option maxHeartbeats 2000000 in
theorem valid (x : Int) (u : Value) (xss : List (List Int)) (v : Value) (ws : List Int) (w : World) (h : scene.GV w v ws u xss) (hm : rws.total xss ≤ 1048576) :
    Calls Try.prog 82 #[.agg #[.int .i64 x, u, v]] w fun e w' => e = .returned (.tuple #[.agg #[.int .i64 (if sceneB x xss ws = true then x else 0), (if sceneB x xss ws = true then u else .slice none 0 0), (if sceneB x xss ws = true then v else .slice none 0 0)], .bool (sceneB x xss ws)]) ∧ Below w.heap.size w w' := by
  obtain ⟨va, vn, vc, ua, un, uc, rfl, rfl⟩ := h.shape
  have H := Lib.hid h
  clear h
  obtain ⟨w0, hw0⟩ : ∃ w0, (w.alloc (.cells #[.int .i64 x, .slice ua un uc, .slice va vn vc] 43)).alloc (.cells #[.int .i64 0, .slice none 0 0, .slice none 0 0] 43) = w0 := ⟨_, rfl⟩
  have K0 : Hid (Blk w0 w.heap.size 43 #[.int .i64 x, .slice ua un uc, .slice va vn vc]) := Lib.hid (by rw [← hw0]; exact (Blk.new w _ _).alloc _)
  have R0 : Hid (Blk w0 (w.heap.size + 1) 43 #[.int .i64 0, .slice none 0 0, .slice none 0 0]) := Lib.hid (by
    have := Blk.new (w.alloc (.cells #[.int .i64 x, .slice ua un uc, .slice va vn vc] 43)) 43 #[.int .i64 0, .slice none 0 0, .slice none 0 0]
    rw [← hw0]
    simpa using this)
  have B0 : Hid (Below w.heap.size w w0) := Lib.hid (by rw [← hw0]; exact below_al (below_al (Below.refl _ _) _) _)
  have HI := Lib.hid (scv.impl_scene x _ xss _ ws w0 (H.out.below B0.out) hm)
  generalize sceneB x xss ws = B at HI ⊢
  obtain ⟨c0, c1, c2, _⟩ := scene.three_cells K0.out
  go_enter Try.func82, Try.ntmps82
  go_wp2_with fail
  refine HI.out.mono ?_
  rintro e w1 ⟨rfl, hb⟩
  have B1 := Lib.hid (below_tr B0.out hb)
  have R1 := Lib.hid (R0.out.below hb)
  obtain ⟨d0, d1, d2, _⟩ := scene.three_cells (K0.out.below hb)
  obtain ⟨r0, r1, r2, _⟩ := scene.three_cells R1.out
  have rf : ∀ k, w1.frozen? ⟨w.heap.size + 1, k, none⟩ = false := fun k => Joins.unfrozen_of_block R1.out k
  clear hb c0 c1 c2
  cases B with
  | true =>
    go_wp2_with fail
    refine bodyPost_ret (v := .tuple #[.agg #[.int .i64 x, .slice ua un uc, .slice va vn vc], .bool true]) (by simp [results, Try.results82, go_sem, r0, r1, r2]) rfl ⟨by simp, ?_⟩
    repeat (first | (with_reducible exact B1.out) | (with_reducible refine Below.setCell ?_ (by first | (simp; done) | (simp; omega) | omega) _))
  | false =>
    go_wp2_with fail
    refine bodyPost_ret (v := .tuple #[.agg #[.int .i64 0, .slice none 0 0, .slice none 0 0], .bool false]) (by simp [results, Try.results82, go_sem, r0, r1, r2]) rfl ⟨by simp, ?_⟩
    repeat (first | (with_reducible exact B1.out) | (with_reducible refine Below.setCell ?_ (by first | (simp; done) | (simp; omega) | omega) _))


end Go.Proofs.Ytiigfhigmdjooaa.jsa
