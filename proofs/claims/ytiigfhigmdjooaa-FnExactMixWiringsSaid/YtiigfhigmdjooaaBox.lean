/- Contracts of the laws' own helpers over Boxes: toBox, szBox, eqBox, markBox, heldBox. -/
import Derived.Test.YtiigfhigmdjooaaRws
namespace Go.Proofs.Ytiigfhigmdjooaa.box
open Go.RowKit Go.Deep Go.Proofs.Ytiigfhigmdjooaa.base
open Go.Proofs.Ytiigfhigmdjooaa.ints (infoInts ret_int ret_no ret_yes)
open Go.Proofs.Ytiigfhigmdjooaa.rws (total before markss sz)

theorem bcell {W w1 : World} (hb : Below W.heap.size W w1) : (∀ b o, b < W.heap.size → w1.cell? ⟨b, o, none⟩ = W.cell? ⟨b, o, none⟩) ∧ (∀ b o, b < W.heap.size → w1.frozen? ⟨b, o, none⟩ = W.frozen? ⟨b, o, none⟩) :=
  ⟨fun b o h => hb.cell (p := ⟨b, o, none⟩) h, fun b o h => hb.frozen (p := ⟨b, o, none⟩) h⟩

/-- the value of a Box -/
def bx (x y wh : Int) (u : Value) : Value := .agg #[.int .i64 x, .int .i64 y, .int .i64 wh, u]


set_option maxHeartbeats 1000000 in
theorem to_any (x y wh : Int) (v : Value) (xss : List (List Int)) (w : World) (h : IRows w v xss) (hn : total xss ≤ 1048576) :
    Calls Try.prog 18 #[.agg #[.int .i64 x, .int .i64 y, .int .i64 wh, v]] w fun e w' => ∃ u, e = .returned (.agg #[.int .i64 x, .int .i64 y, .int .i64 wh, u]) ∧ OwnRows w' w.heap.size w'.heap.size u xss ∧ Below w.heap.size w w' := by
  obtain ⟨va, vn, vc, rfl⟩ := h.shape
  have H := Lib.hid h
  clear h
  go_enter Try.func18, Try.ntmps18
  go_wp2_with fail
  refine (rws.to_any _ xss _ (H.out.below ?_) hn).mono ?_
  · repeat (first | exact Below.refl _ _ | refine below_al ?_ _)
  rintro e w1 ⟨u, rfl, hu, hb⟩
  obtain ⟨ua, un, uc, rfl⟩ := hu.rows.shape
  obtain ⟨hc, hf⟩ := bcell hb
  have hz := hb.size
  simp at hz
  have HU := Lib.hid hu
  have HB := Lib.hid hb
  clear hu hb
  go_wp2_with fail
  refine bodyPost_ret (v := .agg #[.int .i64 x, .int .i64 y, .int .i64 wh, .slice ua un uc]) (by simp [results, Try.results18, go_sem, hc]) rfl ⟨_, rfl, ?_, ?_⟩
  · refine (HU.out.wrote (S := fun p => p.block < w.heap.size + 1 + 1 + 1) ?_ (fun p hp => .inl (by simpa using hp))).mono (by simp; omega) (by simp [World.setCell])
    repeat (first | exact Wrote.refl _ _ | refine Wrote.setCell ?_ (by simp) _)
  · repeat (refine Below.setCell ?_ (by simp <;> omega) _)
    exact below_tr (below_al (below_al (below_al (Below.refl _ _) _) _) _) HB.out



set_option maxHeartbeats 400000 in
theorem sz_any (x y wh : Int) (v : Value) (xss : List (List Int)) (left : Int) (w : World) (h : IRows w v xss) (h0 : 0 ≤ left) (h1 : left ≤ 1048576) :
    Calls Try.prog 15 #[.agg #[.int .i64 x, .int .i64 y, .int .i64 wh, v], .int .i64 left] w fun e w' => e = .returned (.int .i64 (sz xss left)) ∧ Below w.heap.size w w' := by
  obtain ⟨va, vn, vc, rfl⟩ := h.shape
  have hc : ∀ o, Calls Try.prog 38 #[.slice va vn vc, .int .i64 left] (w.alloc o) fun e w' => e = .returned (.int .i64 (sz xss left)) ∧ w.alloc o = w' := fun o =>
    rws.sz_any _ xss left _ (h.below (below_al (Below.refl _ _) o)) h0 h1
  have HC := Lib.hid hc
  clear h hc
  by_cases hlt : sz xss left < 0
  · have HS : Hid (sz xss left = -1) := by unfold sz at hlt ⊢; unfold Hid; split at hlt <;> rename_i g <;> simp [g] <;> omega
    go_enter Try.func15, Try.ntmps15
    go_wp2_with fail
    refine (HC.out _).mono ?_
    rintro e w' ⟨rfl, rfl⟩
    go_wp2_with fail
    go_ret
    exact ⟨ret_int HS.out.symm, below_al (Below.refl _ _) _⟩
  · go_enter Try.func15, Try.ntmps15
    go_wp2_with fail
    refine (HC.out _).mono ?_
    rintro e w' ⟨rfl, rfl⟩
    go_wp2_with fail
    go_ret
    exact ⟨rfl, below_al (Below.refl _ _) _⟩



set_option maxHeartbeats 400000 in
theorem mark_any (x y wh : Int) (v : Value) (xss : List (List Int)) (k0 : Int) (B T : Nat) (w : World) (h : OwnRows w B T v xss) (hn : total xss ≤ 1048576) (h0 : 0 ≤ k0) (h1 : k0 ≤ 8388608) :
    Calls Try.prog 23 #[.agg #[.int .i64 x, .int .i64 y, .int .i64 wh, v], .int .i64 k0] w fun e w' => e = .returned (.int .i64 (k0 + before xss xss.length)) ∧ IRows w' v (markss k0 xss) ∧
      ∃ S w1, Below w.heap.size w w1 ∧ Wrote S w1 w' ∧ Inside S B T := by
  obtain ⟨va, vn, vc, rfl⟩ := h.rows.shape
  have H := Lib.hid h
  clear h
  go_enter Try.func23, Try.ntmps23
  go_wp2_with fail
  refine (rws.mark_any _ xss k0 B T _ (H.out.keep (below_al (Below.refl _ _) _)) hn h0 h1).mono ?_
  rintro e w' ⟨rfl, hi, S, hw, hs⟩
  have HI := Lib.hid hi
  have HW := Lib.hid hw
  have HS := Lib.hid hs
  clear hi hw hs
  go_wp2_with fail
  go_ret
  exact ⟨rfl, HI.out, S, _, below_al (Below.refl _ _) _, HW.out, HS.out⟩



set_option maxHeartbeats 400000 in
theorem held_any (x y wh : Int) (v : Value) (xss : List (List Int)) (k0 : Int) (w : World) (h : IRows w v (markss k0 xss)) (hn : total xss ≤ 1048576) (h0 : 0 ≤ k0) (h1 : k0 ≤ 8388608) :
    Calls Try.prog 25 #[.agg #[.int .i64 x, .int .i64 y, .int .i64 wh, v], .int .i64 k0] w fun e w' => e = .returned (.int .i64 (k0 + before xss xss.length)) ∧ Below w.heap.size w w' := by
  obtain ⟨va, vn, vc, rfl⟩ := h.shape
  have H := Lib.hid h
  clear h
  have hg : ¬ k0 + (before xss xss.length : Int) < 0 := by omega
  go_enter Try.func25, Try.ntmps25
  go_wp2_with fail
  refine (rws.held_any _ xss k0 _ (H.out.below (below_al (Below.refl _ _) _)) hn h0 h1).mono ?_
  rintro e w' ⟨rfl, rfl⟩
  go_wp2_with fail
  go_ret
  exact ⟨rfl, below_al (Below.refl _ _) _⟩



set_option maxHeartbeats 400000 in
theorem eq_any (x y wh x' y' wh' : Int) (v u : Value) (xss yss : List (List Int)) (w : World) (h : IRows w v xss) (h' : IRows w u yss) (hn : total xss ≤ 1048576) :
    Calls Try.prog 21 #[.agg #[.int .i64 x, .int .i64 y, .int .i64 wh, v], .agg #[.int .i64 x', .int .i64 y', .int .i64 wh', u]] w fun e w' => e = .returned (.bool (decide (x = x' ∧ y = y' ∧ wh = wh' ∧ xss = yss))) ∧ Below w.heap.size w w' := by
  obtain ⟨va, vn, vc, rfl⟩ := h.shape
  obtain ⟨ua, un, uc, rfl⟩ := h'.shape
  have H := Lib.hid h
  have H' := Lib.hid h'
  clear h h'
  have hb : ∀ o o', Below w.heap.size w ((w.alloc o).alloc o') := fun o o' => below_al (below_al (Below.refl _ _) o) o'
  have HB := Lib.hid hb
  clear hb
  by_cases e1 : x = x'
  · by_cases e2 : y = y'
    · by_cases e3 : wh = wh'
      · subst e1; subst e2; subst e3
        by_cases e4 : xss = yss
        · have hq : ∀ W : World, (∀ a u, w.cell? a = some u → W.cell? a = some u) → Calls Try.prog 42 #[.slice va vn vc, .slice ua un uc] W fun e w' => e = .returned (.bool true) ∧ ∃ q, w' = W.drewN q := fun W hW => by
            have := rws.eq_any _ _ xss yss W (H.out.keep hW) (H'.out.keep hW) hn
            rw [decide_eq_true e4] at this
            exact this
          have HQ := Lib.hid hq
          have H4 := Lib.hid e4
          clear hq e4
          go_enter Try.func21, Try.ntmps21
          go_wp2_with fail
          refine (HQ.out _ (below_cell (HB.out _ _))).mono ?_
          rintro e w' ⟨rfl, q, rfl⟩
          go_wp2_with fail
          go_ret
          exact ⟨ret_yes (by simpa using H4.out), below_drewN (HB.out _ _) q⟩
        · have hq : ∀ W : World, (∀ a u, w.cell? a = some u → W.cell? a = some u) → Calls Try.prog 42 #[.slice va vn vc, .slice ua un uc] W fun e w' => e = .returned (.bool false) ∧ ∃ q, w' = W.drewN q := fun W hW => by
            have := rws.eq_any _ _ xss yss W (H.out.keep hW) (H'.out.keep hW) hn
            rw [decide_eq_false e4] at this
            exact this
          have HQ := Lib.hid hq
          have H4 := Lib.hid e4
          clear hq e4
          go_enter Try.func21, Try.ntmps21
          go_wp2_with fail
          refine (HQ.out _ (below_cell (HB.out _ _))).mono ?_
          rintro e w' ⟨rfl, q, rfl⟩
          go_wp2_with fail
          go_ret
          exact ⟨ret_no (fun e => H4.out e.2.2.2), below_drewN (HB.out _ _) q⟩
      · have t3 : (wh != wh') = true := by simp [e3]
        have E := Lib.hid e3
        clear e3
        subst e1; subst e2
        go_enter Try.func21, Try.ntmps21
        go_wp2_with fail
        go_ret
        exact ⟨ret_no (fun e => E.out e.2.2.1), HB.out _ _⟩
    · have t3 : (y != y') = true := by simp [e2]
      have E := Lib.hid e2
      clear e2
      subst e1
      go_enter Try.func21, Try.ntmps21
      go_wp2_with fail
      go_ret
      exact ⟨ret_no (fun e => E.out e.2.1), HB.out _ _⟩
  · have t3 : (x != x') = true := by simp [e1]
    have E := Lib.hid e1
    clear e1
    go_enter Try.func21, Try.ntmps21
    go_wp2_with fail
    go_ret
    exact ⟨ret_no (fun e => E.out e.1), HB.out _ _⟩



theorem eq_same (x y wh : Int) (v u : Value) (xss : List (List Int)) (w : World) (h : IRows w v xss) (h' : IRows w u xss) (hn : total xss ≤ 1048576) :
    Calls Try.prog 21 #[.agg #[.int .i64 x, .int .i64 y, .int .i64 wh, v], .agg #[.int .i64 x, .int .i64 y, .int .i64 wh, u]] w fun e w' => e = .returned (.bool true) ∧ Below w.heap.size w w' := by
  have := eq_any x y wh x y wh v u xss xss w h h' hn
  rw [decide_eq_true ⟨rfl, rfl, rfl, rfl⟩] at this
  exact this


end Go.Proofs.Ytiigfhigmdjooaa.box
