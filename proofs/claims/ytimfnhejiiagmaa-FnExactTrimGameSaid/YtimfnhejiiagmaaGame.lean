/- Contracts of the laws' own helpers over Games: toGame, szGame, eqGame, markGame, heldGame. -/
import Derived.Test.YtimfnhejiiagmaaRws
import Derived.Deep.RegionHeld3
namespace Go.Proofs.Ytimfnhejiiagmaa.game
open Go.RowKit Go.Deep Go.Proofs.Ytimfnhejiiagmaa.base
open Go.Proofs.Ytimfnhejiiagmaa.ints (infoInts ret_int ret_no ret_yes)
open Go.Proofs.Ytimfnhejiiagmaa.rws (total before markss)

theorem bcell {W w1 : World} (hb : Below W.heap.size W w1) : (∀ b o, b < W.heap.size → w1.cell? ⟨b, o, none⟩ = W.cell? ⟨b, o, none⟩) ∧ (∀ b o, b < W.heap.size → w1.frozen? ⟨b, o, none⟩ = W.frozen? ⟨b, o, none⟩) :=
  ⟨fun b o h => hb.cell (p := ⟨b, o, none⟩) h, fun b o h => hb.frozen (p := ⟨b, o, none⟩) h⟩

/-- what a Game's two slices read as -/
structure GV (w : World) (v : Value) (ws : List Int) (u : Value) (xss : List (List Int)) : Prop where
  ints : Ints w v ws
  rows : IRows w u xss
theorem GV.below {w w' : World} {v u : Value} {ws : List Int} {xss : List (List Int)} (h : GV w v ws u xss) (hb : Below w.heap.size w w') : GV w' v ws u xss := ⟨h.ints.below hb, h.rows.below hb⟩
theorem GV.keep {w w' : World} {v u : Value} {ws : List Int} {xss : List (List Int)} (h : GV w v ws u xss) (hk : ∀ a u, w.cell? a = some u → w'.cell? a = some u) : GV w' v ws u xss := ⟨h.ints.keep hk, h.rows.keep hk⟩
theorem GV.shape {w : World} {v u : Value} {ws : List Int} {xss : List (List Int)} (h : GV w v ws u xss) : ∃ a n c a' n' c', v = .slice a n c ∧ u = .slice a' n' c' := by
  obtain ⟨a, n, c, h1⟩ := h.ints.shape
  obtain ⟨a', n', c', h2⟩ := h.rows.shape
  exact ⟨a, n, c, a', n', c', h1, h2⟩
/-- a Game's memory of the call's own, the two slices apart -/
def OG (w : World) (B T : Nat) (v : Value) (ws : List Int) (u : Value) (xss : List (List Int)) : Prop :=
  ∃ M, B ≤ M ∧ M ≤ T ∧ ((OwnInts w B M v ws ∧ OwnRows w M T u xss) ∨ (OwnRows w B M u xss ∧ OwnInts w M T v ws))
theorem OG.view {w : World} {B T : Nat} {v u : Value} {ws : List Int} {xss : List (List Int)} (h : OG w B T v ws u xss) : GV w v ws u xss := by
  obtain ⟨M, _, _, h | h⟩ := h
  · exact ⟨h.1.ints, h.2.rows⟩
  · exact ⟨h.2.ints, h.1.rows⟩
theorem OG.keep {w w' : World} {B T : Nat} {v u : Value} {ws : List Int} {xss : List (List Int)} (h : OG w B T v ws u xss) (hb : Below w.heap.size w w') : OG w' B T v ws u xss := by
  obtain ⟨M, h1, h2, h | h⟩ := h
  · exact ⟨M, h1, h2, .inl ⟨h.1.keep hb, h.2.keep hb⟩⟩
  · exact ⟨M, h1, h2, .inr ⟨h.1.keep hb, h.2.keep hb⟩⟩
theorem OG.mono {w : World} {B B' T T' : Nat} {v u : Value} {ws : List Int} {xss : List (List Int)} (h : OG w B T v ws u xss) (hB : B' ≤ B) (hT : T ≤ T') : OG w B' T' v ws u xss := by
  obtain ⟨M, h1, h2, h | h⟩ := h
  · exact ⟨M, by omega, by omega, .inl ⟨h.1.mono hB (Nat.le_refl _), h.2.mono (Nat.le_refl _) hT⟩⟩
  · exact ⟨M, by omega, by omega, .inr ⟨h.1.mono hB (Nat.le_refl _), h.2.mono (Nat.le_refl _) hT⟩⟩
theorem OG.wrote {S : Addr → Prop} {w w' : World} {B T : Nat} {v u : Value} {ws : List Int} {xss : List (List Int)} (h : OG w B T v ws u xss) (hw : Wrote S w w') (hs : ∀ p, S p → p.block < B ∨ T ≤ p.block) : OG w' B T v ws u xss := by
  obtain ⟨M, h1, h2, h | h⟩ := h
  · exact ⟨M, h1, h2, .inl ⟨h.1.wrote hw (fun p hp => by have := hs p hp; omega), h.2.wrote hw (fun p hp => by have := hs p hp; omega)⟩⟩
  · exact ⟨M, h1, h2, .inr ⟨h.1.wrote hw (fun p hp => by have := hs p hp; omega), h.2.wrote hw (fun p hp => by have := hs p hp; omega)⟩⟩
theorem OG.nil (w : World) (B T : Nat) (h : B ≤ T) : OG w B T (.slice none 0 0) [] (.slice none 0 0) [] := ⟨T, h, Nat.le_refl _, .inl ⟨OwnInts.nil _ _ _, OwnRows.nil _ _ _⟩⟩

set_option maxHeartbeats 1000000 in
theorem to_any (x y : Int) (v : Value) (ws : List Int) (u : Value) (xss : List (List Int)) (w : World) (h : GV w v ws u xss) (hn : ws.length ≤ 1048576) (hm : total xss ≤ 1048576) :
    Calls Try.prog 23 #[.agg #[.int .i64 x, .int .i64 y, v, u]] w fun e w' => ∃ v' u', e = .returned (.agg #[.int .i64 x, .int .i64 y, v', u']) ∧ OG w' w.heap.size w'.heap.size v' ws u' xss ∧ Below w.heap.size w w' := by
  obtain ⟨va, vn, vc, ua, un, uc, rfl, rfl⟩ := h.shape
  have H := Lib.hid h
  clear h
  go_enter Try.func23, Try.ntmps23
  go_wp2_with fail
  refine (ints.to_any _ ws _ (H.out.ints.below ?_) hn).mono ?_
  · repeat (first | exact Below.refl _ _ | refine below_al ?_ _)
  rintro e w1 ⟨v', rfl, hu, hb⟩
  obtain ⟨xa, xn, xc, rfl⟩ := hu.ints.shape
  obtain ⟨hc, hf⟩ := bcell hb
  have hz := hb.size
  simp at hz
  have HU := Lib.hid hu
  have HB := Lib.hid hb
  clear hu hb
  go_wp2_with fail
  have KO1 : Hid (Blk w1 (w.heap.size + 1 + 1) 40 #[.int .i64 x, .int .i64 y, .slice none 0 0, .slice none 0 0]) := Lib.hid (Blk.below (by
    have := Blk.new ((w.alloc (.cells #[.int .i64 x, .int .i64 y, .slice va vn vc, .slice ua un uc] 36)).alloc (.cells #[.int .i64 0, .int .i64 0, .slice none 0 0, .slice none 0 0] 40)) 40 #[.int .i64 x, .int .i64 y, .slice none 0 0, .slice none 0 0]
    simpa using this) HB.out)
  have KR1 : Hid (Blk w1 (w.heap.size + 1) 40 #[.int .i64 0, .int .i64 0, .slice none 0 0, .slice none 0 0]) := Lib.hid (Blk.below (by
    have := (Blk.new (w.alloc (.cells #[.int .i64 x, .int .i64 y, .slice va vn vc, .slice ua un uc] 36)) 40 #[.int .i64 0, .int .i64 0, .slice none 0 0, .slice none 0 0]).alloc (.cells #[.int .i64 x, .int .i64 y, .slice none 0 0, .slice none 0 0] 40)
    simpa using this) HB.out)
  have HB2 : Hid (Below w.heap.size w (w1.setCell ⟨w.heap.size + 1 + 1, 2, none⟩ (.slice xa xn xc))) := Lib.hid ((below_tr (below_al (below_al (below_al (Below.refl w.heap.size w) _) _) _) HB.out).setCell (by simp <;> omega) _)
  refine (rws.to_any _ xss _ (H.out.rows.below HB2.out) hm).mono ?_
  rintro e w2 ⟨u', rfl, hu, hb⟩
  obtain ⟨ya, yn, yc, rfl⟩ := hu.rows.shape
  have KO2 : Hid (Blk w2 (w.heap.size + 1 + 1) 40 #[.int .i64 x, .int .i64 y, .slice xa xn xc, .slice none 0 0]) := Lib.hid (Blk.below (by
    have := Joins.block_setCell (i := 2) KO1.out (.slice xa xn xc)
    unfold Blk
    simpa using this) hb)
  have KR2 : Hid (Blk w2 (w.heap.size + 1) 40 #[.int .i64 0, .int .i64 0, .slice none 0 0, .slice none 0 0]) := Lib.hid (Blk.below (Blk.wrote KR1.out ((Wrote.refl (fun p : Addr => p.block = w.heap.size + 1 + 1) w1).setCell (p := (⟨w.heap.size + 1 + 1, 2, none⟩ : Addr)) rfl (.slice xa xn xc)) (fun p hp => by rw [show p.block = w.heap.size + 1 + 1 from hp]; omega)) hb)
  obtain ⟨c0, c1, c2, c3, c4⟩ := four_cells KO2.out
  obtain ⟨r0, r1, r2, r3, r4⟩ := four_cells KR2.out
  have cf : ∀ k, w2.frozen? ⟨w.heap.size + 1 + 1, k, none⟩ = false := fun k => Joins.unfrozen_of_block KO2.out k
  have rf : ∀ k, w2.frozen? ⟨w.heap.size + 1, k, none⟩ = false := fun k => Joins.unfrozen_of_block KR2.out k
  have hz2 := hb.size
  simp [World.setCell] at hz2
  have HU2 := Lib.hid hu
  have HB3 := Lib.hid hb
  clear hu hb hc hf
  go_wp2_with fail
  refine bodyPost_ret (v := .agg #[.int .i64 x, .int .i64 y, .slice xa xn xc, .slice ya yn yc]) (by simp [results, Try.results23, go_sem, r0, r1, r2, r3]) rfl ⟨_, _, rfl, ?_, ?_⟩
  · have hI := (HU.out.wrote (S := fun p => p.block < w.heap.size + 1 + 1 + 1) ((Wrote.refl _ _).setCell (p := (⟨w.heap.size + 1 + 1, 2, none⟩ : Addr)) (by simp) (.slice xa xn xc)) (fun p hp => .inl (by simpa using hp))).keep HB3.out
    have hR := HU2.out
    refine ⟨w1.heap.size, ?_, ?_, .inl ⟨?_, ?_⟩⟩
    · omega
    · simp [World.setCell]; omega
    · refine (hI.wrote (S := fun p => p.block < w.heap.size + 1 + 1 + 1) ?_ (fun p hp => .inl (by simpa using hp))).mono (by simp; omega) (by simp)
      repeat (first | exact Wrote.refl _ _ | refine Wrote.setCell ?_ (by simp) _)
    · refine (hR.wrote (S := fun p => p.block < w.heap.size + 1 + 1 + 1) ?_ (fun p hp => .inl (by have : p.block < w.heap.size + 1 + 1 + 1 := hp; simp [World.setCell]; omega))).mono (by simp [World.setCell]) (by simp [World.setCell])
      repeat (first | exact Wrote.refl _ _ | refine Wrote.setCell ?_ (by simp) _)
  · repeat (refine Below.setCell ?_ (by simp <;> omega) _)
    exact below_tr HB2.out HB3.out

/-- what szGame leaves -/
def sz (ws : List Int) (xss : List (List Int)) (left : Int) : Int := if left < ws.length then -1 else rws.sz xss (left - ws.length)
theorem sz_bound {ws : List Int} {xss : List (List Int)} {l : Int} (h : ¬ sz ws xss l < 0) : (ws.length : Int) ≤ l ∧ (total xss : Int) ≤ l ∧ sz ws xss l ≤ l := by
  unfold sz at h ⊢; split at h <;> rename_i g
  · omega
  · rw [if_neg g]; have := rws.sz_bound h; omega

set_option maxHeartbeats 1000000 in
theorem sz_any (x y : Int) (v : Value) (ws : List Int) (u : Value) (xss : List (List Int)) (left : Int) (w : World) (h : GV w v ws u xss) (h0 : 0 ≤ left) (h1 : left ≤ 1048576) :
    Calls Try.prog 21 #[.agg #[.int .i64 x, .int .i64 y, v, u], .int .i64 left] w fun e w' => e = .returned (.int .i64 (sz ws xss left)) ∧ Below w.heap.size w w' := by
  obtain ⟨A, cap, rfl, hcap, hmax⟩ : ∃ A c, v = .slice A ws.length c ∧ ws.length ≤ c ∧ c ≤ maxLen := by obtain ⟨A, c, hv, h1, h2, _⟩ := h.ints; rw [len_i64s] at hv h1; exact ⟨A, c, hv, h1, h2⟩
  obtain ⟨ua, un, uc, rfl⟩ := h.rows.shape
  have HI := Lib.hid (fun W => ints.sz_any A ws.length cap left W (Nat.le_trans hcap hmax) (by omega) h1)
  have H := Lib.hid h
  clear h hcap hmax
  by_cases hl : left < ws.length
  · have HS : Hid (sz ws xss left = -1) := Lib.hid (if_pos hl)
    have HL := Lib.hid hl
    have HJ : Hid (∀ W, Calls Try.prog 68 #[.slice A ws.length cap, .int .i64 left] W fun e w' => e = .returned (.int .i64 (-1)) ∧ W = w') := Lib.hid (fun W => by have := HI.out W; rw [if_pos hl] at this; exact this)
    clear hl HI
    go_enter Try.func21, Try.ntmps21
    go_wp2_with fail
    refine (HJ.out _).mono ?_
    rintro e w' ⟨rfl, rfl⟩
    go_wp2_with fail
    go_ret
    exact ⟨ret_int HS.out.symm, below_al (Below.refl _ _) _⟩
  · obtain ⟨m, hm⟩ : ∃ m : Int, left - (ws.length : Int) = m := ⟨_, rfl⟩
    have HJ : Hid (∀ W, Calls Try.prog 68 #[.slice A ws.length cap, .int .i64 left] W fun e w' => e = .returned (.int .i64 m) ∧ W = w') := Lib.hid (fun W => by have := HI.out W; rw [if_neg hl, hm] at this; exact this)
    have hm0 : ¬ m < 0 := by omega
    have hm1 : m ≤ 1048576 := by omega
    have HS : Hid (sz ws xss left = rws.sz xss m) := Lib.hid (by unfold sz; rw [if_neg hl, hm])
    have HR : Hid (∀ o, Calls Try.prog 32 #[.slice ua un uc, .int .i64 m] (w.alloc o) fun e w' => e = .returned (.int .i64 (rws.sz xss m)) ∧ w.alloc o = w') := Lib.hid (fun o =>
      rws.sz_any _ xss m _ (H.out.rows.below (below_al (Below.refl _ _) o)) (by omega) hm1)
    clear hl hm HI
    by_cases hlt : rws.sz xss m < 0
    · have HT : Hid (rws.sz xss m = -1) := Lib.hid (by unfold rws.sz at hlt ⊢; split at hlt <;> rename_i g <;> simp [g] <;> omega)
      go_enter Try.func21, Try.ntmps21
      go_wp2_with fail
      refine (HJ.out _).mono ?_
      rintro e w' ⟨rfl, rfl⟩
      go_wp2_with fail
      refine (HR.out _).mono ?_
      rintro e w' ⟨rfl, rfl⟩
      go_wp2_with fail
      go_ret
      exact ⟨ret_int (by rw [HS.out, HT.out]), below_al (Below.refl _ _) _⟩
    · go_enter Try.func21, Try.ntmps21
      go_wp2_with fail
      refine (HJ.out _).mono ?_
      rintro e w' ⟨rfl, rfl⟩
      go_wp2_with fail
      refine (HR.out _).mono ?_
      rintro e w' ⟨rfl, rfl⟩
      go_wp2_with fail
      go_ret
      exact ⟨ret_int HS.out.symm, below_al (Below.refl _ _) _⟩

/-- a marked Game -/
structure GM (w : World) (v : Value) (n : Nat) (k0 : Int) (u : Value) (xss : List (List Int)) : Prop where
  ints : Ints w v (marks k0 n)
  rows : IRows w u (markss (k0 + n) xss)
theorem GM.below {w w' : World} {v u : Value} {n : Nat} {k0 : Int} {xss : List (List Int)} (h : GM w v n k0 u xss) (hb : Below w.heap.size w w') : GM w' v n k0 u xss := ⟨h.ints.below hb, h.rows.below hb⟩


set_option maxHeartbeats 1000000 in
theorem mark_any (x y : Int) (v : Value) (ws : List Int) (u : Value) (xss : List (List Int)) (k0 : Int) (B T : Nat) (w : World) (h : OG w B T v ws u xss) (hn : ws.length ≤ 1048576) (hm : total xss ≤ 1048576) (h0 : 0 ≤ k0) (h1 : k0 ≤ 4194304) :
    Calls Try.prog 28 #[.agg #[.int .i64 x, .int .i64 y, v, u], .int .i64 k0] w fun e w' => e = .returned (.int .i64 (k0 + ws.length + before xss xss.length)) ∧ GM w' v ws.length k0 u xss ∧
      ∃ S w1, Below w.heap.size w w1 ∧ Wrote S w1 w' ∧ Inside S B T := by
  obtain ⟨va, vn, vc, ua, un, uc, rfl, rfl⟩ := h.view.shape
  have hL := Lib.hid (fun p (hp : In (.slice va vn vc) p) => In.lt h.view.ints hp)
  obtain ⟨M, hB, hT, ho⟩ := h
  have K : Hid (∀ W : World, Below w.heap.size w W → Calls Try.prog 41 #[.slice va vn vc, .int .i64 k0] W fun e w' => e = .returned (.int .i64 (k0 + ws.length)) ∧ Wrote (In (.slice va vn vc)) W w' ∧
      Calls Try.prog 40 #[.slice ua un uc, .int .i64 (k0 + ws.length)] w' fun e w'' => e = .returned (.int .i64 (k0 + ws.length + before xss xss.length)) ∧ GM w'' (.slice va vn vc) ws.length k0 (.slice ua un uc) xss ∧ ∃ S, Wrote S W w'' ∧ Inside S B T) := Lib.hid (fun W hW => by
    rcases ho with ⟨hi, hr⟩ | ⟨hr, hi⟩
    · refine (ints.mark_any _ ws k0 W (hi.keep hW).ints (hi.keep hW).free hn h0 (by omega)).mono ?_
      rintro e w' ⟨rfl, hi', hw⟩
      have hs : ∀ p, In (.slice va vn vc) p → B ≤ p.block ∧ p.block < M := fun p hp => ⟨hi.ge p hp, hi.lt p hp⟩
      have hr' : OwnRows w' M T (.slice ua un uc) xss := (hr.keep hW).wrote hw (fun p hp => .inl (hs p hp).2)
      refine ⟨rfl, hw, (rws.mark_any _ xss (k0 + ws.length) M T w' hr' hm (by omega) (by omega)).mono ?_⟩
      rintro e w'' ⟨rfl, hr2, S2, hw2, hs2⟩
      refine ⟨rfl, ⟨Sl.wrote hi' hw2 (fun p hp hS => ?_), hr2⟩, fun p => In (.slice va vn vc) p ∨ S2 p, (hw.mono (fun p => Or.inl)).trans (hw2.mono (fun p => Or.inr)), fun p hp => ?_⟩
      · have := (hs2 p hS).1; have := hi.lt p hp; omega
      · rcases hp with hp | hp
        · have := hs p hp; omega
        · have := hs2 p hp; omega
    · refine (ints.mark_any _ ws k0 W (hi.keep hW).ints (hi.keep hW).free hn h0 (by omega)).mono ?_
      rintro e w' ⟨rfl, hi', hw⟩
      have hs : ∀ p, In (.slice va vn vc) p → M ≤ p.block ∧ p.block < T := fun p hp => ⟨hi.ge p hp, hi.lt p hp⟩
      have hr' : OwnRows w' B M (.slice ua un uc) xss := (hr.keep hW).wrote hw (fun p hp => .inr (hs p hp).1)
      refine ⟨rfl, hw, (rws.mark_any _ xss (k0 + ws.length) B M w' hr' hm (by omega) (by omega)).mono ?_⟩
      rintro e w'' ⟨rfl, hr2, S2, hw2, hs2⟩
      refine ⟨rfl, ⟨Sl.wrote hi' hw2 (fun p hp hS => ?_), hr2⟩, fun p => In (.slice va vn vc) p ∨ S2 p, (hw.mono (fun p => Or.inl)).trans (hw2.mono (fun p => Or.inr)), fun p hp => ?_⟩
      · have := (hs2 p hS).2; have := hi.ge p hp; omega
      · rcases hp with hp | hp
        · have := hs p hp; omega
        · have := hs2 p hp; omega)
  clear ho
  go_enter Try.func28, Try.ntmps28
  go_wp2_with fail
  refine (K.out _ (below_al (Below.refl _ _) _)).mono ?_
  rintro e w' ⟨rfl, hi, hcall⟩
  have HC := Lib.hid hcall
  obtain ⟨c0, c1, c2, c3, c4⟩ := four_cells ((Blk.new w 40 #[.int .i64 x, .int .i64 y, .slice va vn vc, .slice ua un uc]).wrote hi (fun p hp => by have := hL.out p hp; omega))
  clear hi hcall K
  go_wp2_with fail
  refine HC.out.mono ?_
  rintro e w'' ⟨rfl, hg, S, hw, hs⟩
  have HG := Lib.hid hg
  have HW := Lib.hid hw
  have HS := Lib.hid hs
  clear hg hw hs HC
  go_wp2_with fail
  go_ret
  exact ⟨rfl, HG.out, S, _, below_al (Below.refl _ _) _, HW.out, HS.out⟩



set_option maxHeartbeats 1000000 in
theorem held_any (x y : Int) (v : Value) (n : Nat) (u : Value) (xss : List (List Int)) (k0 : Int) (w : World) (h : GM w v n k0 u xss) (hn : n ≤ 1048576) (hm : total xss ≤ 1048576) (h0 : 0 ≤ k0) (h1 : k0 ≤ 4194304) :
    Calls Try.prog 29 #[.agg #[.int .i64 x, .int .i64 y, v, u], .int .i64 k0] w fun e w' => e = .returned (.int .i64 (k0 + n + before xss xss.length)) ∧ Below w.heap.size w w' := by
  obtain ⟨va, vn, vc, hv⟩ := h.ints.shape
  subst hv
  obtain ⟨ua, un, uc, hu⟩ := h.rows.shape
  subst hu
  have H := Lib.hid h
  clear h
  have hg1 : ¬ k0 + (n : Int) < 0 := by omega
  have hg : ¬ k0 + (n : Int) + (before xss xss.length : Int) < 0 := by omega
  go_enter Try.func29, Try.ntmps29
  go_wp2_with fail
  refine (ints.held_any _ n k0 _ (H.out.ints.below (below_al (Below.refl _ _) _)) hn h0 (by omega)).mono ?_
  rintro e w' ⟨rfl, rfl⟩
  go_wp2_with fail
  refine (rws.held_any _ xss (k0 + n) _ (H.out.rows.below (below_al (Below.refl _ _) _)) hm (by omega) (by omega)).mono ?_
  rintro e w' ⟨rfl, rfl⟩
  go_wp2_with fail
  go_ret
  exact ⟨rfl, below_al (Below.refl _ _) _⟩


set_option maxHeartbeats 1000000 in
theorem eq_same (x y : Int) (v v' : Value) (ws : List Int) (u u' : Value) (xss : List (List Int)) (w : World) (h : GV w v ws u xss) (h' : GV w v' ws u' xss) (hn : ws.length ≤ 1048576) (hm : total xss ≤ 1048576) :
    Calls Try.prog 25 #[.agg #[.int .i64 x, .int .i64 y, v, u], .agg #[.int .i64 x, .int .i64 y, v', u']] w fun e w' => e = .returned (.bool true) ∧ Below w.heap.size w w' := by
  obtain ⟨va, vn, vc, ua, un, uc, rfl, rfl⟩ := h.shape
  obtain ⟨va', vn', vc', ua', un', uc', rfl, rfl⟩ := h'.shape
  have H := Lib.hid h
  have H' := Lib.hid h'
  clear h h'
  have HQ : Hid (∀ W : World, (∀ a u, w.cell? a = some u → W.cell? a = some u) → Calls Try.prog 39 #[.slice va vn vc, .slice va' vn' vc'] W fun e w' => e = .returned (.bool true) ∧ ∃ q, w' = W.drewN q) := Lib.hid (fun W hW => by
    have := ints.eq_any _ _ ws ws W (H.out.ints.keep hW) (H'.out.ints.keep hW) hn
    rw [decide_eq_true rfl] at this
    exact this)
  have HR : Hid (∀ W : World, (∀ a u, w.cell? a = some u → W.cell? a = some u) → Calls Try.prog 36 #[.slice ua un uc, .slice ua' un' uc'] W fun e w' => e = .returned (.bool true) ∧ ∃ q, w' = W.drewN q) := Lib.hid (fun W hW => by
    have := rws.eq_any _ _ xss xss W (H.out.rows.keep hW) (H'.out.rows.keep hW) hm
    rw [decide_eq_true rfl] at this
    exact this)
  have HB : Hid (∀ o o', Below w.heap.size w ((w.alloc o).alloc o')) := Lib.hid (fun o o' => below_al (below_al (Below.refl _ _) o) o')
  go_enter Try.func25, Try.ntmps25
  go_wp2_with fail
  refine (HQ.out _ (below_cell (HB.out _ _))).mono ?_
  rintro e w' ⟨rfl, q, rfl⟩
  go_wp2_with fail
  refine (HR.out _ (below_cell (below_drewN (HB.out _ _) q))).mono ?_
  rintro e w' ⟨rfl, q', rfl⟩
  go_wp2_with fail
  go_ret
  exact ⟨rfl, below_drewN (HB.out _ _) (q + q')⟩

end Go.Proofs.Ytimfnhejiiagmaa.game
