/- Contracts of the laws' own helpers over Scenes: toScene, szScene, eqScene, markScene, heldScene. -/
import Derived.Test.YtiigfhigmdjooaaRws
import Derived.Test.YtiigfhigmdjooaaThree
import Derived.Deep.RegionHeld3
namespace Go.Proofs.Ytiigfhigmdjooaa.scene
open Go.RowKit Go.Deep Go.Proofs.Ytiigfhigmdjooaa.base
open Go.Proofs.Ytiigfhigmdjooaa.ints (infoInts ret_int ret_no ret_yes)
open Go.Proofs.Ytiigfhigmdjooaa.rws (total before markss)

/-- what a Scene's two slices read as -/
structure GV (w : World) (v : Value) (ws : List Int) (u : Value) (xss : List (List Int)) : Prop where
  ints : Ints w v ws
  rows : IRows w u xss
theorem GV.below {w w' : World} {v u : Value} {ws : List Int} {xss : List (List Int)} (h : GV w v ws u xss) (hb : Below w.heap.size w w') : GV w' v ws u xss := ⟨h.ints.below hb, h.rows.below hb⟩
theorem GV.keep {w w' : World} {v u : Value} {ws : List Int} {xss : List (List Int)} (h : GV w v ws u xss) (hk : ∀ a u, w.cell? a = some u → w'.cell? a = some u) : GV w' v ws u xss := ⟨h.ints.keep hk, h.rows.keep hk⟩
theorem GV.shape {w : World} {v u : Value} {ws : List Int} {xss : List (List Int)} (h : GV w v ws u xss) : ∃ a n c a' n' c', v = .slice a n c ∧ u = .slice a' n' c' := by
  obtain ⟨a, n, c, h1⟩ := h.ints.shape
  obtain ⟨a', n', c', h2⟩ := h.rows.shape
  exact ⟨a, n, c, a', n', c', h1, h2⟩
/-- a Scene's memory of the call's own, the two slices apart -/
def OG (w : World) (B T : Nat) (v : Value) (ws : List Int) (u : Value) (xss : List (List Int)) : Prop :=
  ∃ M, B ≤ M ∧ M ≤ T ∧ ((OwnInts w B M v ws ∧ OwnRows w M T u xss) ∨ (OwnRows w B M u xss ∧ OwnInts w M T v ws))
theorem OG.view {w : World} {B T : Nat} {v u : Value} {ws : List Int} {xss : List (List Int)} (h : OG w B T v ws u xss) : GV w v ws u xss := by
  obtain ⟨M, _, _, h | h⟩ := h
  · exact ⟨h.1.ints, h.2.rows⟩
  · exact ⟨h.2.ints, h.1.rows⟩
theorem OG.keep {w w' : World} {B T : Nat} {v u : Value} {ws : List Int} {xss : List (List Int)} (h : OG w B T v ws u xss) (hb : Below w.heap.size w w') : OG w' B T v ws u xss := by
  obtain ⟨M, h1, h2, h | h⟩ := h
  · exact ⟨M, h1, h2, .inl ⟨h.1.keep hb, h.2.keep hb⟩⟩
  · exact ⟨M, h1, h2, .inr ⟨h.1.keep hb, h.2.keep hb⟩⟩
theorem OG.mono {w : World} {B B' T T' : Nat} {v u : Value} {ws : List Int} {xss : List (List Int)} (h : OG w B T v ws u xss) (hB : B' ≤ B) (hT : T ≤ T') : OG w B' T' v ws u xss := by
  obtain ⟨M, h1, h2, h | h⟩ := h
  · exact ⟨M, by omega, by omega, .inl ⟨h.1.mono hB (Nat.le_refl _), h.2.mono (Nat.le_refl _) hT⟩⟩
  · exact ⟨M, by omega, by omega, .inr ⟨h.1.mono hB (Nat.le_refl _), h.2.mono (Nat.le_refl _) hT⟩⟩
theorem OG.wrote {S : Addr → Prop} {w w' : World} {B T : Nat} {v u : Value} {ws : List Int} {xss : List (List Int)} (h : OG w B T v ws u xss) (hw : Wrote S w w') (hs : ∀ p, S p → p.block < B ∨ T ≤ p.block) : OG w' B T v ws u xss := by
  obtain ⟨M, h1, h2, h | h⟩ := h
  · exact ⟨M, h1, h2, .inl ⟨h.1.wrote hw (fun p hp => by have := hs p hp; omega), h.2.wrote hw (fun p hp => by have := hs p hp; omega)⟩⟩
  · exact ⟨M, h1, h2, .inr ⟨h.1.wrote hw (fun p hp => by have := hs p hp; omega), h.2.wrote hw (fun p hp => by have := hs p hp; omega)⟩⟩
theorem OG.nil (w : World) (B T : Nat) (h : B ≤ T) : OG w B T (.slice none 0 0) [] (.slice none 0 0) [] := ⟨T, h, Nat.le_refl _, .inl ⟨OwnInts.nil _ _ _, OwnRows.nil _ _ _⟩⟩

set_option maxHeartbeats 1000000 in
theorem to_any (x : Int) (u : Value) (xss : List (List Int)) (v : Value) (ws : List Int) (w : World) (h : GV w v ws u xss) (hn : ws.length ≤ 1048576) (hm : total xss ≤ 1048576) :
    Calls Try.prog 28 #[.agg #[.int .i64 x, u, v]] w fun e w' => ∃ v' u', e = .returned (.agg #[.int .i64 x, u', v']) ∧ OG w' w.heap.size w'.heap.size v' ws u' xss ∧ Below w.heap.size w w' := by
  obtain ⟨va, vn, vc, ua, un, uc, rfl, rfl⟩ := h.shape
  have H := Lib.hid h
  clear h
  go_enter Try.func28, Try.ntmps28
  go_wp2_with fail
  refine (rws.to_any _ xss _ (H.out.rows.below ?_) hm).mono ?_
  · repeat (first | exact Below.refl _ _ | refine below_al ?_ _)
  rintro e w1 ⟨u', rfl, hu, hb⟩
  obtain ⟨ya, yn, yc, rfl⟩ := hu.rows.shape
  obtain ⟨hc, hf⟩ := bcell hb
  have hz := hb.size
  simp at hz
  have HU := Lib.hid hu
  have HB := Lib.hid hb
  clear hu hb
  go_wp2_with fail
  have KO1 : Hid (Blk w1 (w.heap.size + 1 + 1) 43 #[.int .i64 x, .slice none 0 0, .slice none 0 0]) := Lib.hid (Blk.below (by
    have := Blk.new ((w.alloc (.cells #[.int .i64 x, .slice ua un uc, .slice va vn vc] 41)).alloc (.cells #[.int .i64 0, .slice none 0 0, .slice none 0 0] 43)) 43 #[.int .i64 x, .slice none 0 0, .slice none 0 0]
    simpa using this) HB.out)
  have KR1 : Hid (Blk w1 (w.heap.size + 1) 43 #[.int .i64 0, .slice none 0 0, .slice none 0 0]) := Lib.hid (Blk.below (by
    have := (Blk.new (w.alloc (.cells #[.int .i64 x, .slice ua un uc, .slice va vn vc] 41)) 43 #[.int .i64 0, .slice none 0 0, .slice none 0 0]).alloc (.cells #[.int .i64 x, .slice none 0 0, .slice none 0 0] 43)
    simpa using this) HB.out)
  have HB2 : Hid (Below w.heap.size w (w1.setCell ⟨w.heap.size + 1 + 1, 1, none⟩ (.slice ya yn yc))) := Lib.hid ((below_tr (below_al (below_al (below_al (Below.refl w.heap.size w) _) _) _) HB.out).setCell (by simp <;> omega) _)
  refine (ints.to_any _ ws _ (H.out.ints.below HB2.out) hn).mono ?_
  rintro e w2 ⟨v', rfl, hu, hb⟩
  obtain ⟨xa, xn, xc, rfl⟩ := hu.ints.shape
  have KO2 : Hid (Blk w2 (w.heap.size + 1 + 1) 43 #[.int .i64 x, .slice ya yn yc, .slice none 0 0]) := Lib.hid (Blk.below (by
    have := Joins.block_setCell (i := 1) KO1.out (.slice ya yn yc)
    unfold Blk
    simpa using this) hb)
  have KR2 : Hid (Blk w2 (w.heap.size + 1) 43 #[.int .i64 0, .slice none 0 0, .slice none 0 0]) := Lib.hid (Blk.below (Blk.wrote KR1.out ((Wrote.refl (fun p : Addr => p.block = w.heap.size + 1 + 1) w1).setCell (p := (⟨w.heap.size + 1 + 1, 1, none⟩ : Addr)) rfl (.slice ya yn yc)) (fun p hp => by rw [show p.block = w.heap.size + 1 + 1 from hp]; omega)) hb)
  obtain ⟨c0, c1, c2, c4⟩ := three_cells KO2.out
  obtain ⟨r0, r1, r2, r4⟩ := three_cells KR2.out
  have cf : ∀ k, w2.frozen? ⟨w.heap.size + 1 + 1, k, none⟩ = false := fun k => Joins.unfrozen_of_block KO2.out k
  have rf : ∀ k, w2.frozen? ⟨w.heap.size + 1, k, none⟩ = false := fun k => Joins.unfrozen_of_block KR2.out k
  have hz2 := hb.size
  simp [World.setCell] at hz2
  have HU2 := Lib.hid hu
  have HB3 := Lib.hid hb
  clear hu hb hc hf
  go_wp2_with fail
  refine bodyPost_ret (v := .agg #[.int .i64 x, .slice ya yn yc, .slice xa xn xc]) (by simp [results, Try.results28, go_sem, r0, r1, r2]) rfl ⟨_, _, rfl, ?_, ?_⟩
  · have hI := (HU.out.wrote (S := fun p => p.block < w.heap.size + 1 + 1 + 1) ((Wrote.refl _ _).setCell (p := (⟨w.heap.size + 1 + 1, 1, none⟩ : Addr)) (by simp) (.slice ya yn yc)) (fun p hp => .inl (by simpa using hp))).keep HB3.out
    have hR := HU2.out
    refine ⟨w1.heap.size, ?_, ?_, .inr ⟨?_, ?_⟩⟩
    · omega
    · simp [World.setCell]; omega
    · refine (hI.wrote (S := fun p => p.block < w.heap.size + 1 + 1 + 1) ?_ (fun p hp => .inl (by simpa using hp))).mono (by simp; omega) (by simp)
      repeat (first | exact Wrote.refl _ _ | refine Wrote.setCell ?_ (by simp) _)
    · refine (hR.wrote (S := fun p => p.block < w.heap.size + 1 + 1 + 1) ?_ (fun p hp => .inl (by have : p.block < w.heap.size + 1 + 1 + 1 := hp; simp [World.setCell]; omega))).mono (by simp [World.setCell]) (by simp [World.setCell])
      repeat (first | exact Wrote.refl _ _ | refine Wrote.setCell ?_ (by simp) _)
  · repeat (refine Below.setCell ?_ (by simp <;> omega) _)
    exact below_tr HB2.out HB3.out

/-- what szScene leaves -/
def sz (xss : List (List Int)) (ws : List Int) (left : Int) : Int := if rws.sz xss left < 0 then -1 else if rws.sz xss left < ws.length then -1 else rws.sz xss left - ws.length
theorem sz_bound {xss : List (List Int)} {ws : List Int} {l : Int} (h : ¬ sz xss ws l < 0) : (ws.length : Int) ≤ l ∧ (total xss : Int) ≤ l ∧ sz xss ws l ≤ l := by
  unfold sz at h ⊢
  by_cases g : rws.sz xss l < 0
  · rw [if_pos g] at h; omega
  · rw [if_neg g] at h ⊢
    have := rws.sz_bound g
    by_cases g2 : rws.sz xss l < ws.length
    · rw [if_pos g2] at h; omega
    · rw [if_neg g2]; omega

set_option maxHeartbeats 1000000 in
theorem sz_any (x : Int) (u : Value) (xss : List (List Int)) (v : Value) (ws : List Int) (left : Int) (w : World) (h : GV w v ws u xss) (h0 : 0 ≤ left) (h1 : left ≤ 1048576) :
    Calls Try.prog 26 #[.agg #[.int .i64 x, u, v], .int .i64 left] w fun e w' => e = .returned (.int .i64 (sz xss ws left)) ∧ Below w.heap.size w w' := by
  obtain ⟨A, cap, rfl, hcap, hmax⟩ : ∃ A c, v = .slice A ws.length c ∧ ws.length ≤ c ∧ c ≤ maxLen := by obtain ⟨A, c, hv, h1, h2, _⟩ := h.ints; rw [len_i64s] at hv h1; exact ⟨A, c, hv, h1, h2⟩
  obtain ⟨ua, un, uc, rfl⟩ := h.rows.shape
  obtain ⟨m, hm⟩ : ∃ m : Int, rws.sz xss left = m := ⟨_, rfl⟩
  have HR : Hid (∀ o, Calls Try.prog 38 #[.slice ua un uc, .int .i64 left] (w.alloc o) fun e w' => e = .returned (.int .i64 m) ∧ w.alloc o = w') := Lib.hid (fun o => by
      have := rws.sz_any _ xss left _ (h.rows.below (below_al (Below.refl _ _) o)) h0 h1; rw [hm] at this; exact this)
  by_cases hlt : m < 0
  · have HS : Hid (sz xss ws left = -1) := Lib.hid (by unfold sz; rw [hm, if_pos hlt])
    clear h hcap hmax hm
    go_enter Try.func26, Try.ntmps26
    go_wp2_with fail
    refine (HR.out _).mono ?_
    rintro e w' ⟨rfl, rfl⟩
    go_wp2_with fail
    go_ret
    exact ⟨ret_int HS.out.symm, below_al (Below.refl _ _) _⟩
  · have hm1 : m ≤ 1048576 := by have := rws.sz_bound (xss := xss) (l := left) (by rw [hm]; exact hlt); omega
    have HI := Lib.hid (fun W => ints.sz_any A ws.length cap m W (Nat.le_trans hcap hmax) (by omega) hm1)
    by_cases hl : m < ws.length
    · have HS : Hid (sz xss ws left = -1) := Lib.hid (by unfold sz; rw [hm, if_neg hlt, if_pos hl])
      have HJ : Hid (∀ W, Calls Try.prog 76 #[.slice A ws.length cap, .int .i64 m] W fun e w' => e = .returned (.int .i64 (-1)) ∧ W = w') := Lib.hid (fun W => by have := HI.out W; rw [if_pos hl] at this; exact this)
      clear h hl HI hcap hmax hm
      go_enter Try.func26, Try.ntmps26
      go_wp2_with fail
      refine (HR.out _).mono ?_
      rintro e w' ⟨rfl, rfl⟩
      go_wp2_with fail
      refine (HJ.out _).mono ?_
      rintro e w' ⟨rfl, rfl⟩
      go_wp2_with fail
      go_ret
      exact ⟨ret_int HS.out.symm, below_al (Below.refl _ _) _⟩
    · obtain ⟨q, hq⟩ : ∃ q : Int, m - (ws.length : Int) = q := ⟨_, rfl⟩
      have hq0 : ¬ q < 0 := by omega
      have HS : Hid (sz xss ws left = q) := Lib.hid (by unfold sz; rw [hm, if_neg hlt, if_neg hl, hq])
      have HJ : Hid (∀ W, Calls Try.prog 76 #[.slice A ws.length cap, .int .i64 m] W fun e w' => e = .returned (.int .i64 q) ∧ W = w') := Lib.hid (fun W => by have := HI.out W; rw [if_neg hl, hq] at this; exact this)
      clear h hl HI hcap hmax hm hq
      go_enter Try.func26, Try.ntmps26
      go_wp2_with fail
      refine (HR.out _).mono ?_
      rintro e w' ⟨rfl, rfl⟩
      go_wp2_with fail
      refine (HJ.out _).mono ?_
      rintro e w' ⟨rfl, rfl⟩
      go_wp2_with fail
      go_ret
      exact ⟨ret_int HS.out.symm, below_al (Below.refl _ _) _⟩

/-- a marked Scene -/
structure SM (w : World) (v : Value) (n : Nat) (k0 : Int) (u : Value) (xss : List (List Int)) : Prop where
  ints : Ints w v (marks (k0 + before xss xss.length) n)
  rows : IRows w u (markss k0 xss)
theorem SM.below {w w' : World} {v u : Value} {n : Nat} {k0 : Int} {xss : List (List Int)} (h : SM w v n k0 u xss) (hb : Below w.heap.size w w') : SM w' v n k0 u xss := ⟨h.ints.below hb, h.rows.below hb⟩


theorem mark_rows (v : Value) (xss : List (List Int)) (k0 : Int) (B T : Nat) (w : World) (h : OwnRows w B T v xss) (hn : total xss ≤ 1048576) (h0 : 0 ≤ k0) (h1 : k0 ≤ 8388608) :
    Calls Try.prog 46 #[v, .int .i64 k0] w fun e w' => e = .returned (.int .i64 (k0 + before xss xss.length)) ∧ OwnRows w' B T v (markss k0 xss) ∧ ∃ S, Wrote S w w' ∧ Inside S B T := by
  obtain ⟨vals, hv⟩ := h
  refine (rws.mark_vals v vals xss k0 B T w hv hn h0 h1).mono ?_
  rintro e w' ⟨rfl, hM⟩
  refine ⟨rfl, ⟨vals, ?_, by rw [rws.len_markss]; exact hv.len, fun r hr => ?_, hv.geo, hv.lto, hv.ge, hv.lt, fun u hu p hp => (hM.wrote.frozen p).trans (hv.free u hu p hp), hv.apart, hv.each⟩, _, hM.wrote, ?_⟩
  · exact hv.outer.wrote hM.wrote (fun p hp => by rintro ⟨u, hu, hin⟩; exact hv.apart u hu p hin hp)
  · rw [rws.len_markss] at hr
    obtain ⟨u, hu, hi⟩ := hM.row r hr
    rw [if_pos hr] at hi
    exact ⟨u, hu, by rw [rws.get_markss _ _ _ hr]; exact hi⟩
  · rintro p ⟨u, hu, hin⟩
    exact ⟨hv.ge u hu p hin, hv.lt u hu p hin⟩



set_option maxHeartbeats 1000000 in
theorem mark_any (x : Int) (u : Value) (xss : List (List Int)) (v : Value) (ws : List Int) (k0 : Int) (B T : Nat) (w : World) (h : OG w B T v ws u xss) (hTw : T ≤ w.heap.size) (hn : ws.length ≤ 1048576) (hm : total xss ≤ 1048576) (h0 : 0 ≤ k0) (h1 : k0 ≤ 4194304) :
    Calls Try.prog 31 #[.agg #[.int .i64 x, u, v], .int .i64 k0] w fun e w' => e = .returned (.int .i64 (k0 + before xss xss.length + ws.length)) ∧ SM w' v ws.length k0 u xss ∧
      ∃ S w1, Below w.heap.size w w1 ∧ Wrote S w1 w' ∧ Inside S B T := by
  obtain ⟨va, vn, vc, ua, un, uc, rfl, rfl⟩ := h.view.shape
  have hbl := rws.before_le xss xss.length
  obtain ⟨M, hB, hT, ho⟩ := h
  have K : Hid (∀ W : World, Below w.heap.size w W → Calls Try.prog 46 #[.slice ua un uc, .int .i64 k0] W fun e w' => e = .returned (.int .i64 (k0 + before xss xss.length)) ∧ (∃ S, Wrote S W w' ∧ Inside S B T) ∧
      Calls Try.prog 47 #[.slice va vn vc, .int .i64 (k0 + before xss xss.length)] w' fun e w'' => e = .returned (.int .i64 (k0 + before xss xss.length + ws.length)) ∧ SM w'' (.slice va vn vc) ws.length k0 (.slice ua un uc) xss ∧ ∃ S, Wrote S W w'' ∧ Inside S B T) := Lib.hid (fun W hW => by
    rcases ho with ⟨hi, hr⟩ | ⟨hr, hi⟩
    · refine (mark_rows _ xss k0 M T W (hr.keep hW) hm h0 (by omega)).mono ?_
      rintro e w' ⟨rfl, hr2, S2, hw2, hs2⟩
      have hi' : OwnInts w' B M (.slice va vn vc) ws := (hi.keep hW).wrote hw2 (fun p hp => .inr (hs2 p hp).1)
      refine ⟨rfl, ⟨S2, hw2, fun p hp => by have := hs2 p hp; omega⟩, (ints.mark_any _ ws _ w' hi'.ints hi'.free hn (by omega) (by omega)).mono ?_⟩
      rintro e w'' ⟨rfl, hi2, hw⟩
      have hs : ∀ p, In (.slice va vn vc) p → B ≤ p.block ∧ p.block < M := fun p hp => ⟨hi'.ge p hp, hi'.lt p hp⟩
      refine ⟨rfl, ⟨hi2, (hr2.wrote hw (fun p hp => .inl (hs p hp).2)).rows⟩, fun p => In (.slice va vn vc) p ∨ S2 p, (hw2.mono (fun p => Or.inr)).trans (hw.mono (fun p => Or.inl)), fun p hp => ?_⟩
      rcases hp with hp | hp
      · have := hs p hp; omega
      · have := hs2 p hp; omega
    · refine (mark_rows _ xss k0 B M W (hr.keep hW) hm h0 (by omega)).mono ?_
      rintro e w' ⟨rfl, hr2, S2, hw2, hs2⟩
      have hi' : OwnInts w' M T (.slice va vn vc) ws := (hi.keep hW).wrote hw2 (fun p hp => .inl (hs2 p hp).2)
      refine ⟨rfl, ⟨S2, hw2, fun p hp => by have := hs2 p hp; omega⟩, (ints.mark_any _ ws _ w' hi'.ints hi'.free hn (by omega) (by omega)).mono ?_⟩
      rintro e w'' ⟨rfl, hi2, hw⟩
      have hs : ∀ p, In (.slice va vn vc) p → M ≤ p.block ∧ p.block < T := fun p hp => ⟨hi'.ge p hp, hi'.lt p hp⟩
      refine ⟨rfl, ⟨hi2, (hr2.wrote hw (fun p hp => .inr (hs p hp).1)).rows⟩, fun p => In (.slice va vn vc) p ∨ S2 p, (hw2.mono (fun p => Or.inr)).trans (hw.mono (fun p => Or.inl)), fun p hp => ?_⟩
      rcases hp with hp | hp
      · have := hs p hp; omega
      · have := hs2 p hp; omega)
  clear ho hB hT
  go_enter Try.func31, Try.ntmps31
  go_wp2_with fail
  refine (K.out _ (below_al (Below.refl _ _) _)).mono ?_
  rintro e w' ⟨rfl, hi, hcall⟩
  have HC := Lib.hid hcall
  obtain ⟨S1, hw1, hs1⟩ := hi
  obtain ⟨c0, c1, c2, c4⟩ := three_cells ((Blk.new w 43 #[.int .i64 x, .slice ua un uc, .slice va vn vc]).wrote hw1 (fun p hp => by have := hs1 p hp; omega))
  clear hw1 hs1 hcall K
  go_wp2_with fail
  refine HC.out.mono ?_
  rintro e w'' ⟨rfl, hg, S, hw, hs⟩
  have HG := Lib.hid hg
  have HW := Lib.hid hw
  have HS := Lib.hid hs
  clear hg hw hs HC
  go_wp2_with fail
  go_ret
  exact ⟨rfl, HG.out, S, _, below_al (Below.refl _ _) _, HW.out, HS.out⟩



set_option maxHeartbeats 1000000 in
theorem held_any (x : Int) (u : Value) (xss : List (List Int)) (v : Value) (n : Nat) (k0 : Int) (w : World) (h : SM w v n k0 u xss) (hn : n ≤ 1048576) (hm : total xss ≤ 1048576) (h0 : 0 ≤ k0) (h1 : k0 ≤ 4194304) :
    Calls Try.prog 32 #[.agg #[.int .i64 x, u, v], .int .i64 k0] w fun e w' => e = .returned (.int .i64 (k0 + before xss xss.length + n)) ∧ Below w.heap.size w w' := by
  obtain ⟨va, vn, vc, hv⟩ := h.ints.shape
  subst hv
  obtain ⟨ua, un, uc, hu⟩ := h.rows.shape
  subst hu
  have H := Lib.hid h
  clear h
  have hbl := rws.before_le xss xss.length
  have hg1 : ¬ k0 + (before xss xss.length : Int) < 0 := by omega
  have hg : ¬ k0 + (before xss xss.length : Int) + (n : Int) < 0 := by omega
  go_enter Try.func32, Try.ntmps32
  go_wp2_with fail
  refine (rws.held_any _ xss k0 _ (H.out.rows.below (below_al (Below.refl _ _) _)) hm (by omega) (by omega)).mono ?_
  rintro e w' ⟨rfl, rfl⟩
  go_wp2_with fail
  refine (ints.held_any _ n (k0 + before xss xss.length) _ (H.out.ints.below (below_al (Below.refl _ _) _)) hn (by omega) (by omega)).mono ?_
  rintro e w' ⟨rfl, rfl⟩
  go_wp2_with fail
  go_ret
  exact ⟨rfl, below_al (Below.refl _ _) _⟩



set_option maxHeartbeats 1000000 in
theorem eq_same (x : Int) (u u' : Value) (xss : List (List Int)) (v v' : Value) (ws : List Int) (w : World) (h : GV w v ws u xss) (h' : GV w v' ws u' xss) (hn : ws.length ≤ 1048576) (hm : total xss ≤ 1048576) :
    Calls Try.prog 30 #[.agg #[.int .i64 x, u, v], .agg #[.int .i64 x, u', v']] w fun e w' => e = .returned (.bool true) ∧ Below w.heap.size w w' := by
  obtain ⟨va, vn, vc, ua, un, uc, rfl, rfl⟩ := h.shape
  obtain ⟨va', vn', vc', ua', un', uc', rfl, rfl⟩ := h'.shape
  have H := Lib.hid h
  have H' := Lib.hid h'
  clear h h'
  have HQ : Hid (∀ W : World, (∀ a u, w.cell? a = some u → W.cell? a = some u) → Calls Try.prog 45 #[.slice va vn vc, .slice va' vn' vc'] W fun e w' => e = .returned (.bool true) ∧ ∃ q, w' = W.drewN q) := Lib.hid (fun W hW => by
    have := ints.eq_any _ _ ws ws W (H.out.ints.keep hW) (H'.out.ints.keep hW) hn
    rw [decide_eq_true rfl] at this
    exact this)
  have HR : Hid (∀ W : World, (∀ a u, w.cell? a = some u → W.cell? a = some u) → Calls Try.prog 42 #[.slice ua un uc, .slice ua' un' uc'] W fun e w' => e = .returned (.bool true) ∧ ∃ q, w' = W.drewN q) := Lib.hid (fun W hW => by
    have := rws.eq_any _ _ xss xss W (H.out.rows.keep hW) (H'.out.rows.keep hW) hm
    rw [decide_eq_true rfl] at this
    exact this)
  have HB : Hid (∀ o o', Below w.heap.size w ((w.alloc o).alloc o')) := Lib.hid (fun o o' => below_al (below_al (Below.refl _ _) o) o')
  go_enter Try.func30, Try.ntmps30
  go_wp2_with fail
  refine (HR.out _ (below_cell (HB.out _ _))).mono ?_
  rintro e w' ⟨rfl, q, rfl⟩
  go_wp2_with fail
  refine (HQ.out _ (below_cell (below_drewN (HB.out _ _) q))).mono ?_
  rintro e w' ⟨rfl, q', rfl⟩
  go_wp2_with fail
  go_ret
  exact ⟨rfl, below_drewN (HB.out _ _) (q + q')⟩


end Go.Proofs.Ytiigfhigmdjooaa.scene
