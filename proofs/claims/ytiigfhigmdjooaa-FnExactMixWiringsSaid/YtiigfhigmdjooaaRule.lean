/- Contracts of the laws' own helpers over Rules: toRule, szRule, eqRule, markRule, heldRule. -/
import Derived.Test.YtiigfhigmdjooaaRws
import Derived.Test.YtiigfhigmdjooaaThree
import Derived.Deep.RegionHeld3
namespace Go.Proofs.Ytiigfhigmdjooaa.rule
open Go.RowKit Go.Deep Go.Proofs.Ytiigfhigmdjooaa.base
open Go.Proofs.Ytiigfhigmdjooaa.ints (infoInts ret_int ret_no ret_yes)
open Go.Proofs.Ytiigfhigmdjooaa.rws (total before markss)
open Go.Proofs.Ytiigfhigmdjooaa.scene (three_cells held3c held6c bcell)

/-- what a Rule's three slices read as -/
structure RV (w : World) (sv : Value) (ss : List Int) (u : Value) (xss : List (List Int)) (nv : Value) (yss : List (List Int)) : Prop where
  ints : Ints w sv ss
  rows : IRows w u xss
  rows2 : IRows w nv yss
section
variable {w w' : World} {sv u nv : Value} {ss : List Int} {xss : List (List Int)} {yss : List (List Int)} {B T : Nat}
theorem RV.below (h : RV w sv ss u xss nv yss) (hb : Below w.heap.size w w') : RV w' sv ss u xss nv yss := ⟨h.ints.below hb, h.rows.below hb, h.rows2.below hb⟩
theorem RV.keep (h : RV w sv ss u xss nv yss) (hk : ∀ a u, w.cell? a = some u → w'.cell? a = some u) : RV w' sv ss u xss nv yss := ⟨h.ints.keep hk, h.rows.keep hk, h.rows2.keep hk⟩
theorem RV.shape (h : RV w sv ss u xss nv yss) : ∃ a n c a' n' c' a2 n2 c2, sv = .slice a n c ∧ u = .slice a' n' c' ∧ nv = .slice a2 n2 c2 := by
  obtain ⟨a, n, c, h1⟩ := h.ints.shape
  obtain ⟨a', n', c', h2⟩ := h.rows.shape
  obtain ⟨a2, n2, c2, h3⟩ := h.rows2.shape
  exact ⟨a, n, c, a', n', c', a2, n2, c2, h1, h2, h3⟩
/-- a Rule's memory of the call's own: the three slices apart -/
def OR (w : World) (B T : Nat) (sv : Value) (ss : List Int) (u : Value) (xss : List (List Int)) (nv : Value) (yss : List (List Int)) : Prop :=
  ∃ B1 T1 B2 T2 B3 T3, OwnInts w B1 T1 sv ss ∧ OwnRows w B2 T2 u xss ∧ OwnRows w B3 T3 nv yss ∧ (B ≤ B1 ∧ T1 ≤ T ∧ B ≤ B2 ∧ T2 ≤ T ∧ B ≤ B3 ∧ T3 ≤ T) ∧ (T1 ≤ B2 ∨ T2 ≤ B1) ∧ (T1 ≤ B3 ∨ T3 ≤ B1) ∧ (T2 ≤ B3 ∨ T3 ≤ B2)
theorem OR.view (h : OR w B T sv ss u xss nv yss) : RV w sv ss u xss nv yss := by
  obtain ⟨_, _, _, _, _, _, h1, h2, h3, _⟩ := h
  exact ⟨h1.ints, h2.rows, h3.rows⟩
theorem OR.keep (h : OR w B T sv ss u xss nv yss) (hb : Below w.heap.size w w') : OR w' B T sv ss u xss nv yss := by
  obtain ⟨B1, T1, B2, T2, B3, T3, h1, h2, h3, h4⟩ := h
  exact ⟨B1, T1, B2, T2, B3, T3, h1.keep hb, h2.keep hb, h3.keep hb, h4⟩
theorem OR.mono {B' T' : Nat} (h : OR w B T sv ss u xss nv yss) (hB : B' ≤ B) (hT : T ≤ T') : OR w B' T' sv ss u xss nv yss := by
  obtain ⟨B1, T1, B2, T2, B3, T3, h1, h2, h3, h4, h5⟩ := h
  exact ⟨B1, T1, B2, T2, B3, T3, h1, h2, h3, by omega, h5⟩
theorem OR.wrote {S : Addr → Prop} (h : OR w B T sv ss u xss nv yss) (hw : Wrote S w w') (hs : ∀ p, S p → p.block < B ∨ T ≤ p.block) : OR w' B T sv ss u xss nv yss := by
  obtain ⟨B1, T1, B2, T2, B3, T3, h1, h2, h3, h4, h5⟩ := h
  exact ⟨B1, T1, B2, T2, B3, T3, h1.wrote hw (fun p hp => by have := hs p hp; omega), h2.wrote hw (fun p hp => by have := hs p hp; omega), h3.wrote hw (fun p hp => by have := hs p hp; omega), h4, h5⟩
theorem OR.nil (w : World) (B T : Nat) (h : B ≤ T) : OR w B T (.slice none 0 0) [] (.slice none 0 0) [] (.slice none 0 0) [] :=
  ⟨B, B, B, B, B, B, OwnInts.nil _ _ _, OwnRows.nil _ _ _, OwnRows.nil _ _ _, by omega, by omega, by omega, by omega⟩
end

/-- the three blocks of toRule -/
structure St (w wr : World) (A C : Array Value) : Prop where
  p : Blk wr w.heap.size 86 A
  r : Blk wr (w.heap.size + 1) 88 #[.slice none 0 0, .slice none 0 0, .slice none 0 0]
  o : Blk wr (w.heap.size + 1 + 1) 88 C
  below : Below w.heap.size w wr
  top : w.heap.size + 1 + 1 + 1 ≤ wr.heap.size
theorem St.keep {w wr w2 : World} {A C : Array Value} (h : St w wr A C) (hb : Below wr.heap.size wr w2) : St w w2 A C :=
  ⟨h.p.below hb, h.r.below hb, h.o.below hb, below_tr h.below hb, Nat.le_trans h.top hb.size⟩
theorem St.wr {w wr : World} {i : Nat} (x : Value) : Wrote (fun p => p.block = w.heap.size + 1 + 1) wr (wr.setCell ⟨w.heap.size + 1 + 1, i, none⟩ x) :=
  (Wrote.refl (fun p : Addr => p.block = w.heap.size + 1 + 1) wr).setCell (p := (⟨w.heap.size + 1 + 1, i, none⟩ : Addr)) rfl x
theorem St.set {w wr : World} {A C : Array Value} (h : St w wr A C) (i : Nat) (x : Value) : St w (wr.setCell ⟨w.heap.size + 1 + 1, i, none⟩ x) A (C.setIfInBounds i x) :=
  ⟨h.p.wrote (St.wr x) (fun p hp => by have : p.block = w.heap.size + 1 + 1 := hp; omega), h.r.wrote (St.wr x) (fun p hp => by have : p.block = w.heap.size + 1 + 1 := hp; omega),
    Joins.block_setCell (i := i) h.o x, h.below.setCell (show w.heap.size ≤ (⟨w.heap.size + 1 + 1, i, none⟩ : Addr).block by simp; omega) x, by simp [World.setCell]; exact h.top⟩


set_option maxRecDepth 100000 in
set_option maxHeartbeats 1000000 in
theorem to_any (sv : Value) (ss : List Int) (u : Value) (xss : List (List Int)) (nv : Value) (yss : List (List Int)) (w : World) (h : RV w sv ss u xss nv yss) (hn : ss.length ≤ 1048576) (hm : total xss ≤ 1048576) (hk : total yss ≤ 1048576) :
    Calls Try.prog 72 #[.agg #[sv, u, nv]] w fun e w' => ∃ sv' u' nv', e = .returned (.agg #[sv', u', nv']) ∧ OR w' w.heap.size w'.heap.size sv' ss u' xss nv' yss ∧ Below w.heap.size w w' := by
  obtain ⟨va, vn, vc, ua, un, uc, na, nn, nc, rfl, rfl, rfl⟩ := h.shape
  have H := Lib.hid h
  clear h
  have HN := Lib.hid hn
  have HM := Lib.hid hm
  have HK := Lib.hid hk
  clear hn hm hk
  have K0 : Hid (St w (((w.alloc (.cells #[.slice va vn vc, .slice ua un uc, .slice na nn nc] 86)).alloc (.cells #[.slice none 0 0, .slice none 0 0, .slice none 0 0] 88)).alloc (.cells #[.slice none 0 0, .slice none 0 0, .slice none 0 0] 88)) #[.slice va vn vc, .slice ua un uc, .slice na nn nc] #[.slice none 0 0, .slice none 0 0, .slice none 0 0]) := Lib.hid (by
    refine ⟨((Blk.new _ _ _).alloc _).alloc _, ?_, ?_, below_al (below_al (below_al (Below.refl _ _) _) _) _, by simp⟩
    · have := (Blk.new (w.alloc (.cells #[.slice va vn vc, .slice ua un uc, .slice na nn nc] 86)) 88 #[.slice none 0 0, .slice none 0 0, .slice none 0 0]).alloc (.cells #[.slice none 0 0, .slice none 0 0, .slice none 0 0] 88)
      simpa using this
    · have := Blk.new ((w.alloc (.cells #[.slice va vn vc, .slice ua un uc, .slice na nn nc] 86)).alloc (.cells #[.slice none 0 0, .slice none 0 0, .slice none 0 0] 88)) 88 #[.slice none 0 0, .slice none 0 0, .slice none 0 0]
      simpa using this)
  go_enter Try.func72, Try.ntmps72
  go_wp2_with fail
  refine (ints.to_any _ ss _ (H.out.ints.below K0.out.below) HN.out).mono ?_
  rintro e w1 ⟨s1, rfl, hs, hb⟩
  obtain ⟨sa, sl, sc, rfl⟩ := hs.ints.shape
  have K1 := Lib.hid (K0.out.keep hb)
  have T1 := Lib.hid K0.out.top
  have HS := Lib.hid hs
  obtain ⟨p0, p1, p2, p3⟩ := three_cells K1.out.p
  obtain ⟨o0, o1, o2, o3⟩ := three_cells K1.out.o
  have of : ∀ q, w1.frozen? ⟨w.heap.size + 1 + 1, q, none⟩ = false := fun q => Joins.unfrozen_of_block K1.out.o q
  have L1 := Lib.hid (K1.out.set 0 (.slice sa sl sc))
  clear hs hb K0
  go_wp2_with fail
  refine (rws.to_any _ xss _ (H.out.rows.below L1.out.below) HM.out).mono ?_
  rintro e w2 ⟨u2, rfl, hu, hb⟩
  obtain ⟨xa, xl, xc, rfl⟩ := hu.rows.shape
  have K2 := Lib.hid (L1.out.keep hb)
  have Z1 := Lib.hid (show (w1.setCell ⟨w.heap.size + 1 + 1, 0, none⟩ (.slice sa sl sc)).heap.size = w1.heap.size by simp [World.setCell])
  have HS2 := Lib.hid ((HS.out.wrote (St.wr (i := 0) (.slice sa sl sc)) (fun p hp => .inl (by have e : p.block = w.heap.size + 1 + 1 := hp; have := T1.out; omega))).keep hb)
  have HU := Lib.hid hu
  have T2 := Lib.hid hb.size
  clear p0 p1 p2 p3 o0 o1 o2 o3 of
  obtain ⟨p0, p1, p2, p3⟩ := three_cells K2.out.p
  obtain ⟨o0, o1, o2, o3⟩ := three_cells K2.out.o
  have of : ∀ q, w2.frozen? ⟨w.heap.size + 1 + 1, q, none⟩ = false := fun q => Joins.unfrozen_of_block K2.out.o q
  have L2 := Lib.hid (K2.out.set 1 (.slice xa xl xc))
  clear hu hb
  go_wp2_with fail
  refine (rws.to_any _ yss _ (H.out.rows2.below L2.out.below) HK.out).mono ?_
  rintro e w3 ⟨n3, rfl, hp, hb⟩
  obtain ⟨ya, yl, yc, rfl⟩ := hp.rows.shape
  have K3 := Lib.hid (L2.out.keep hb)
  have Z2 := Lib.hid (show (w2.setCell ⟨w.heap.size + 1 + 1, 1, none⟩ (.slice xa xl xc)).heap.size = w2.heap.size by simp [World.setCell])
  have HS3 := Lib.hid ((HS2.out.wrote (St.wr (i := 1) (.slice xa xl xc)) (fun p hp => .inl (by have e : p.block = w.heap.size + 1 + 1 := hp; have := T1.out; omega))).keep hb)
  have HU3 := Lib.hid ((HU.out.wrote (St.wr (i := 1) (.slice xa xl xc)) (fun p hp => .inl (by have e : p.block = w.heap.size + 1 + 1 := hp; have := L1.out.top; omega))).keep hb)
  have HP := Lib.hid hp
  have T3 := Lib.hid hb.size
  clear p0 p1 p2 p3 o0 o1 o2 o3 of
  obtain ⟨o0, o1, o2, o3⟩ := three_cells K3.out.o
  obtain ⟨r0, r1, r2, r3⟩ := three_cells K3.out.r
  have of : ∀ q, w3.frozen? ⟨w.heap.size + 1 + 1, q, none⟩ = false := fun q => Joins.unfrozen_of_block K3.out.o q
  have rf : ∀ q, w3.frozen? ⟨w.heap.size + 1, q, none⟩ = false := fun q => Joins.unfrozen_of_block K3.out.r q
  clear hp hb
  go_wp2_with fail
  refine bodyPost_ret (v := .agg #[.slice sa sl sc, .slice xa xl xc, .slice ya yl yc]) (by simp [results, Try.results72, go_sem, r0, r1, r2]) rfl ⟨_, _, _, rfl, ?_, ?_⟩
  · have hS := HS3.out
    have hU := HU3.out
    have hP := HP.out
    have t1 := T1.out
    have t2 := T2.out
    have t3 := T3.out
    have z1 := Z1.out
    have z2 := Z2.out
    have sz3 : (w3.setCell ⟨w.heap.size + 1 + 1, 2, none⟩ (.slice ya yl yc)).heap.size = w3.heap.size := by simp [World.setCell]
    have l1 := L1.out.top
    refine ⟨w.heap.size, w1.heap.size, w1.heap.size, w2.heap.size, w2.heap.size, w3.heap.size, ?_, ?_, ?_, ⟨Nat.le_refl _, by simp [World.setCell]; omega, by omega, by simp [World.setCell]; omega, by omega, by simp [World.setCell]⟩, .inl (Nat.le_refl _), .inl (by omega), .inl (Nat.le_refl _)⟩
    · refine (hS.wrote (S := fun p => p.block < w.heap.size + 1 + 1 + 1) ?_ (fun p hp => .inl (by have e : p.block < w.heap.size + 1 + 1 + 1 := hp; omega))).mono (by omega) (Nat.le_refl _)
      repeat (first | exact Wrote.refl _ _ | refine Wrote.setCell ?_ (by simp) _)
    · refine (hU.wrote (S := fun p => p.block < w.heap.size + 1 + 1 + 1) ?_ (fun p hp => .inl (by have e : p.block < w.heap.size + 1 + 1 + 1 := hp; have := L1.out.top; omega))).mono (by omega) (by omega)
      repeat (first | exact Wrote.refl _ _ | refine Wrote.setCell ?_ (by simp) _)
    · refine (hP.wrote (S := fun p => p.block < w.heap.size + 1 + 1 + 1) ?_ (fun p hp => .inl (by have e : p.block < w.heap.size + 1 + 1 + 1 := hp; have := L2.out.top; omega))).mono (by omega) (by simp)
      repeat (first | exact Wrote.refl _ _ | refine Wrote.setCell ?_ (by simp) _)
  · repeat (first | (with_reducible exact K3.out.below) | refine Below.setCell ?_ (by simp <;> omega) _)


/-- what szRule leaves -/
def sz (ss : List Int) (xss yss : List (List Int)) (left : Int) : Int :=
  if left < ss.length then -1 else if rws.sz xss (left - ss.length) < 0 then -1 else if rws.sz yss (rws.sz xss (left - ss.length)) < 0 then -1 else rws.sz yss (rws.sz xss (left - ss.length))
theorem sz_bound {ss : List Int} {xss yss : List (List Int)} {l : Int} (h : ¬ sz ss xss yss l < 0) : (ss.length : Int) ≤ l ∧ (total xss : Int) ≤ l ∧ (total yss : Int) ≤ l ∧ sz ss xss yss l ≤ l := by
  unfold sz at h ⊢
  by_cases g : l < ss.length
  · rw [if_pos g] at h; omega
  · rw [if_neg g] at h ⊢
    by_cases g1 : rws.sz xss (l - ss.length) < 0
    · rw [if_pos g1] at h; omega
    · rw [if_neg g1] at h ⊢
      have := rws.sz_bound g1
      by_cases g2 : rws.sz yss (rws.sz xss (l - ss.length)) < 0
      · rw [if_pos g2] at h; omega
      · rw [if_neg g2]
        have := rws.sz_bound g2
        omega


set_option maxRecDepth 100000 in
set_option maxHeartbeats 1000000 in
theorem sz_any (sv : Value) (ss : List Int) (u : Value) (xss : List (List Int)) (nv : Value) (yss : List (List Int)) (left : Int) (w : World) (h : RV w sv ss u xss nv yss) (h0 : 0 ≤ left) (h1 : left ≤ 1048576) :
    Calls Try.prog 67 #[.agg #[sv, u, nv], .int .i64 left] w fun e w' => e = .returned (.int .i64 (sz ss xss yss left)) ∧ Below w.heap.size w w' := by
  obtain ⟨A, cap, rfl, hcap, hmax⟩ : ∃ A c, sv = .slice A ss.length c ∧ ss.length ≤ c ∧ c ≤ maxLen := by obtain ⟨A, c, hv, h1, h2, _⟩ := h.ints; rw [len_i64s] at hv h1; exact ⟨A, c, hv, h1, h2⟩
  obtain ⟨na, nn, nc, rfl⟩ := h.rows2.shape
  obtain ⟨ua, un, uc, rfl⟩ := h.rows.shape
  have HI := Lib.hid (fun W => ints.sz_any A ss.length cap left W (Nat.le_trans hcap hmax) (by omega) h1)
  by_cases g : left < ss.length
  · have HS : Hid (sz ss xss yss left = -1) := Lib.hid (by unfold sz; rw [if_pos g])
    have HJ : Hid (∀ W, Calls Try.prog 76 #[.slice A ss.length cap, .int .i64 left] W fun e w' => e = .returned (.int .i64 (-1)) ∧ W = w') := Lib.hid (fun W => by have := HI.out W; rw [if_pos g] at this; exact this)
    clear h hcap hmax g HI h0 h1
    go_enter Try.func67, Try.ntmps67
    go_wp2_with fail
    refine (HJ.out _).mono ?_
    rintro e w' ⟨rfl, rfl⟩
    go_wp2_with fail
    go_ret
    exact ⟨ret_int HS.out.symm, below_al (Below.refl _ _) _⟩
  · obtain ⟨l, hl⟩ : ∃ l : Int, left - (ss.length : Int) = l := ⟨_, rfl⟩
    have l0 : ¬ l < 0 := by omega
    have HJ : Hid (∀ W, Calls Try.prog 76 #[.slice A ss.length cap, .int .i64 left] W fun e w' => e = .returned (.int .i64 l) ∧ W = w') := Lib.hid (fun W => by have := HI.out W; rw [if_neg g, hl] at this; exact this)
    obtain ⟨m, hm⟩ : ∃ m : Int, rws.sz xss l = m := ⟨_, rfl⟩
    have HR : Hid (∀ o, Calls Try.prog 38 #[.slice ua un uc, .int .i64 l] (w.alloc o) fun e w' => e = .returned (.int .i64 m) ∧ w.alloc o = w') := Lib.hid (fun o => by
      have := rws.sz_any _ xss l _ (h.rows.below (below_al (Below.refl _ _) o)) (by omega) (by omega); rw [hm] at this; exact this)
    by_cases hlt : m < 0
    · have HS : Hid (sz ss xss yss left = -1) := Lib.hid (by unfold sz; rw [if_neg g, hl, hm, if_pos hlt])
      clear h hcap hmax g HI h0 h1 hl hm
      go_enter Try.func67, Try.ntmps67
      go_wp2_with fail
      refine (HJ.out _).mono ?_
      rintro e w' ⟨rfl, rfl⟩
      go_wp2_with fail
      refine (HR.out _).mono ?_
      rintro e w' ⟨rfl, rfl⟩
      go_wp2_with fail
      go_ret
      exact ⟨ret_int HS.out.symm, below_al (Below.refl _ _) _⟩
    · have hm1 : m ≤ 1048576 := by have := rws.sz_bound (xss := xss) (l := left) ; have := rws.sz_bound (xss := xss) (l := l) (by rw [hm]; exact hlt); omega
      obtain ⟨q, hq⟩ : ∃ q : Int, rws.sz yss m = q := ⟨_, rfl⟩
      have HQ : Hid (∀ o, Calls Try.prog 38 #[.slice na nn nc, .int .i64 m] (w.alloc o) fun e w' => e = .returned (.int .i64 q) ∧ w.alloc o = w') := Lib.hid (fun o => by
        have := rws.sz_any _ yss m _ (h.rows2.below (below_al (Below.refl _ _) o)) (by omega) (by omega); rw [hq] at this; exact this)
      by_cases g2 : q < 0
      · have HS : Hid (sz ss xss yss left = -1) := Lib.hid (by unfold sz; rw [if_neg g, hl, hm, if_neg hlt, hq, if_pos g2])
        clear h hcap hmax g HI h0 h1 hl hm hm1 hq
        go_enter Try.func67, Try.ntmps67
        go_wp2_with fail
        refine (HJ.out _).mono ?_
        rintro e w' ⟨rfl, rfl⟩
        go_wp2_with fail
        refine (HR.out _).mono ?_
        rintro e w' ⟨rfl, rfl⟩
        go_wp2_with fail
        refine (HQ.out _).mono ?_
        rintro e w' ⟨rfl, rfl⟩
        go_wp2_with fail
        go_ret
        exact ⟨ret_int HS.out.symm, below_al (Below.refl _ _) _⟩
      · have HS : Hid (sz ss xss yss left = q) := Lib.hid (by unfold sz; rw [if_neg g, hl, hm, if_neg hlt, hq, if_neg g2])
        clear h hcap hmax g HI h0 h1 hl hm hm1 hq
        go_enter Try.func67, Try.ntmps67
        go_wp2_with fail
        refine (HJ.out _).mono ?_
        rintro e w' ⟨rfl, rfl⟩
        go_wp2_with fail
        refine (HR.out _).mono ?_
        rintro e w' ⟨rfl, rfl⟩
        go_wp2_with fail
        refine (HQ.out _).mono ?_
        rintro e w' ⟨rfl, rfl⟩
        go_wp2_with fail
        go_ret
        exact ⟨ret_int HS.out.symm, below_al (Below.refl _ _) _⟩



set_option maxRecDepth 100000 in
set_option maxHeartbeats 1000000 in
theorem eq_same (sv sv' : Value) (ss : List Int) (u u' : Value) (xss : List (List Int)) (nv nv' : Value) (yss : List (List Int)) (w : World) (h : RV w sv ss u xss nv yss) (h' : RV w sv' ss u' xss nv' yss) (hn : ss.length ≤ 1048576) (hm : total xss ≤ 1048576) (hk : total yss ≤ 1048576) :
    Calls Try.prog 75 #[.agg #[sv, u, nv], .agg #[sv', u', nv']] w fun e w' => e = .returned (.bool true) ∧ Below w.heap.size w w' := by
  obtain ⟨va, vn, vc, ua, un, uc, na, nn, nc, rfl, rfl, rfl⟩ := h.shape
  obtain ⟨va', vn', vc', ua', un', uc', na', nn', nc', rfl, rfl, rfl⟩ := h'.shape
  have H := Lib.hid h
  have H' := Lib.hid h'
  clear h h'
  have HQ : Hid (∀ W : World, Below w.heap.size w W → Calls Try.prog 45 #[.slice va vn vc, .slice va' vn' vc'] W fun e w' => e = .returned (.bool true) ∧ ∃ q, w' = W.drewN q) := Lib.hid (fun W hW => by
    have := ints.eq_any _ _ ss ss W (H.out.ints.below hW) (H'.out.ints.below hW) hn
    rw [decide_eq_true rfl] at this
    exact this)
  have HR : Hid (∀ W : World, Below w.heap.size w W → Calls Try.prog 42 #[.slice ua un uc, .slice ua' un' uc'] W fun e w' => e = .returned (.bool true) ∧ ∃ q, w' = W.drewN q) := Lib.hid (fun W hW => by
    have := rws.eq_any _ _ xss xss W (H.out.rows.below hW) (H'.out.rows.below hW) hm
    rw [decide_eq_true rfl] at this
    exact this)
  have HP : Hid (∀ W : World, Below w.heap.size w W → Calls Try.prog 42 #[.slice na nn nc, .slice na' nn' nc'] W fun e w' => e = .returned (.bool true) ∧ Below W.heap.size W w') := Lib.hid (fun W hW => rws.eq_same _ _ yss W (H.out.rows2.below hW) (H'.out.rows2.below hW) hk)
  have HB : Hid (∀ o o', Below w.heap.size w ((w.alloc o).alloc o')) := Lib.hid (fun o o' => below_al (below_al (Below.refl _ _) o) o')
  clear hn hm hk
  go_enter Try.func75, Try.ntmps75
  go_wp2_with fail
  refine (HQ.out _ (HB.out _ _)).mono ?_
  rintro e w' ⟨rfl, q, rfl⟩
  go_wp2_with fail
  refine (HR.out _ (below_drewN (HB.out _ _) q)).mono ?_
  rintro e w' ⟨rfl, q', rfl⟩
  go_wp2_with fail
  refine (HP.out _ (below_drewN (HB.out _ _) _)).mono ?_
  rintro e w' ⟨rfl, hb⟩
  have HBB := Lib.hid (below_tr (below_drewN (HB.out _ _) _) hb)
  clear hb
  go_wp2_with fail
  go_ret
  exact ⟨rfl, HBB.out⟩


/-- a marked Rule -/
structure RM (w : World) (sv : Value) (n : Nat) (k0 : Int) (u : Value) (xss : List (List Int)) (nv : Value) (yss : List (List Int)) : Prop where
  ints : Ints w sv (marks k0 n)
  rows : IRows w u (markss (k0 + n) xss)
  rows2 : IRows w nv (markss (k0 + n + before xss xss.length) yss)
theorem RM.below {w w' : World} {sv u nv : Value} {n : Nat} {k0 : Int} {xss yss : List (List Int)} (h : RM w sv n k0 u xss nv yss) (hb : Below w.heap.size w w') : RM w' sv n k0 u xss nv yss := ⟨h.ints.below hb, h.rows.below hb, h.rows2.below hb⟩





end Go.Proofs.Ytiigfhigmdjooaa.rule
