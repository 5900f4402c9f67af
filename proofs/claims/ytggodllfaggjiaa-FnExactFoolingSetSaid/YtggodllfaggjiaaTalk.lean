/- Contracts of the laws' own helpers over Talks: toTalk, szTalk, eqTalk, markTalk. -/
import Derived.Test.YtggodllfaggjiaaPrt
import Derived.Test.YtggodllfaggjiaaThree
import Derived.Deep.RegionHeld3
namespace Go.Proofs.Ytggodllfaggjiaa.talk
open Go.RowKit Go.Deep Go.Proofs.Ytggodllfaggjiaa.base
open Go.Proofs.Ytggodllfaggjiaa.ints (infoInts ret_int ret_no ret_yes)
open Go.Proofs.Ytggodllfaggjiaa.rws (total before markss)
open Go.Proofs.Ytggodllfaggjiaa.prs Go.Proofs.Ytggodllfaggjiaa.prt
open Go.Proofs.Ytggodllfaggjiaa.scene (three_cells held3c held6c bcell)

/-- what a Talk's three slices read as -/
structure TV (w : World) (sv : Value) (ss : List Int) (u : Value) (xss : List (List Int)) (nv : Value) (ps : List (Int × Int)) : Prop where
  ints : Ints w sv ss
  rows : IRows w u xss
  prs : Pairs w nv ps
section
variable {w w' : World} {sv u nv : Value} {ss : List Int} {xss : List (List Int)} {ps : List (Int × Int)} {B T : Nat}
theorem TV.below (h : TV w sv ss u xss nv ps) (hb : Below w.heap.size w w') : TV w' sv ss u xss nv ps := ⟨h.ints.below hb, h.rows.below hb, h.prs.below hb⟩
theorem TV.keep (h : TV w sv ss u xss nv ps) (hk : ∀ a u, w.cell? a = some u → w'.cell? a = some u) : TV w' sv ss u xss nv ps := ⟨h.ints.keep hk, h.rows.keep hk, h.prs.keep hk⟩
theorem TV.shape (h : TV w sv ss u xss nv ps) : ∃ a n c a' n' c' a2 n2 c2, sv = .slice a n c ∧ u = .slice a' n' c' ∧ nv = .slice a2 n2 c2 := by
  obtain ⟨a, n, c, h1⟩ := h.ints.shape
  obtain ⟨a', n', c', h2⟩ := h.rows.shape
  obtain ⟨a2, n2, c2, h3⟩ := h.prs.shape
  exact ⟨a, n, c, a', n', c', a2, n2, c2, h1, h2, h3⟩
/-- a Talk's memory of the call's own, the three slices one behind another -/
def OT (w : World) (B T : Nat) (sv : Value) (ss : List Int) (u : Value) (xss : List (List Int)) (nv : Value) (ps : List (Int × Int)) : Prop :=
  ∃ M1 M2, B ≤ M1 ∧ M1 ≤ M2 ∧ M2 ≤ T ∧ OwnInts w B M1 sv ss ∧ OwnRows w M1 M2 u xss ∧ OwnPairs w M2 T nv ps
theorem OT.view (h : OT w B T sv ss u xss nv ps) : TV w sv ss u xss nv ps := by
  obtain ⟨M1, M2, _, _, _, h1, h2, h3⟩ := h
  exact ⟨h1.ints, h2.rows, h3.pairs⟩
theorem OT.keep (h : OT w B T sv ss u xss nv ps) (hb : Below w.heap.size w w') : OT w' B T sv ss u xss nv ps := by
  obtain ⟨M1, M2, a, b, c, h1, h2, h3⟩ := h
  exact ⟨M1, M2, a, b, c, h1.keep hb, h2.keep hb, h3.keep hb⟩
theorem OT.mono {B' T' : Nat} (h : OT w B T sv ss u xss nv ps) (hB : B' ≤ B) (hT : T ≤ T') : OT w B' T' sv ss u xss nv ps := by
  obtain ⟨M1, M2, a, b, c, h1, h2, h3⟩ := h
  exact ⟨M1, M2, by omega, b, by omega, h1.mono hB (Nat.le_refl _), h2, h3.mono (Nat.le_refl _) hT⟩
theorem OT.wrote {S : Addr → Prop} (h : OT w B T sv ss u xss nv ps) (hw : Wrote S w w') (hs : ∀ p, S p → p.block < B ∨ T ≤ p.block) : OT w' B T sv ss u xss nv ps := by
  obtain ⟨M1, M2, a, b, c, h1, h2, h3⟩ := h
  exact ⟨M1, M2, a, b, c, h1.wrote hw (fun p hp => by have := hs p hp; omega), h2.wrote hw (fun p hp => by have := hs p hp; omega), h3.wrote hw (fun p hp => by have := hs p hp; omega)⟩
end

/-- the three blocks of toTalk -/
structure St (w wr : World) (A C : Array Value) : Prop where
  p : Blk wr w.heap.size 30 A
  r : Blk wr (w.heap.size + 1) 34 #[.slice none 0 0, .slice none 0 0, .slice none 0 0]
  o : Blk wr (w.heap.size + 1 + 1) 34 C
  below : Below w.heap.size w wr
  top : w.heap.size + 1 + 1 + 1 ≤ wr.heap.size
theorem St.keep {w wr w2 : World} {A C : Array Value} (h : St w wr A C) (hb : Below wr.heap.size wr w2) : St w w2 A C :=
  ⟨h.p.below hb, h.r.below hb, h.o.below hb, below_tr h.below hb, Nat.le_trans h.top hb.size⟩
theorem St.wr {w wr : World} {i : Nat} (x : Value) : Wrote (fun p => p.block = w.heap.size + 1 + 1) wr (wr.setCell ⟨w.heap.size + 1 + 1, i, none⟩ x) :=
  (Wrote.refl (fun p : Addr => p.block = w.heap.size + 1 + 1) wr).setCell (p := (⟨w.heap.size + 1 + 1, i, none⟩ : Addr)) rfl x
theorem St.set {w wr : World} {A C : Array Value} (h : St w wr A C) (i : Nat) (x : Value) : St w (wr.setCell ⟨w.heap.size + 1 + 1, i, none⟩ x) A (C.setIfInBounds i x) :=
  ⟨h.p.wrote (St.wr x) (fun p hp => by have : p.block = w.heap.size + 1 + 1 := hp; omega), h.r.wrote (St.wr x) (fun p hp => by have : p.block = w.heap.size + 1 + 1 := hp; omega),
    Joins.block_setCell (i := i) h.o x, h.below.setCell (show w.heap.size ≤ (⟨w.heap.size + 1 + 1, i, none⟩ : Addr).block by simp; omega) x, by simp [World.setCell]; exact h.top⟩


set_option maxRecDepth 100000 in
set_option maxHeartbeats 1000000 in
theorem to_any (sv : Value) (ss : List Int) (u : Value) (xss : List (List Int)) (nv : Value) (ps : List (Int × Int)) (w : World) (h : TV w sv ss u xss nv ps) (hn : ss.length ≤ 1048576) (hm : total xss ≤ 1048576) (hk : ps.length ≤ 1048576) :
    Calls Try.prog 21 #[.agg #[sv, u, nv]] w fun e w' => ∃ sv' u' nv', e = .returned (.agg #[sv', u', nv']) ∧ OT w' w.heap.size w'.heap.size sv' ss u' xss nv' ps ∧ Below w.heap.size w w' := by
  obtain ⟨va, vn, vc, ua, un, uc, na, nn, nc, rfl, rfl, rfl⟩ := h.shape
  have H := Lib.hid h
  clear h
  have HN := Lib.hid hn
  have HM := Lib.hid hm
  have HK := Lib.hid hk
  clear hn hm hk
  have K0 : Hid (St w (((w.alloc (.cells #[.slice va vn vc, .slice ua un uc, .slice na nn nc] 30)).alloc (.cells #[.slice none 0 0, .slice none 0 0, .slice none 0 0] 34)).alloc (.cells #[.slice none 0 0, .slice none 0 0, .slice none 0 0] 34)) #[.slice va vn vc, .slice ua un uc, .slice na nn nc] #[.slice none 0 0, .slice none 0 0, .slice none 0 0]) := Lib.hid (by
    refine ⟨((Blk.new _ _ _).alloc _).alloc _, ?_, ?_, below_al (below_al (below_al (Below.refl _ _) _) _) _, by simp⟩
    · have := (Blk.new (w.alloc (.cells #[.slice va vn vc, .slice ua un uc, .slice na nn nc] 30)) 34 #[.slice none 0 0, .slice none 0 0, .slice none 0 0]).alloc (.cells #[.slice none 0 0, .slice none 0 0, .slice none 0 0] 34)
      simpa using this
    · have := Blk.new ((w.alloc (.cells #[.slice va vn vc, .slice ua un uc, .slice na nn nc] 30)).alloc (.cells #[.slice none 0 0, .slice none 0 0, .slice none 0 0] 34)) 34 #[.slice none 0 0, .slice none 0 0, .slice none 0 0]
      simpa using this)
  go_enter Try.func21, Try.ntmps21
  go_wp2_with fail
  refine (ints.to_any _ ss _ (H.out.ints.below K0.out.below) HN.out).mono ?_
  rintro e w1 ⟨s1, rfl, hs, hb⟩
  obtain ⟨sa, sl, sc, rfl⟩ := hs.ints.shape
  have K1 := Lib.hid (K0.out.keep hb)
  have T1 := Lib.hid K0.out.top
  have HS := Lib.hid hs
  obtain ⟨p0, p1, p2, p3⟩ := three_cells K1.out.p
  obtain ⟨o0, o1, o2, o3⟩ := three_cells K1.out.o
  have of : ∀ q, w1.frozen? ⟨w.heap.size + 1 + 1, q, none⟩ = false := fun q => Joins.unfrozen_of_block K1.out.o q
  have L1 := Lib.hid (K1.out.set 0 (.slice sa sl sc))
  clear hs hb K0
  go_wp2_with fail
  refine (rws.to_any _ xss _ (H.out.rows.below L1.out.below) HM.out).mono ?_
  rintro e w2 ⟨u2, rfl, hu, hb⟩
  obtain ⟨xa, xl, xc, rfl⟩ := hu.rows.shape
  have K2 := Lib.hid (L1.out.keep hb)
  have Z1 := Lib.hid (show (w1.setCell ⟨w.heap.size + 1 + 1, 0, none⟩ (.slice sa sl sc)).heap.size = w1.heap.size by simp [World.setCell])
  have HS2 := Lib.hid ((HS.out.wrote (St.wr (i := 0) (.slice sa sl sc)) (fun p hp => .inl (by have e : p.block = w.heap.size + 1 + 1 := hp; have := T1.out; omega))).keep hb)
  have HU := Lib.hid hu
  have T2 := Lib.hid hb.size
  clear p0 p1 p2 p3 o0 o1 o2 o3 of
  obtain ⟨p0, p1, p2, p3⟩ := three_cells K2.out.p
  obtain ⟨o0, o1, o2, o3⟩ := three_cells K2.out.o
  have of : ∀ q, w2.frozen? ⟨w.heap.size + 1 + 1, q, none⟩ = false := fun q => Joins.unfrozen_of_block K2.out.o q
  have L2 := Lib.hid (K2.out.set 1 (.slice xa xl xc))
  clear hu hb
  go_wp2_with fail
  refine (prt.to_any _ ps _ (H.out.prs.below L2.out.below) HK.out).mono ?_
  rintro e w3 ⟨n3, rfl, hp, hb⟩
  obtain ⟨ya, yl, yc, rfl⟩ := hp.pairs.shape
  have K3 := Lib.hid (L2.out.keep hb)
  have Z2 := Lib.hid (show (w2.setCell ⟨w.heap.size + 1 + 1, 1, none⟩ (.slice xa xl xc)).heap.size = w2.heap.size by simp [World.setCell])
  have HS3 := Lib.hid ((HS2.out.wrote (St.wr (i := 1) (.slice xa xl xc)) (fun p hp => .inl (by have e : p.block = w.heap.size + 1 + 1 := hp; have := T1.out; omega))).keep hb)
  have HU3 := Lib.hid ((HU.out.wrote (St.wr (i := 1) (.slice xa xl xc)) (fun p hp => .inl (by have e : p.block = w.heap.size + 1 + 1 := hp; have := L1.out.top; omega))).keep hb)
  have HP := Lib.hid hp
  have T3 := Lib.hid hb.size
  clear p0 p1 p2 p3 o0 o1 o2 o3 of
  obtain ⟨o0, o1, o2, o3⟩ := three_cells K3.out.o
  obtain ⟨r0, r1, r2, r3⟩ := three_cells K3.out.r
  have of : ∀ q, w3.frozen? ⟨w.heap.size + 1 + 1, q, none⟩ = false := fun q => Joins.unfrozen_of_block K3.out.o q
  have rf : ∀ q, w3.frozen? ⟨w.heap.size + 1, q, none⟩ = false := fun q => Joins.unfrozen_of_block K3.out.r q
  clear hp hb
  go_wp2_with fail
  refine bodyPost_ret (v := .agg #[.slice sa sl sc, .slice xa xl xc, .slice ya yl yc]) (by simp [results, Try.results21, go_sem, r0, r1, r2]) rfl ⟨_, _, _, rfl, ?_, ?_⟩
  · have hS := HS3.out
    have hU := HU3.out
    have hP := HP.out
    have t1 := T1.out
    have t2 := T2.out
    have t3 := T3.out
    have z1 := Z1.out
    have z2 := Z2.out
    refine ⟨w1.heap.size, w2.heap.size, ?_, ?_, ?_, ?_, ?_, ?_⟩
    · have := L1.out.top; omega
    · omega
    · simp [World.setCell]; omega
    · refine (hS.wrote (S := fun p => p.block < w.heap.size + 1 + 1 + 1) ?_ (fun p hp => .inl (by have e : p.block < w.heap.size + 1 + 1 + 1 := hp; omega))).mono (by omega) (Nat.le_refl _)
      repeat (first | exact Wrote.refl _ _ | refine Wrote.setCell ?_ (by simp) _)
    · refine (hU.wrote (S := fun p => p.block < w.heap.size + 1 + 1 + 1) ?_ (fun p hp => .inl (by have e : p.block < w.heap.size + 1 + 1 + 1 := hp; have := L1.out.top; omega))).mono (by omega) (by omega)
      repeat (first | exact Wrote.refl _ _ | refine Wrote.setCell ?_ (by simp) _)
    · refine (hP.wrote (S := fun p => p.block < w.heap.size + 1 + 1 + 1) ?_ (fun p hp => .inl (by have e : p.block < w.heap.size + 1 + 1 + 1 := hp; have := L2.out.top; omega))).mono (by omega) (by simp [World.setCell])
      repeat (first | exact Wrote.refl _ _ | refine Wrote.setCell ?_ (by simp) _)
  · repeat (first | (with_reducible exact K3.out.below) | refine Below.setCell ?_ (by simp <;> omega) _)


/-- what szTalk leaves -/
def sz (ss : List Int) (xss : List (List Int)) (ps : List (Int × Int)) (left : Int) : Int :=
  if left < ss.length then -1 else if rws.sz xss (left - ss.length) < 0 then -1 else if rws.sz xss (left - ss.length) < ps.length then -1 else rws.sz xss (left - ss.length) - ps.length
theorem sz_bound {ss : List Int} {xss : List (List Int)} {ps : List (Int × Int)} {l : Int} (h : ¬ sz ss xss ps l < 0) : (ss.length : Int) ≤ l ∧ (total xss : Int) ≤ l ∧ (ps.length : Int) ≤ l ∧ sz ss xss ps l ≤ l := by
  unfold sz at h ⊢
  by_cases g : l < ss.length
  · rw [if_pos g] at h; omega
  · rw [if_neg g] at h ⊢
    by_cases g1 : rws.sz xss (l - ss.length) < 0
    · rw [if_pos g1] at h; omega
    · rw [if_neg g1] at h ⊢
      have := rws.sz_bound g1
      by_cases g2 : rws.sz xss (l - ss.length) < ps.length
      · rw [if_pos g2] at h; omega
      · rw [if_neg g2]; omega


set_option maxRecDepth 100000 in
set_option maxHeartbeats 1000000 in
theorem sz_any (sv : Value) (ss : List Int) (u : Value) (xss : List (List Int)) (nv : Value) (ps : List (Int × Int)) (left : Int) (w : World) (h : TV w sv ss u xss nv ps) (h0 : 0 ≤ left) (h1 : left ≤ 1048576) :
    Calls Try.prog 19 #[.agg #[sv, u, nv], .int .i64 left] w fun e w' => e = .returned (.int .i64 (sz ss xss ps left)) ∧ Below w.heap.size w w' := by
  obtain ⟨A, cap, rfl, hcap, hmax⟩ : ∃ A c, sv = .slice A ss.length c ∧ ss.length ≤ c ∧ c ≤ maxLen := by obtain ⟨A, c, hv, h1, h2, _⟩ := h.ints; rw [len_i64s] at hv h1; exact ⟨A, c, hv, h1, h2⟩
  obtain ⟨N, ncap, rfl, hncap, hnmax⟩ : ∃ A c, nv = .slice A ps.length c ∧ ps.length ≤ c ∧ c ≤ maxLen := by obtain ⟨A, c, hv, h1, h2, _⟩ := h.prs; exact ⟨A, c, hv, h1, h2⟩
  obtain ⟨ua, un, uc, rfl⟩ := h.rows.shape
  have HI := Lib.hid (fun W => ints.sz_any A ss.length cap left W (Nat.le_trans hcap hmax) (by omega) h1)
  by_cases g : left < ss.length
  · have HS : Hid (sz ss xss ps left = -1) := Lib.hid (by unfold sz; rw [if_pos g])
    have HJ : Hid (∀ W, Calls Try.prog 55 #[.slice A ss.length cap, .int .i64 left] W fun e w' => e = .returned (.int .i64 (-1)) ∧ W = w') := Lib.hid (fun W => by have := HI.out W; rw [if_pos g] at this; exact this)
    clear h hcap hmax hncap hnmax g HI h0 h1
    go_enter Try.func19, Try.ntmps19
    go_wp2_with fail
    refine (HJ.out _).mono ?_
    rintro e w' ⟨rfl, rfl⟩
    go_wp2_with fail
    go_ret
    exact ⟨ret_int HS.out.symm, below_al (Below.refl _ _) _⟩
  · obtain ⟨l, hl⟩ : ∃ l : Int, left - (ss.length : Int) = l := ⟨_, rfl⟩
    have l0 : ¬ l < 0 := by omega
    have HJ : Hid (∀ W, Calls Try.prog 55 #[.slice A ss.length cap, .int .i64 left] W fun e w' => e = .returned (.int .i64 l) ∧ W = w') := Lib.hid (fun W => by have := HI.out W; rw [if_neg g, hl] at this; exact this)
    obtain ⟨m, hm⟩ : ∃ m : Int, rws.sz xss l = m := ⟨_, rfl⟩
    have HR : Hid (∀ o, Calls Try.prog 14 #[.slice ua un uc, .int .i64 l] (w.alloc o) fun e w' => e = .returned (.int .i64 m) ∧ w.alloc o = w') := Lib.hid (fun o => by
      have := rws.sz_any _ xss l _ (h.rows.below (below_al (Below.refl _ _) o)) (by omega) (by omega); rw [hm] at this; exact this)
    by_cases hlt : m < 0
    · have HS : Hid (sz ss xss ps left = -1) := Lib.hid (by unfold sz; rw [if_neg g, hl, hm, if_pos hlt])
      clear h hcap hmax hncap hnmax g HI h0 h1 hl hm
      go_enter Try.func19, Try.ntmps19
      go_wp2_with fail
      refine (HJ.out _).mono ?_
      rintro e w' ⟨rfl, rfl⟩
      go_wp2_with fail
      refine (HR.out _).mono ?_
      rintro e w' ⟨rfl, rfl⟩
      go_wp2_with fail
      go_ret
      exact ⟨ret_int HS.out.symm, below_al (Below.refl _ _) _⟩
    · have hm1 : m ≤ 1048576 := by have := rws.sz_bound (xss := xss) (l := l) (by rw [hm]; exact hlt); omega
      have HP := Lib.hid (fun W => prt.sz_any N ps.length ncap m W (Nat.le_trans hncap hnmax) (by omega) hm1)
      by_cases g2 : m < ps.length
      · have HS : Hid (sz ss xss ps left = -1) := Lib.hid (by unfold sz; rw [if_neg g, hl, hm, if_neg hlt, if_pos g2])
        have HQ : Hid (∀ W, Calls Try.prog 59 #[.slice N ps.length ncap, .int .i64 m] W fun e w' => e = .returned (.int .i64 (-1)) ∧ W = w') := Lib.hid (fun W => by have := HP.out W; rw [if_pos g2] at this; exact this)
        clear h hcap hmax hncap hnmax g HI h0 h1 hl hm g2 HP hm1
        go_enter Try.func19, Try.ntmps19
        go_wp2_with fail
        refine (HJ.out _).mono ?_
        rintro e w' ⟨rfl, rfl⟩
        go_wp2_with fail
        refine (HR.out _).mono ?_
        rintro e w' ⟨rfl, rfl⟩
        go_wp2_with fail
        refine (HQ.out _).mono ?_
        rintro e w' ⟨rfl, rfl⟩
        go_wp2_with fail
        go_ret
        exact ⟨ret_int HS.out.symm, below_al (Below.refl _ _) _⟩
      · obtain ⟨q, hq⟩ : ∃ q : Int, m - (ps.length : Int) = q := ⟨_, rfl⟩
        have hq0 : ¬ q < 0 := by omega
        have HS : Hid (sz ss xss ps left = q) := Lib.hid (by unfold sz; rw [if_neg g, hl, hm, if_neg hlt, if_neg g2, hq])
        have HQ : Hid (∀ W, Calls Try.prog 59 #[.slice N ps.length ncap, .int .i64 m] W fun e w' => e = .returned (.int .i64 q) ∧ W = w') := Lib.hid (fun W => by have := HP.out W; rw [if_neg g2, hq] at this; exact this)
        clear h hcap hmax hncap hnmax g HI h0 h1 hl hm g2 HP hm1 hq
        go_enter Try.func19, Try.ntmps19
        go_wp2_with fail
        refine (HJ.out _).mono ?_
        rintro e w' ⟨rfl, rfl⟩
        go_wp2_with fail
        refine (HR.out _).mono ?_
        rintro e w' ⟨rfl, rfl⟩
        go_wp2_with fail
        refine (HQ.out _).mono ?_
        rintro e w' ⟨rfl, rfl⟩
        go_wp2_with fail
        go_ret
        exact ⟨ret_int HS.out.symm, below_al (Below.refl _ _) _⟩



set_option maxRecDepth 100000 in
set_option maxHeartbeats 1000000 in
theorem eq_same (sv sv' : Value) (ss : List Int) (u u' : Value) (xss : List (List Int)) (nv nv' : Value) (ps : List (Int × Int)) (w : World) (h : TV w sv ss u xss nv ps) (h' : TV w sv' ss u' xss nv' ps) (hn : ss.length ≤ 1048576) (hm : total xss ≤ 1048576) (_hk : ps.length ≤ 1048576) :
    Calls Try.prog 23 #[.agg #[sv, u, nv], .agg #[sv', u', nv']] w fun e w' => e = .returned (.bool true) ∧ Below w.heap.size w w' := by
  obtain ⟨va, vn, vc, ua, un, uc, na, nn, nc, rfl, rfl, rfl⟩ := h.shape
  obtain ⟨va', vn', vc', ua', un', uc', na', nn', nc', rfl, rfl, rfl⟩ := h'.shape
  have H := Lib.hid h
  have H' := Lib.hid h'
  clear h h'
  have HQ : Hid (∀ W : World, Below w.heap.size w W → Calls Try.prog 26 #[.slice va vn vc, .slice va' vn' vc'] W fun e w' => e = .returned (.bool true) ∧ ∃ q, w' = W.drewN q) := Lib.hid (fun W hW => by
    have := ints.eq_any _ _ ss ss W (H.out.ints.below hW) (H'.out.ints.below hW) hn
    rw [decide_eq_true rfl] at this
    exact this)
  have HR : Hid (∀ W : World, Below w.heap.size w W → Calls Try.prog 18 #[.slice ua un uc, .slice ua' un' uc'] W fun e w' => e = .returned (.bool true) ∧ ∃ q, w' = W.drewN q) := Lib.hid (fun W hW => by
    have := rws.eq_any _ _ xss xss W (H.out.rows.below hW) (H'.out.rows.below hW) hm
    rw [decide_eq_true rfl] at this
    exact this)
  have HP := Lib.hid (fun (W : World) (hW : Below w.heap.size w W) => prt.eq_same _ _ ps W (H.out.prs.below hW) (H'.out.prs.below hW))
  have HB : Hid (∀ o o', Below w.heap.size w ((w.alloc o).alloc o')) := Lib.hid (fun o o' => below_al (below_al (Below.refl _ _) o) o')
  clear hn hm
  go_enter Try.func23, Try.ntmps23
  go_wp2_with fail
  refine (HQ.out _ (HB.out _ _)).mono ?_
  rintro e w' ⟨rfl, q, rfl⟩
  go_wp2_with fail
  refine (HR.out _ (below_drewN (HB.out _ _) q)).mono ?_
  rintro e w' ⟨rfl, q', rfl⟩
  go_wp2_with fail
  refine (HP.out _ (below_drewN (HB.out _ _) _)).mono ?_
  rintro e w' ⟨rfl, hb⟩
  have HBB := Lib.hid (below_tr (below_drewN (HB.out _ _) _) hb)
  clear hb
  go_wp2_with fail
  go_ret
  exact ⟨rfl, HBB.out⟩



set_option maxRecDepth 100000 in
set_option maxHeartbeats 1000000 in
theorem mark_any (sv : Value) (ss : List Int) (u : Value) (xss : List (List Int)) (nv : Value) (ps : List (Int × Int)) (k0 : Int) (B T : Nat) (w : World) (h : OT w B T sv ss u xss nv ps) (hT : T ≤ w.heap.size) (hn : ss.length ≤ 1048576) (hm : total xss ≤ 1048576) (hk : ps.length ≤ 1048576) (h0 : 0 ≤ k0) (h1 : k0 ≤ 4194304) :
    Calls Try.prog 27 #[.agg #[sv, u, nv], .int .i64 k0] w fun e w' => e = .returned (.int .i64 (k0 + (ss.length : Int) + (before xss xss.length : Int) + 2 * (ps.length : Int))) ∧ True ∧ ∃ (S : Addr → Prop) (nl : World), Below w.heap.size w nl ∧ Wrote S nl w' ∧ Inside S B T := by
  obtain ⟨va, vn, vc, ua, un, uc, na, nn, nc, rfl, rfl, rfl⟩ := h.view.shape
  obtain ⟨M1, M2, m0, m1, m2, hi, hr, hp⟩ := h
  have hbl := rws.before_le xss xss.length
  have HK := Lib.hid (fun (W : World) (hW : Below w.heap.size w W) => ints.mark_own _ ss k0 B M1 W (hi.keep hW) hn h0 (by omega))
  have HR := Lib.hid (fun (W W1 : World) (hW : Below w.heap.size w W) (S : Addr → Prop) (hw : Wrote S W W1) (hs : Inside S B M1) => rws.mark_any _ xss (k0 + (ss.length : Int)) M1 M2 W1 ((hr.keep hW).wrote hw (fun p hp => .inl (hs p hp).2)) hm (by omega) (by omega))
  have HP := Lib.hid (fun (W W1 : World) (hW : Below w.heap.size w W) (S : Addr → Prop) (hw : Wrote S W W1) (hs : Inside S B M2) => prt.mark_own _ ps (k0 + (ss.length : Int) + (before xss xss.length : Int)) M2 T W1 ((hp.keep hW).wrote hw (fun p hp => .inl (hs p hp).2)) hk (by omega) (by omega))
  have BA := Lib.hid (below_al (Below.refl w.heap.size w) (.cells #[.slice va vn vc, .slice ua un uc, .slice na nn nc] 34))
  have K0 := Lib.hid (Blk.new w 34 #[.slice va vn vc, .slice ua un uc, .slice na nn nc])
  have HM : Hid (B ≤ M1 ∧ M1 ≤ M2 ∧ M2 ≤ T ∧ T ≤ w.heap.size) := Lib.hid ⟨m0, m1, m2, hT⟩
  clear hi hr hp hbl hn hm hk h0 h1 m0 m1 m2 hT
  go_enter Try.func27, Try.ntmps27
  go_wp2_with fail
  refine (HK.out _ BA.out).mono ?_
  rintro e w1 ⟨rfl, _, S1, hw1, hs1⟩
  have W1 := Lib.hid hw1
  have I1 := Lib.hid hs1
  have K1 := Lib.hid (K0.out.wrote hw1 (fun p hp => by have := hs1 p hp; have := HM.out; omega))
  obtain ⟨c0, c1, c2, c3⟩ := three_cells K1.out
  clear hw1 hs1
  go_wp2_with fail
  refine (HR.out _ _ BA.out _ W1.out I1.out).mono ?_
  rintro e w2 ⟨rfl, _, S2, hw2, hs2⟩
  have W2 : Hid (Wrote (fun p => S1 p ∨ S2 p) (w.alloc (.cells #[.slice va vn vc, .slice ua un uc, .slice na nn nc] 34)) w2) := Lib.hid ((W1.out.mono (fun p => Or.inl)).trans (hw2.mono (fun p => Or.inr)))
  have I2 : Hid (Inside (fun p => S1 p ∨ S2 p) B M2) := Lib.hid (fun p hp => by
    have := HM.out
    rcases hp with hp | hp
    · have := I1.out p hp; omega
    · have := hs2 p hp; omega)
  have K2 := Lib.hid (K1.out.wrote hw2 (fun p hp => by have := hs2 p hp; have := HM.out; omega))
  clear c0 c1 c2 c3
  obtain ⟨c0, c1, c2, c3⟩ := three_cells K2.out
  clear hw2 hs2
  go_wp2_with fail
  refine (HP.out _ _ BA.out _ W2.out I2.out).mono ?_
  rintro e w3 ⟨rfl, _, S3, hw3, hs3⟩
  have W3 : Hid (Wrote (fun p => (S1 p ∨ S2 p) ∨ S3 p) (w.alloc (.cells #[.slice va vn vc, .slice ua un uc, .slice na nn nc] 34)) w3) := Lib.hid ((W2.out.mono (fun p => Or.inl)).trans (hw3.mono (fun p => Or.inr)))
  have I3 : Hid (Inside (fun p => (S1 p ∨ S2 p) ∨ S3 p) B T) := Lib.hid (fun p hp => by
    have := HM.out
    rcases hp with hp | hp
    · have := I2.out p hp; omega
    · have := hs3 p hp; omega)
  clear hw3 hs3
  go_wp2_with fail
  go_ret
  exact ⟨rfl, trivial, _, _, BA.out, W3.out, I3.out⟩


end Go.Proofs.Ytggodllfaggjiaa.talk
