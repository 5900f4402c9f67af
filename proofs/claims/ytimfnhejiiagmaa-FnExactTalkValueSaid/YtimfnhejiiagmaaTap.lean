/- toldValue of the program: the first player's questions go into two lists, by the bit that is told. -/
import Derived.Test.YtimfnhejiiagmaaTan
import Derived.Test.YtimfnhejiiagmaaTao
import Derived.Test.YtimfnhejiiagmaaTur
import Derived.Test.YtimfnhejiiagmaaGval
namespace Go.Proofs.Ytimfnhejiiagmaa.tap
open Go.RowKit Go.Deep Go.Proofs.Ytimfnhejiiagmaa.base
open Go.Proofs.Ytimfnhejiiagmaa.ints (ret_int infoInt)
open Go.Proofs.Ytimfnhejiiagmaa.gval (okGame)
open Go.Proofs.Ytimfnhejiiagmaa.tam Go.Proofs.Ytimfnhejiiagmaa.tan

/-- a table of Y lists, list c with the numbers C c, each in memory of its own -/
structure Tw (w wr : World) (g Y : Nat) (f : Nat → Value) (C : Nat → List Int) : Prop where
  below : Below w.heap.size w wr
  base : w.heap.size ≤ g
  tab : wr.rowIs g 183 Y f
  own : ∀ c, c < Y → wr.ownsRow (g + 1) 3 1 (f c) (C c).length (i64s (C c))
  dis : ∀ c d, c < Y → d < Y → c ≠ d → ∀ q, (f c).ownBlock = some q → (f d).ownBlock ≠ some q

theorem Tw.keep {w wr w2 : World} {g Y : Nat} {f : Nat → Value} {C : Nat → List Int} (h : Tw w wr g Y f C) (hb : Below wr.heap.size wr w2) : Tw w w2 g Y f C :=
  ⟨below_tr h.below hb, h.base, h.tab.of_block (hb.block _ h.tab.lt), fun c hc => app.owns_below (h.own c hc) hb, h.dis⟩
theorem Tw.congr {w wr : World} {g Y : Nat} {f : Nat → Value} {C D : Nat → List Int} (h : Tw w wr g Y f C) (e : ∀ c, c < Y → C c = D c) : Tw w wr g Y f D :=
  ⟨h.below, h.base, h.tab, fun c hc => by rw [← e c hc]; exact h.own c hc, h.dis⟩

theorem Tw.step {w W w3 : World} {g Y : Nat} {f : Nat → Value} {C : Nat → List Int} (h : Tw w W g Y f C) {c : Nat} (hc : c < Y) {v' : Value} {x : Int}
    (ho : w3.ownsRow (g + 1) 3 1 v' ((C c).length + 1) (i64s (C c) ++ [.int .i64 x])) (hg : W.grownBy w3 (f c).ownBlock) (hl : v'.ownBlock = (f c).ownBlock ∨ v'.ownBlock = some W.heap.size) :
    Tw w (w3.setCell ⟨g, c, none⟩ v') g Y (fun d => if d = c then v' else f d) (fun d => if d = c then C c ++ [x] else C d) := by
  have hgl := h.tab.lt
  have far : ∀ q, (f c).ownBlock = some q → g + 1 ≤ q := fun q hq => ((h.own c hc).lt q hq).1
  have hg3 : w3.heap[g]? = W.heap[g]? := hg.block g hgl (fun e => by have := far g e.symm; omega)
  refine ⟨?_, h.base, (h.tab.of_block hg3).set c v', fun d hd => ?_, fun d d' hd hd' hne q hq => ?_⟩
  · exact (h.below.grown hg h.below.size (fun j hj => by have := far j hj; have := h.base; omega)).setCell h.base _
  · by_cases e : d = c
    · subst e
      simp only [if_true]
      refine ownsRow_setCell_below ?_ (by simp) _
      rw [List.length_append, ← app.i64s_snoc]
      exact ho
    · simp only [if_neg e]
      refine ownsRow_setCell_below ((h.own d hd).kept hg ?_) (by simp) _
      cases hb : (f d).ownBlock with
      | none => exact .inl rfl
      | some b => exact .inr (fun e2 => h.dis d c hd hc e b hb e2.symm)
  · have old : ∀ d, d < Y → ∀ q, (f d).ownBlock = some q → q < W.heap.size := fun d hd q hq => ((h.own d hd).lt q hq).2
    by_cases e : d = c
    · by_cases e' : d' = c
      · omega
      · rw [if_pos e] at hq
        rw [if_neg e']
        rcases hl with k | k
        · rw [k] at hq
          exact h.dis c d' hc hd' (fun e2 => e' e2.symm) q hq
        · rw [k] at hq
          injection hq with hq
          intro e2
          have := old d' hd' q e2
          omega
    · rw [if_neg e] at hq
      by_cases e' : d' = c
      · rw [if_pos e']
        rcases hl with k | k
        · rw [k]
          exact h.dis d c hd hc e q hq
        · rw [k]
          intro e2
          injection e2 with e2
          have := old d hd q hq
          omega
      · rw [if_neg e']
        exact h.dis d d' hd hd' hne q hq


theorem ix20 (a b : Value) (W : World) : (Instr.index 183 (.agg #[a, b]) (.int .i64 0)).run Try.prog W = .ok a W := by kernel_rfl
theorem ix21 (a b : Value) (W : World) : (Instr.index 183 (.agg #[a, b]) (.int .i64 1)).run Try.prog W = .ok b W := by kernel_rfl
def C (T : Nat → Int) (k : Nat) (c : Nat) : List Int := if c = 0 then fs T 0 k else fs T 1 k


theorem askedQ (X Y : Nat) (v : Value) (ws : List Int) (u : Value) (xss : List (List Int)) (T : Nat → Int) (d : Int) (fv sv : Value) (w : World) (h : game.GV w v ws u xss) (hf : Ints w fv (fs T d X)) (hs : Ints w sv (ys Y)) (hok : okGame X Y ws xss) :
    Calls Try.prog 79 #[.agg #[.int .i64 (X : Int), .int .i64 (Y : Int), v, u], fv, sv] w fun e w' => ∃ a r, e = .returned (.agg #[.int .i64 ((fs T d X).length : Nat), .int .i64 ((ys Y).length : Nat), a, r]) ∧ game.GV w' a (aw X Y ws T d) r (ar X Y xss T d) ∧ Below w.heap.size w w' := by
  have hX : X ≤ 3 := by have := hok.1.1; omega
  have hY : 1 ≤ Y ∧ Y ≤ 3 := by have := hok.1.2; omega
  have hq := Q_len T d X
  by_cases hz : (fs T d X).length = 0
  · obtain ⟨A, b, o, cap, rfl, h1, h2, _, _⟩ := hf.form
    obtain ⟨A2, b2, o2, cap2, rfl, _, _, _, _⟩ := hs.form
    have e1 : aw X Y ws T d = [] := by unfold aw; rw [hz, Nat.zero_mul]; rfl
    have e2 : ar X Y xss T d = [] := by unfold ar; rw [hz, Nat.zero_mul]; rfl
    rw [e1, e2]
    rw [hz]
    refine (tao.asked0 _ _ _ _ A cap A2 (ys Y).length cap2 w).mono ?_
    rintro e w' ⟨A3, c3, rfl, hc3, hb⟩
    exact ⟨_, _, rfl, ⟨Ints.nil _, app.empties _ _ _ hc3⟩, hb⟩
  · refine (gask.asked (X : Int) (Y : Int) v ws u xss fv sv (fs T d X) (ys Y) w h hf hs hok ⟨?_, ?_, ?_, ?_⟩).mono ?_
    · rw [len_fs] at hz ⊢; omega
    · rw [len_ys]; omega
    · intro k hk
      rw [len_fs] at hk
      rw [fs_get]
      have := (Q_get hk).1
      exact ⟨Int.natCast_nonneg _, Int.ofNat_lt.2 this⟩
    · intro k hk
      rw [len_ys] at hk
      rw [ys_get hk]
      exact ⟨Int.natCast_nonneg _, Int.ofNat_lt.2 hk⟩
    · rintro e w' ⟨a, r, rfl, hO, hb⟩
      exact ⟨_, _, rfl, hO.view, hb⟩
theorem len_aw (X Y : Nat) (ws : List Int) (T : Nat → Int) (d : Int) : (aw X Y ws T d).length = (Q T d X).length * Y := by
  unfold aw; rw [gask.len_wts, len_fs, len_ys]
theorem nine {X Y : Nat} {ws : List Int} {xss : List (List Int)} (hok : okGame X Y ws xss) (T : Nat → Int) (d : Int) : (Q T d X).length * Y ≤ 9 := by
  have := Q_len T d X
  have h1 := hok.1.1
  have h2 := hok.1.2
  exact Nat.mul_le_mul (show (Q T d X).length ≤ 3 by omega) (show Y ≤ 3 by omega)


set_option maxRecDepth 100000 in
set_option maxHeartbeats 8000000 in
theorem told (X Y : Nat) (v : Value) (ws : List Int) (u : Value) (xss : List (List Int)) (tv : Value) (L : List Int) (w : World) (h : game.GV w v ws u xss) (ht : Ints w tv L) (hok : okGame X Y ws xss) (hL : L.length = X) (hb : ∀ k, L.getD k 0 = 0 ∨ L.getD k 0 = 1) :
    Calls Try.prog 130 #[.agg #[.int .i64 (X : Int), .int .i64 (Y : Int), v, u], tv] w fun e w' => e = .returned (.int .i64 (S X Y ws xss (fun x => L.getD x 0) 0 + S X Y ws xss (fun x => L.getD x 0) 1)) ∧ Below w.heap.size w w' := by
  obtain ⟨i0, hi, hz0, hz1, hz2⟩ := info_parts infoInt
  have hX : 1 ≤ X ∧ X ≤ 3 := by have := hok.1.1; omega
  have hY : 1 ≤ Y ∧ Y ≤ 3 := by have := hok.1.2; omega
  have H := Lib.hid h
  have HOK := Lib.hid hok
  have HB := Lib.hid hb
  obtain ⟨T, hT⟩ : ∃ T : Nat → Int, (fun x => L.getD x 0) = T := ⟨_, rfl⟩
  have HT : Hid (∀ x, L.getD x 0 = T x) := Lib.hid (fun x => by rw [← hT])
  rw [hT]
  have HSB := Lib.hid (fun d => S_bd X Y ws xss hok T d)
  obtain ⟨S0, hS0⟩ : ∃ S0, S X Y ws xss T 0 = S0 := ⟨_, rfl⟩
  obtain ⟨S1, hS1⟩ : ∃ S1, S X Y ws xss T 1 = S1 := ⟨_, rfl⟩
  have s0b := HSB.out 0
  have s1b := HSB.out 1
  rw [hS0] at s0b ⊢
  rw [hS1] at s1b ⊢
  have HS0 := Lib.hid hS0
  have HS1 := Lib.hid hS1
  clear hS0 hS1
  obtain ⟨va, vn, vc, ua, un, uc, rfl, rfl⟩ := h.shape
  obtain ⟨P, pb, po, pcap, rfl, hcap, hmax, hA, hc⟩ := ht.form
  obtain rfl := hA (by omega)
  have HPC : Hid (∀ k, k < X → w.cell? ⟨pb, po + k, none⟩ = some (.int .i64 (T k))) := Lib.hid (fun k hk => by
    have h1 := hc k (by omega)
    have e : T k = L[k]'(by omega) := by rw [← HT.out k, List.getD_eq_getElem?_getD, List.getElem?_eq_getElem (by omega)]; rfl
    rw [e]
    exact h1)
  rw [hL]
  have x3 : (X : Int) ≤ 3 := by omega
  have y3 : (Y : Int) ≤ 3 := by omega
  have B0 := Lib.hid (below_al (Below.refl w.heap.size w) (.cells #[.int .i64 (X : Int), .int .i64 (Y : Int), .slice va vn vc, .slice ua un uc] 40))
  have K0 := Lib.hid (Blk.new w 40 #[.int .i64 (X : Int), .int .i64 (Y : Int), .slice va vn vc, .slice ua un uc])
  have T0 : Hid (Tw (w.alloc (.cells #[.int .i64 (X : Int), .int .i64 (Y : Int), .slice va vn vc, .slice ua un uc] 40)) ((w.alloc (.cells #[.int .i64 (X : Int), .int .i64 (Y : Int), .slice va vn vc, .slice ua un uc] 40)).alloc (.cells #[.slice none 0 0, .slice none 0 0] 183)) (w.heap.size + 1) 2 (fun _ => .slice none 0 0) (C T 0)) := Lib.hid (by
    refine ⟨below_al (Below.refl _ _) _, by simp, ?_, fun c hc => ?_, fun _ _ _ _ _ q hq => by simp [Value.ownBlock] at hq⟩
    · have := heap_alloc_new (w.alloc (.cells #[.int .i64 (X : Int), .int .i64 (Y : Int), .slice va vn vc, .slice ua un uc] 40)) (.cells #[.slice none 0 0, .slice none 0 0] 183)
      refine ⟨#[.slice none 0 0, .slice none 0 0], by simpa using this, rfl, fun i hi => ?_⟩
      match i, hi with
      | 0, _ => rfl
      | 1, _ => rfl
    · have e : C T 0 c = [] := by unfold C fs Q; split <;> simp
      rw [e]
      exact ⟨by simp [i64s], .inl ⟨rfl, rfl⟩⟩)
  clear h ht hok hb hT hc hA hcap hmax hL
  go_enter Try.func130, Try.ntmps130
  go_wp2_with fail
  go_loopw [6, 7, 18] (fun z6 z7 j wr => ∃ k : Nat, k ≤ X ∧ j = .int .i64 (k : Nat) ∧ (∃ z, z6 = z) ∧ (∃ z, z7 = z) ∧ ∃ f, Hid (Tw (w.alloc (.cells #[.int .i64 (X : Int), .int .i64 (Y : Int), .slice va vn vc, .slice ua un uc] 40)) wr (w.heap.size + 1) 2 f (C T k))) (fun _ _ j _ => X - (intOf j).toNat)
  case atStart => exact ⟨0, Nat.zero_le _, rfl, ⟨_, rfl⟩, ⟨_, rfl⟩, _, T0⟩
  case round =>
    clear T0
    obtain ⟨k, hk, rfl, ⟨z6, rfl⟩, ⟨z7, rfl⟩, f, hT⟩ := hrel
    obtain ⟨wi, rfl⟩ : ∃ wi : World, wi = wr := ⟨_, rfl⟩
    by_cases hlt : k < X
    · have hkz : (k : Int) < (X : Int) := by omega
      have e1 := below_cell (below_tr B0.out hT.out.below) _ _ (HPC.out k hlt)
      rcases (show T k = 0 ∨ T k = 1 by rw [← HT.out k]; exact HB.out k) with htk | htk
      · skip
        have e1 : wi.cell? ⟨pb, po + k, none⟩ = some (.int .i64 0) := by rw [← htk]; exact e1
        have HST : Hid (∀ c, c < 2 → (fun q => if q = 0 then C T k 0 ++ [((k : Nat) : Int)] else C T k q) c = C T (k + 1) c) := Lib.hid (fun c hc2 => by
          match c, hc2 with
          | 0, _ => simp [C, fs_yes htk]
          | 1, _ => simp [C, fs_no (show ¬ T k = 1 by rw [htk]; decide)])
        have HCL : Hid ((C T k 0).length ≤ 3) := Lib.hid (by have := Q_len T 0 k; simp [C, len_fs]; omega)
        have hT2 := Lib.hid (hT.out.keep (below_al (Below.refl _ _) (.cells #[.int .i64 (k : Int)] 3)))
        have g1 := hT.out.tab.cell (show 0 < 2 by omega)
        obtain ⟨qa, ql, qc, hsh⟩ := boxl.shapez (hT.out.own 0 (by omega))
        have HQ := Lib.hid (hT2.out.own 0 (by omega))
        have hsz := hT.out.below.size
        have hgl := hT.out.tab.lt
        rw [hsh] at g1 HQ
        go_wp2_with (at_builtin; go_must (refine boxl.app_lies rfl (.tmp 26) (.tmp 28) 34 rfl (w.heap.size + 1 + 1) 3 i0 (.int .i64 0) 1 8 Try.underlying34 hi hz0 hz1 hz2 rfl (by decide) _ _ _ rfl HQ.out ⟨wi.heap.size, 0, none⟩ 1 1 [.int .i64 (k : Int)] rfl rfl ?c1 ?c2 ?c3 ?c4 ?c5 ?c6 ?_))
        try (case c1 => exact app.one_at _ _ _)
        try (case c2 => first | rfl | (intro u hu; simp at hu; subst hu; rfl))
        try (case c3 => have := HCL.out; unfold maxLen; omega)
        try (case c4 => have := HCL.out; omega)
        try (case c5 => first | omega | (simp; omega))
        try (case c6 => omega)
        intro v' w3 hown' hgrow hlies
        have hsh2 := make.shape hown'
        have T3 := Lib.hid (hT2.out.step (show 0 < 2 by omega) (x := (k : Int)) hown' (by rw [hsh]; exact hgrow) (by rw [hsh]; simpa using hlies))
        obtain ⟨xa, xl, xc, rfl⟩ := hsh2
        have g3 := (T3.out.tab.lt)
        have fr : ∀ k, w3.frozen? ⟨w.heap.size + 1, k, none⟩ = false := fun k => by
          have := (hT2.out.tab.of_block (w' := w3) (hgrow.block _ hT2.out.tab.lt (fun e => by have := (hT2.out.own 0 (by omega)).lt _ (by rw [hsh]; exact e.symm); omega))).frozen k
          exact this
        have gc : ∃ u, w3.cell? ⟨w.heap.size + 1, 0, none⟩ = some u := ⟨_, (hT2.out.tab.of_block (w' := w3) (hgrow.block _ hT2.out.tab.lt (fun e => by have := (hT2.out.own 0 (by omega)).lt _ (by rw [hsh]; exact e.symm); omega))).cell (show 0 < 2 by omega)⟩
        obtain ⟨uc', gc⟩ := gc
        have T4 := Lib.hid (T3.out.congr HST.out)
        clear T3 hown' hgrow hlies hT hT2 HQ e1 g1 HST HCL hsh
        go_wp2_with fail
        go_roundw
        case rel => exact ⟨k + 1, by omega, by go_num, ⟨_, rfl⟩, ⟨_, rfl⟩, _, T4⟩
        case measure => simp [intOf]; omega
      · skip
        have e1 : wi.cell? ⟨pb, po + k, none⟩ = some (.int .i64 1) := by rw [← htk]; exact e1
        have HST : Hid (∀ c, c < 2 → (fun q => if q = 1 then C T k 1 ++ [((k : Nat) : Int)] else C T k q) c = C T (k + 1) c) := Lib.hid (fun c hc2 => by
          match c, hc2 with
          | 0, _ => simp [C, fs_no (show ¬ T k = 0 by rw [htk]; decide)]
          | 1, _ => simp [C, fs_yes htk])
        have HCL : Hid ((C T k 1).length ≤ 3) := Lib.hid (by have := Q_len T 1 k; simp [C, len_fs]; omega)
        have hT2 := Lib.hid (hT.out.keep (below_al (Below.refl _ _) (.cells #[.int .i64 (k : Int)] 3)))
        have g1 := hT.out.tab.cell (show 1 < 2 by omega)
        obtain ⟨qa, ql, qc, hsh⟩ := boxl.shapez (hT.out.own 1 (by omega))
        have HQ := Lib.hid (hT2.out.own 1 (by omega))
        have hsz := hT.out.below.size
        have hgl := hT.out.tab.lt
        rw [hsh] at g1 HQ
        go_wp2_with (at_builtin; go_must (refine boxl.app_lies rfl (.tmp 26) (.tmp 28) 34 rfl (w.heap.size + 1 + 1) 3 i0 (.int .i64 0) 1 8 Try.underlying34 hi hz0 hz1 hz2 rfl (by decide) _ _ _ rfl HQ.out ⟨wi.heap.size, 0, none⟩ 1 1 [.int .i64 (k : Int)] rfl rfl ?c1 ?c2 ?c3 ?c4 ?c5 ?c6 ?_))
        try (case c1 => exact app.one_at _ _ _)
        try (case c2 => first | rfl | (intro u hu; simp at hu; subst hu; rfl))
        try (case c3 => have := HCL.out; unfold maxLen; omega)
        try (case c4 => have := HCL.out; omega)
        try (case c5 => first | omega | (simp; omega))
        try (case c6 => omega)
        intro v' w3 hown' hgrow hlies
        have hsh2 := make.shape hown'
        have T3 := Lib.hid (hT2.out.step (show 1 < 2 by omega) (x := (k : Int)) hown' (by rw [hsh]; exact hgrow) (by rw [hsh]; simpa using hlies))
        obtain ⟨xa, xl, xc, rfl⟩ := hsh2
        have g3 := (T3.out.tab.lt)
        have fr : ∀ k, w3.frozen? ⟨w.heap.size + 1, k, none⟩ = false := fun k => by
          have := (hT2.out.tab.of_block (w' := w3) (hgrow.block _ hT2.out.tab.lt (fun e => by have := (hT2.out.own 1 (by omega)).lt _ (by rw [hsh]; exact e.symm); omega))).frozen k
          exact this
        have gc : ∃ u, w3.cell? ⟨w.heap.size + 1, 1, none⟩ = some u := ⟨_, (hT2.out.tab.of_block (w' := w3) (hgrow.block _ hT2.out.tab.lt (fun e => by have := (hT2.out.own 1 (by omega)).lt _ (by rw [hsh]; exact e.symm); omega))).cell (show 1 < 2 by omega)⟩
        obtain ⟨uc', gc⟩ := gc
        have T4 := Lib.hid (T3.out.congr HST.out)
        clear T3 hown' hgrow hlies hT hT2 HQ e1 g1 HST HCL hsh
        go_wp2_with fail
        go_roundw
        case rel => exact ⟨k + 1, by omega, by go_num, ⟨_, rfl⟩, ⟨_, rfl⟩, _, T4⟩
        case measure => simp [intOf]; omega
    · have hkz : ¬ (k : Int) < (X : Int) := by omega
      obtain rfl : k = X := by omega
      have HT1 := Lib.hid hT.out.below
      have q0 := hT.out.tab.cell (show 0 < 2 by omega)
      have q1 := hT.out.tab.cell (show 1 < 2 by omega)
      have hi0 := (app.ints_of_owns (hT.out.own 0 (by omega))).ints
      have hi1 := (app.ints_of_owns (hT.out.own 1 (by omega))).ints
      have HI0 : Hid (Ints wi (f 0) (fs T 0 k)) := Lib.hid hi0
      have HI1 : Hid (Ints wi (f 1) (fs T 1 k)) := Lib.hid hi1
      obtain ⟨f0, hf0⟩ : ∃ f0, f 0 = f0 := ⟨_, rfl⟩
      obtain ⟨f1, hf1⟩ : ∃ f1, f 1 = f1 := ⟨_, rfl⟩
      rw [hf0] at q0 HI0
      rw [hf1] at q1 HI1
      have Q0 := Lib.hid q0
      have Q1 := Lib.hid q1
      obtain ⟨f0a, f0n, f0c, rfl⟩ := HI0.out.shape
      obtain ⟨f1a, f1n, f1c, rfl⟩ := HI1.out.shape
      clear hi0 hi1 hf0 hf1 q0 q1 hT
      have hmk := app.mk0 Y (by omega) wi
      have o2 := below_al (Below.refl wi.heap.size wi) (.cells (madeCells #[.int .i64 0] Y) 3)
      have O2 : Hid ((wi.alloc (.cells (madeCells #[.int .i64 0] Y) 3)).ownsRow wi.heap.size 3 1 (.slice (some ⟨wi.heap.size, 0, none⟩) 0 Y) 0 (i64s (ys 0))) := Lib.hid (by
        have := World.ownsRow_made (base := wi.heap.size) (e := 3) (size := 1) wi (madeCells #[.int .i64 0] Y) Y (Nat.le_refl _) (by unfold maxLen; omega) (by simp [madeCells])
        simpa [i64s, ys] using this)
      have BO2 := Lib.hid o2
      obtain ⟨c0, c1, c2, c3, _⟩ := four_cells (K0.out.below HT1.out)
      obtain ⟨d0, d1, d2, d3, _⟩ := four_cells (K0.out.below (below_tr HT1.out o2))
      clear o2
      go_wp2_with fail
      clear hmk c0 c1 c2 c3 d0 d1 d2 d3
      go_loopw [8, 9, 37] (fun v8 z9 j wr => ∃ y : Nat, y ≤ Y ∧ j = .int .i64 (y : Nat) ∧ (∃ z, z9 = z) ∧ Hid (wr.ownsRow wi.heap.size 3 1 v8 y (i64s (ys y))) ∧ Hid (Below wi.heap.size wi wr)) (fun _ _ j _ => Y - (intOf j).toNat)
      case atStart => exact ⟨0, Nat.zero_le _, rfl, ⟨_, rfl⟩, O2, BO2⟩
      case round =>
        clear O2 BO2
        obtain ⟨y, hy, rfl, ⟨z9, rfl⟩, hO, hB2⟩ := hrel
        obtain ⟨wy, rfl⟩ : ∃ wy : World, wy = wr := ⟨_, rfl⟩
        by_cases hly : y < Y
        · have hky : (y : Int) < (Y : Int) := by omega
          have hsz := hB2.out.size
          go_wp2_with (at_builtin; go_must (refine wpList_append_own _ rfl (.tmp 40) (.tmp 42) 34 rfl (wi.heap.size) 3 i0 (.int .i64 0) 1 8 Try.underlying34 hi hz0 hz1 hz2 rfl (by decide) _ _ _ rfl (hO.out.alloc _) ⟨wy.heap.size, 0, none⟩ 1 1 [.int .i64 (y : Int)] rfl rfl ?c1z ?c2z ?c3z ?c4z ?c5z ?_))
          try (case c1z => first | exact app.one_at _ _ _ | (intro q u hq; have h5 := app.one_at wy (.int .i64 (y : Int)) 3 q u hq; simpa using h5))
          case c2z => first | rfl | (intro u hu; simp at hu; subst hu; rfl)
          case c3z => unfold maxLen; omega
          case c4z => omega
          try (case c5z => first | omega | (simp; omega))
          intro v9 w9 hown hgrow _
          have B9 := Lib.hid ((below_al hB2.out _).grown hgrow (by simp; omega) (fun j hj => by have := (hO.out.lt j hj).1; omega))
          have O9 := Lib.hid hown
          rw [app.i64s_snoc] at O9
          clear hown hgrow
          go_wp2_with fail
          go_roundw
          case rel => exact ⟨y + 1, by omega, by go_num, ⟨_, rfl⟩, Lib.hid (by rw [ys_succ]; exact O9.out), B9⟩
          case measure => simp [intOf]; omega
        · have hky : ¬ (y : Int) < (Y : Int) := by omega
          obtain rfl : y = Y := by omega
          have HSY : Hid (Ints wy u8 (ys y)) := Lib.hid (app.ints_of_owns hO.out).ints
          obtain ⟨sa, sn, sc', rfl⟩ := HSY.out.shape
          have q0 := below_cell hB2.out _ _ Q0.out
          have q1 := below_cell hB2.out _ _ Q1.out
          clear hO Q0 Q1
          go_wp2_with fail
          clear q0 q1
          have hx0 := ix20 (.slice f0a f0n f0c) (.slice f1a f1n f1c)
          have hx1 := ix21 (.slice f0a f0n f0c) (.slice f1a f1n f1c)
          go_loopw [10, 12, 13, 14, 15, 46] (fun m z12 z13 z14 z15 j wr => ((j = .int .i64 0 ∧ m = .int .i64 0) ∨ (j = .int .i64 1 ∧ m = .int .i64 S0) ∨ (j = .int .i64 2 ∧ m = .int .i64 (S0 + S1))) ∧ (∃ z, z12 = z) ∧ (∃ z, z13 = z) ∧ (∃ z, z14 = z) ∧ (∃ z, z15 = z) ∧ Hid (Below wy.heap.size wy wr)) (fun _ _ _ _ _ j _ => 2 - (intOf j).toNat)
          case atStart => exact ⟨Or.inl ⟨rfl, rfl⟩, ⟨_, rfl⟩, ⟨_, rfl⟩, ⟨_, rfl⟩, ⟨_, rfl⟩, Below.refl _ _⟩
          case round =>
            obtain ⟨hst, ⟨z12, rfl⟩, ⟨z13, rfl⟩, ⟨z14, rfl⟩, ⟨z15, rfl⟩, hB3⟩ := hrel
            obtain ⟨wl, rfl⟩ : ∃ wl : World, wl = wr := ⟨_, rfl⟩
            rcases hst with ⟨rfl, rfl⟩ | ⟨rfl, rfl⟩ | ⟨rfl, rfl⟩
            · skip
              obtain ⟨cc0, cc1, cc2, cc3, _⟩ := four_cells (K0.out.below (below_tr HT1.out (below_tr hB2.out hB3.out)))
              have HAK := Lib.hid (askedQ k y _ ws _ xss T 0 _ _ wl (H.out.below (below_tr B0.out (below_tr HT1.out (below_tr hB2.out hB3.out)))) (HI0.out.below (below_tr hB2.out hB3.out)) (HSY.out.below hB3.out) HOK.out)
              have HBP := Lib.hid (fun (a r : Value) (W : World) (hW : game.GV W a (aw k y ws T 0) r (ar k y xss T 0)) => gbp.impl_any ((fs T 0 k).length : Nat) ((ys y).length : Nat) a (aw k y ws T 0) r (ar k y xss T 0) W hW (by rw [len_aw]; have := nine HOK.out T 0; omega) (by unfold ar; rw [len_fs, len_ys]; exact make.total_rowsOf _ _ (nine HOK.out T 0)))
              simp only [score_is k y ws xss T 0 HOK.out, HS0.out] at HBP
              go_wp2_with fail
              refine HAK.out.mono ?_
              rintro e w5 ⟨a5, r5, rfl, hg5, hb5⟩
              obtain ⟨aa, an, ac, ra, rn, rc, rfl, rfl⟩ := hg5.shape
              have G5 := Lib.hid hg5
              have B5 := Lib.hid hb5
              clear hg5 hb5 HAK cc0 cc1 cc2 cc3
              go_wp2_with fail
              refine (HBP.out _ _ _ G5.out).mono ?_
              rintro e w6 ⟨ub, rfl, hub, hb6⟩
              have B6 := Lib.hid (below_tr hB3.out (below_tr B5.out hb6))
              obtain ⟨ba, bn, bc, rfl⟩ := hub.ints.shape
              clear hub hb6 HBP G5 B5
              go_wp2_with fail
              go_roundw
              case rel => exact ⟨Or.inr (Or.inl ⟨rfl, rfl⟩), ⟨_, rfl⟩, ⟨_, rfl⟩, ⟨_, rfl⟩, ⟨_, rfl⟩, B6⟩
              case measure => simp [intOf]
            · have hws : IntKind.i64.wrap (S0 + S1) = S0 + S1 := IntWalk.i64_in _ (by omega)
              obtain ⟨cc0, cc1, cc2, cc3, _⟩ := four_cells (K0.out.below (below_tr HT1.out (below_tr hB2.out hB3.out)))
              have HAK := Lib.hid (askedQ k y _ ws _ xss T 1 _ _ wl (H.out.below (below_tr B0.out (below_tr HT1.out (below_tr hB2.out hB3.out)))) (HI1.out.below (below_tr hB2.out hB3.out)) (HSY.out.below hB3.out) HOK.out)
              have HBP := Lib.hid (fun (a r : Value) (W : World) (hW : game.GV W a (aw k y ws T 1) r (ar k y xss T 1)) => gbp.impl_any ((fs T 1 k).length : Nat) ((ys y).length : Nat) a (aw k y ws T 1) r (ar k y xss T 1) W hW (by rw [len_aw]; have := nine HOK.out T 1; omega) (by unfold ar; rw [len_fs, len_ys]; exact make.total_rowsOf _ _ (nine HOK.out T 1)))
              simp only [score_is k y ws xss T 1 HOK.out, HS1.out] at HBP
              go_wp2_with fail
              refine HAK.out.mono ?_
              rintro e w5 ⟨a5, r5, rfl, hg5, hb5⟩
              obtain ⟨aa, an, ac, ra, rn, rc, rfl, rfl⟩ := hg5.shape
              have G5 := Lib.hid hg5
              have B5 := Lib.hid hb5
              clear hg5 hb5 HAK cc0 cc1 cc2 cc3
              go_wp2_with fail
              refine (HBP.out _ _ _ G5.out).mono ?_
              rintro e w6 ⟨ub, rfl, hub, hb6⟩
              have B6 := Lib.hid (below_tr hB3.out (below_tr B5.out hb6))
              obtain ⟨ba, bn, bc, rfl⟩ := hub.ints.shape
              clear hub hb6 HBP G5 B5
              go_wp2_with fail
              go_roundw
              case rel => exact ⟨Or.inr (Or.inr ⟨rfl, rfl⟩), ⟨_, rfl⟩, ⟨_, rfl⟩, ⟨_, rfl⟩, ⟨_, rfl⟩, B6⟩
              case measure => simp [intOf]
            · go_wp2_with fail
              go_ret
              exact ⟨rfl, below_tr (below_tr B0.out HT1.out) (below_tr hB2.out hB3.out)⟩

end Go.Proofs.Ytimfnhejiiagmaa.tap
