/- sumPlaces of the program. -/
import Derived.Test.YtimfnhejiiagmaaGsm
import Derived.Test.YtimfnhejiiagmaaGsz
import Derived.Test.YtimfnhejiiagmaaBuilt
namespace Go.Proofs.Ytimfnhejiiagmaa.gsp
open Go.RowKit Go.Deep Go.Proofs.Ytimfnhejiiagmaa.base
open Go.Proofs.Ytimfnhejiiagmaa.built (apart apart_blk)
open Go.Proofs.Ytimfnhejiiagmaa.prt (two_cells)
open Go.Proofs.Ytimfnhejiiagmaa.pro (pcs pcs_get pairs_of_owns src)
open Go.Proofs.Ytimfnhejiiagmaa.gsm

theorem infoSP : (Try.prog.info? 89).map (fun i => (i.zero, i.size, i.bytes)) = some (some (.agg #[.int .i64 0, .int .i64 0, .int .i64 0, .int .i64 0, .int .i64 0]), 5, 40) := by kernel_rfl
def five (X Y t : Nat) : List Value := [.int .i64 (pl1 X Y t).1, .int .i64 (pl1 X Y t).2, .int .i64 (pl2 Y t).1, .int .i64 (pl2 Y t).2, .int .i64 (pl3 t)]
def cs (X Y t : Nat) : List Value := (List.range t).flatMap (five X Y)
theorem cs_succ (X Y t : Nat) : cs X Y (t + 1) = cs X Y t ++ five X Y t := by simp [cs, List.range_succ]
theorem cs_len (X Y : Nat) : ∀ t, (cs X Y t).length = t * 5
  | 0 => rfl
  | t + 1 => by rw [cs_succ, List.length_append, cs_len X Y t]; simp [five]; omega
theorem cs_get (X Y : Nat) : ∀ n t j, t < n → j < 5 → (cs X Y n)[t * 5 + j]? = (five X Y t)[j]?
  | 0, t, j, h, _ => by omega
  | n + 1, t, j, h, hj => by
    rw [cs_succ]
    by_cases e : t = n
    · subst e
      rw [List.getElem?_append_right (by rw [cs_len]; omega), cs_len, Nat.add_sub_cancel_left]
    · rw [List.getElem?_append_left (by rw [cs_len]; omega)]
      exact cs_get X Y n t j (by omega) hj
theorem five_at (w : World) (u0 u1 u2 u3 u4 : Value) (t : TypeId) : ∀ (j : Nat) (u : Value), [u0, u1, u2, u3, u4][j]? = some u → (w.alloc (.cells #[u0, u1, u2, u3, u4] t)).cell? ((⟨w.heap.size, 0, none⟩ : Addr).add j) = some u := by
  intro j u hj
  match j, hj with
  | 0, hj => simp at hj; subst hj; simp [Addr.add]
  | 1, hj => simp at hj; subst hj; simp [Addr.add]
  | 2, hj => simp at hj; subst hj; simp [Addr.add]
  | 3, hj => simp at hj; subst hj; simp [Addr.add]
  | 4, hj => simp at hj; subst hj; simp [Addr.add]
/-- the cells of place t of a slice of places -/
theorem place_cells {w : World} {B n : Nat} {v : Value} {X Y : Nat} (h : w.ownsRow B 89 5 v n (cs X Y n)) {t : Nat} (ht : t < n) :
    ∃ g cap, v = .slice (some ⟨g, 0, none⟩) n cap ∧ B ≤ g ∧ w.cell? ⟨g, t * 5, none⟩ = some (.int .i64 (pl1 X Y t).1) ∧ w.cell? ⟨g, t * 5 + 1, none⟩ = some (.int .i64 (pl1 X Y t).2) ∧ w.cell? ⟨g, t * 5 + 2, none⟩ = some (.int .i64 (pl2 Y t).1) ∧ w.cell? ⟨g, t * 5 + 3, none⟩ = some (.int .i64 (pl2 Y t).2) ∧ w.cell? ⟨g, t * 5 + 4, none⟩ = some (.int .i64 (pl3 t)) := by
  rcases h.2 with ⟨_, h0⟩ | ⟨g, cap, cur, rfl, hg, hh, hnc, hm, hs, htk⟩
  · omega
  have q : ∀ j, j < 5 → w.cell? ⟨g, t * 5 + j, none⟩ = (five X Y t)[j]? := fun j hj => by
    have h1 := cs_get X Y n t j ht hj
    rw [← htk, List.getElem?_take, if_pos (by omega)] at h1
    rw [Joins.cell_of_block hh]
    simpa using h1
  exact ⟨g, cap, rfl, hg, by simpa [five] using q 0 (by omega), by simpa [five] using q 1 (by omega), by simpa [five] using q 2 (by omega), by simpa [five] using q 3 (by omega), by simpa [five] using q 4 (by omega)⟩
/-- the cells of pair k of a slice of pairs -/
theorem pair_cells {w : World} {B X : Nat} {v : Value} (h : w.ownsRow B 26 2 v (qpr.upto X X).length (pcs (qpr.upto X X))) {k : Nat} (hk : k < np X) :
    ∃ g cap, v = .slice (some ⟨g, 0, none⟩) (np X) cap ∧ w.cell? ⟨g, k * 2, none⟩ = some (.int .i64 (pr X k).1) ∧ w.cell? ⟨g, k * 2 + 1, none⟩ = some (.int .i64 (pr X k).2) := by
  have hk' : k < (qpr.upto X X).length := hk
  have e : pr X k = (qpr.upto X X)[k]'hk' := by simp [pr, List.getD, hk']
  rcases h.2 with ⟨_, h0⟩ | ⟨g, cap, cur, rfl, hg, hh, hnc, hm, hs, htk⟩
  · omega
  obtain ⟨q1, q2⟩ := pcs_get (qpr.upto X X) k hk'
  rw [← htk, List.getElem?_take, if_pos (by omega)] at q1 q2
  refine ⟨g, cap, rfl, ?_, ?_⟩
  · rw [Joins.cell_of_block hh, e]; simpa using q1
  · rw [Joins.cell_of_block hh, e]; simpa using q2
theorem keep_blk {W w' : World} {B n k : Nat} {v : Value} {xs : List Value} {c : Array Value} (h : Blk W k 26 c) (ho : W.ownsRow B 89 5 v n xs) (hg : W.grownBy w' v.ownBlock) : Blk w' k 26 c :=
  (hg.block _ h.lt (fun e => apart_blk ho h (by decide) e.symm)).trans h

/-- what the loops keep: the places so far; the second player's pairs; the cells of both pairs under way -/
structure St (w1 wr : World) (X Y t : Nat) (v : Value) : Prop where
  below : Below w1.heap.size w1 wr
  owns : wr.ownsRow w1.heap.size 89 5 v t (cs X Y t)
structure St2 (w1 wr : World) (X Y t : Nat) (v : Value) (u2 : Value) (B2 k7 : Nat) (a b : Int) : Prop where
  st : St w1 wr X Y t v
  ge : w1.heap.size ≤ k7
  prs : wr.ownsRow B2 26 2 u2 (qpr.upto Y Y).length (pcs (qpr.upto Y Y))
  one : Blk wr k7 26 #[.int .i64 a, .int .i64 b]
theorem St.keep {w1 wr w' : World} {X Y t : Nat} {v : Value} (h : St w1 wr X Y t v) (hb : Below wr.heap.size wr w') : St w1 w' X Y t v := ⟨below_tr h.below hb, app.owns_below h.owns hb⟩
theorem St2.keep {w1 wr w' : World} {X Y t : Nat} {v u2 : Value} {B2 k7 : Nat} {a b : Int} (h : St2 w1 wr X Y t v u2 B2 k7 a b) (hb : Below wr.heap.size wr w') : St2 w1 w' X Y t v u2 B2 k7 a b := ⟨h.st.keep hb, h.ge, app.owns_below h.prs hb, h.one.below hb⟩
theorem St2.grow {w1 wr w' : World} {X Y t : Nat} {v v' u2 : Value} {B2 k7 : Nat} {a b : Int} (h : St2 w1 wr X Y t v u2 B2 k7 a b) (ho : w'.ownsRow w1.heap.size 89 5 v' (t + 1) (cs X Y t ++ five X Y t)) (hg : wr.grownBy w' v.ownBlock) : St2 w1 w' X Y (t + 1) v' u2 B2 k7 a b :=
  ⟨⟨h.st.below.grown hg h.st.below.size (fun q hq => (h.st.owns.lt q hq).1), by rw [cs_succ]; exact ho⟩, h.ge, h.prs.kept hg (apart h.prs h.st.owns (by decide)), keep_blk h.one h.st.owns hg⟩


set_option maxRecDepth 100000 in
set_option maxHeartbeats 8000000 in
theorem places (X Y : Nat) (hX : X ≤ 3) (hY : Y ≤ 3) (w : World) :
    Calls Try.prog 66 #[.int .i64 (X : Int), .int .i64 (Y : Int)] w fun e w' => ∃ u, e = .returned u ∧ w'.ownsRow w.heap.size 89 5 u (num X Y) (cs X Y (num X Y)) ∧ Below w.heap.size w w' := by
  obtain ⟨i0, hi0, hz0, hz1, hz2⟩ := info_parts infoSP
  have HQX := Lib.hid (qpr.pairs_own X hX)
  have HQY := Lib.hid (qpr.pairs_own Y hY)
  have HPX : Hid (np X ≤ 9) := Lib.hid (np_le X hX)
  have HPY : Hid (np Y ≤ 9) := Lib.hid (np_le Y hY)
  have HNU := Lib.hid (num_le X Y hX hY)
  have HAT := Lib.hid (pl_at X Y)
  have HCS := Lib.hid (cs_succ X Y)
  clear hX hY
  go_enter Try.func66, Try.ntmps66
  go_wp2_with fail
  refine (HQX.out _).mono ?_
  rintro e w1 ⟨u1, rfl, hu1, hb1⟩
  have U1 := Lib.hid hu1
  obtain ⟨ua, un, uc, rfl⟩ := (pairs_of_owns hu1).pairs.shape
  have hun : un = np X := by
    obtain ⟨A, cap, hv, _⟩ := (pairs_of_owns hu1).pairs
    injection hv with _ e2 _
  subst hun
  have B1 := Lib.hid hb1
  have O0 : Hid (w1.ownsRow w1.heap.size 89 5 (.slice none 0 0) 0 (cs X Y 0)) := Lib.hid (World.ownsRow_nil _ _ _ _)
  have X9 : ((np X : Nat) : Int) ≤ 9 := by have := HPX.out; omega
  have Y9 : ((np Y : Nat) : Int) ≤ 9 := by have := HPY.out; omega
  clear hu1 hb1 HQX
  go_wp2_with fail
  go_loopw [5, 7, 9, 10, 14] (fun v z7 z9 z10 s wr => ∃ i : Nat, i ≤ np X ∧ s = .int .i64 (i : Nat) ∧ (∃ z, z7 = z) ∧ (∃ z, z9 = z) ∧ (∃ z, z10 = z) ∧ (∃ vv, v = vv ∧ Hid (St w1 wr X Y (i * np Y * 4) vv))) (fun _ _ _ _ s _ => np X - (intOf s).toNat)
  case atStart => exact ⟨0, Nat.zero_le _, rfl, ⟨_, rfl⟩, ⟨_, rfl⟩, ⟨_, rfl⟩, ⟨_, rfl, Lib.hid (by rw [Nat.zero_mul, Nat.zero_mul]; exact ⟨Below.refl _ _, O0.out⟩)⟩⟩
  case round =>
    clear O0
    obtain ⟨i, hi, rfl, ⟨z7, rfl⟩, ⟨z9, rfl⟩, ⟨z10, rfl⟩, ⟨vv, hvv, hS⟩⟩ := hrel
    obtain ⟨wo, rfl⟩ : ∃ w9 : World, w9 = wr := ⟨_, rfl⟩
    subst hvv
    by_cases hlt : i < np X
    · have hkz : (i : Int) < ((np X : Nat) : Int) := by omega
      obtain ⟨g1, cap1, hv1, p0, p1⟩ := pair_cells U1.out hlt
      injection hv1 with e1 e2 e3
      subst e1
      clear e2 e3
      have p0 := below_cell hS.out.below _ _ p0
      have p1 := below_cell hS.out.below _ _ p1
      have HLT := Lib.hid hlt
      obtain ⟨⟨a, b⟩, hab⟩ : ∃ q, pr X i = q := ⟨_, rfl⟩
      rw [hab] at p0 p1
      have HAB := Lib.hid hab
      clear hab
      go_wp2_with fail
      refine (HQY.out _).mono ?_
      rintro e w2 ⟨u2, rfl, hu2, hb2⟩
      have S2 : Hid (St2 w1 w2 X Y ((i * np Y + 0) * 4) u5 u2 (wo.heap.size + 1) wo.heap.size a b) := Lib.hid ⟨by rw [Nat.add_zero]; exact hS.out.keep (below_tr (below_al (Below.refl _ _) _) hb2), hS.out.below.size, by simpa using hu2, (Blk.new wo _ _).below hb2⟩
      obtain ⟨va, vn, vc, rfl⟩ := (pairs_of_owns hu2).pairs.shape
      have hvn : vn = np Y := by
        obtain ⟨A, cap, hv, _⟩ := (pairs_of_owns hu2).pairs
        injection hv with _ e2 _
      subst hvn
      clear hu2 hb2 hS p0 p1
      go_wp2_with fail
      go_loopw [5, 9, 10, 21] (fun v z9 z10 s wr => ∃ k : Nat, k ≤ np Y ∧ s = .int .i64 (k : Nat) ∧ (∃ z, z9 = z) ∧ (∃ z, z10 = z) ∧ (∃ vv, v = vv ∧ Hid (St2 w1 wr X Y ((i * np Y + k) * 4) vv (.slice va (np Y) vc) (wo.heap.size + 1) wo.heap.size a b))) (fun _ _ _ s _ => np Y - (intOf s).toNat)
      case atStart => exact ⟨0, Nat.zero_le _, rfl, ⟨_, rfl⟩, ⟨_, rfl⟩, ⟨_, rfl, S2⟩⟩
      case round =>
        clear S2
        obtain ⟨k, hk, rfl, ⟨z9, rfl⟩, ⟨z10, rfl⟩, ⟨vv, hvv, hS⟩⟩ := hrel
        obtain ⟨wi, rfl⟩ : ∃ w9 : World, w9 = wr := ⟨_, rfl⟩
        subst hvv
        by_cases hlk : k < np Y
        · have hkz2 : (k : Int) < ((np Y : Nat) : Int) := by omega
          obtain ⟨g2, cap2, hv2, p0, p1⟩ := pair_cells hS.out.prs hlk
          injection hv2 with e1 e2 e3
          subst e1
          clear e2 e3
          have HLK := Lib.hid hlk
          obtain ⟨⟨c, d⟩, hcd⟩ : ∃ q, pr Y k = q := ⟨_, rfl⟩
          rw [hcd] at p0 p1
          have HCD := Lib.hid hcd
          have S3 : Hid (St2 w1 (wi.alloc (.cells #[.int .i64 c, .int .i64 d] 26)) X Y ((i * np Y + k) * 4 + 0) u5 (.slice (some ⟨g2, 0, none⟩) (np Y) vc) (wo.heap.size + 1) wo.heap.size a b ∧ Blk (wi.alloc (.cells #[.int .i64 c, .int .i64 d] 26)) wi.heap.size 26 #[.int .i64 c, .int .i64 d]) := Lib.hid ⟨hS.out.keep (below_al (Below.refl _ _) _), Blk.new wi _ _⟩
          clear hcd hS
          go_wp2_with fail
          clear p0 p1
          go_loopw [5, 10, 25] (fun v z10 s wr => ∃ m : Nat, m ≤ 4 ∧ s = .int .i64 (m : Nat) ∧ (∃ z, z10 = z) ∧ (∃ vv, v = vv ∧ Hid (St2 w1 wr X Y ((i * np Y + k) * 4 + m) vv (.slice (some ⟨g2, 0, none⟩) (np Y) vc) (wo.heap.size + 1) wo.heap.size a b ∧ Blk wr wi.heap.size 26 #[.int .i64 c, .int .i64 d]))) (fun _ _ s _ => 4 - (intOf s).toNat)
          case atStart => exact ⟨0, Nat.zero_le _, rfl, ⟨_, rfl⟩, ⟨_, rfl, S3⟩⟩
          case round =>
            clear S3
            obtain ⟨m, hm, rfl, ⟨z10, rfl⟩, ⟨vv, hvv, hS⟩⟩ := hrel
            obtain ⟨wm, rfl⟩ : ∃ w9 : World, w9 = wr := ⟨_, rfl⟩
            subst hvv
            by_cases hlm : m < 4
            · have hkz3 : (m : Int) < 4 := by omega
              obtain ⟨c0, c1, l0⟩ := two_cells hS.out.1.one
              obtain ⟨d0, d1, l1⟩ := two_cells hS.out.2
              have HF : Hid (five X Y ((i * np Y + k) * 4 + m) = [.int .i64 a, .int .i64 b, .int .i64 c, .int .i64 d, .int .i64 (m : Int)]) := Lib.hid (by
                obtain ⟨q1, q2, q3⟩ := HAT.out i k m HLK.out hlm
                unfold five
                rw [q1, q2, q3, HAB.out, HCD.out])
              have HB : Hid ((i * np Y + k) * 4 + m < num X Y) := Lib.hid (by
                have g1 : i * np Y + k < (i + 1) * np Y := by rw [Nat.add_mul]; have := HLK.out; omega
                have g2 : (i + 1) * np Y ≤ np X * np Y := Nat.mul_le_mul_right _ (by have := HLT.out; omega)
                unfold num
                omega)
              have S4 := Lib.hid (hS.out.1.keep (below_al (Below.refl _ _) (.cells #[.int .i64 a, .int .i64 b, .int .i64 c, .int .i64 d, .int .i64 (m : Int)] 89)))
              have K4 := Lib.hid (hS.out.2.alloc (.cells #[.int .i64 a, .int .i64 b, .int .i64 c, .int .i64 d, .int .i64 (m : Int)] 89))
              have hsz := hS.out.1.st.below.size
              clear hS
              go_wp2_with (at_builtin; go_must (refine wpList_append_own _ rfl (.tmp 28) (.tmp 33) 86 rfl w1.heap.size 89 i0 (.agg #[.int .i64 0, .int .i64 0, .int .i64 0, .int .i64 0, .int .i64 0]) 5 40 Try.underlying86 hi0 hz0 hz1 hz2 rfl (by decide) _ _ _ rfl S4.out.st.owns ⟨wm.heap.size, 0, none⟩ 1 1 [.int .i64 a, .int .i64 b, .int .i64 c, .int .i64 d, .int .i64 (m : Int)] rfl rfl ?d1 ?d2 ?d3 ?d4 ?d5 ?_))
              try (case d1 => first | exact five_at _ _ _ _ _ _ _ | (intro q u hq; have h5 := five_at wm (.int .i64 a) (.int .i64 b) (.int .i64 c) (.int .i64 d) (.int .i64 (m : Int)) 89 q u hq; rw [opn.add_none] at h5; simpa using h5))
              case d2 => intro u hu; simp at hu; rcases hu with rfl | rfl | rfl | rfl | rfl <;> rfl
              case d3 => have := HB.out; have := HNU.out; unfold maxLen; omega
              case d4 => have := HB.out; have := HNU.out; omega
              try (case d5 => first | omega | (simp; omega))
              intro v3 w3 hown3 hgrow3 _
              have S5 : Hid (St2 w1 w3 X Y ((i * np Y + k) * 4 + (m + 1)) v3 (.slice (some ⟨g2, 0, none⟩) (np Y) vc) (wo.heap.size + 1) wo.heap.size a b ∧ Blk w3 wi.heap.size 26 #[.int .i64 c, .int .i64 d]) := Lib.hid ⟨S4.out.grow (by rw [HF.out]; exact hown3) hgrow3, keep_blk K4.out S4.out.st.owns hgrow3⟩
              clear hown3 hgrow3 c0 c1 d0 d1
              go_wp2_with fail
              go_roundw
              case rel => exact ⟨m + 1, by omega, by go_num, ⟨_, rfl⟩, ⟨_, rfl, S5⟩⟩
              case measure => simp [intOf]; omega
            · obtain rfl : m = 4 := by omega
              have S6 : Hid (St2 w1 wm X Y ((i * np Y + (k + 1)) * 4) u5 (.slice (some ⟨g2, 0, none⟩) (np Y) vc) (wo.heap.size + 1) wo.heap.size a b) := Lib.hid (by
                have h5 := hS.out.1
                rw [show (i * np Y + k) * 4 + 4 = (i * np Y + (k + 1)) * 4 by omega] at h5
                exact h5)
              clear hS
              go_wp2_with fail
              go_roundw
              case rel => exact ⟨k + 1, by have := HLK.out; omega, by go_num, ⟨_, rfl⟩, ⟨_, rfl⟩, ⟨_, rfl, S6⟩⟩
              case measure => have := HLK.out; simp [intOf]; omega
        · have hkz2 : ¬ (k : Int) < ((np Y : Nat) : Int) := by omega
          have hke : k = np Y := by omega
          have S7 : Hid (St w1 wi X Y ((i + 1) * np Y * 4) u5) := Lib.hid (by
            have h5 := hS.out.st
            rw [hke, show (i * np Y + np Y) * 4 = (i + 1) * np Y * 4 by rw [show (i + 1) * np Y = i * np Y + np Y by rw [Nat.add_mul, Nat.one_mul]]] at h5
            exact h5)
          clear hS hke
          go_wp2_with fail
          go_roundw
          case rel => exact ⟨i + 1, by have := HLT.out; omega, by go_num, ⟨_, rfl⟩, ⟨_, rfl⟩, ⟨_, rfl⟩, ⟨_, rfl, S7⟩⟩
          case measure => have := HLT.out; simp [intOf]; omega
    · have hkz : ¬ (i : Int) < ((np X : Nat) : Int) := by omega
      have hie : i = np X := by omega
      have S8 : Hid (wo.ownsRow w1.heap.size 89 5 u5 (num X Y) (cs X Y (num X Y)) ∧ Below w1.heap.size w1 wo) := Lib.hid (by
        have h5 := hS.out
        rw [hie] at h5
        exact ⟨h5.owns, h5.below⟩)
      clear hS hie
      go_wp2_with fail
      go_ret
      exact ⟨_, rfl, built.base_mono S8.out.1 B1.out.size, below_tr B1.out S8.out.2⟩

end Go.Proofs.Ytimfnhejiiagmaa.gsp
