/- BestAsks of the program. -/
import Derived.Test.YtneonebgneonkaaBam
import Derived.Test.YtneonebgneonkaaEqm
import Derived.Test.YtneonebgneonkaaLst
namespace Go.Proofs.Ytneonebgneonkaa.bam
open Go.RowKit Go.Deep Go.Proofs.Ytneonebgneonkaa.base
open Go.Proofs.Ytneonebgneonkaa.ints (ret_int infoInt infoInts)
open Go.Proofs.Ytneonebgneonkaa.rws (total)
open Go.Proofs.Ytneonebgneonkaa.two (two)
open Go.Proofs.Ytneonebgneonkaa.play (within)
open Go.Proofs.Ytneonebgneonkaa.wis (ok2)
open Go.Proofs.Ytneonebgneonkaa.maxi (bst bst_new bst_old bst_lt)
open Go.Proofs.Ytneonebgneonkaa.plays (at_ len_at)

/-- two lists that lie apart, in the same block or not -/
structure Pair (W : World) (B T : Nat) (u u' : Value) (xs zs : List Int) : Prop where
  one : OwnInts W B T u xs
  two : OwnInts W B T u' zs
  apart : ∀ p, In u p → ¬ In u' p
theorem Pair.nil (W : World) (B T : Nat) : Pair W B T (.slice none 0 0) (.slice none 0 0) [] [] := ⟨OwnInts.nil _ _ _, OwnInts.nil _ _ _, fun p hp => absurd hp (not_in_nil p _ _)⟩
theorem Pair.keep {w w' : World} {B T : Nat} {u u' : Value} {xs zs : List Int} (h : Pair w B T u u' xs zs) (hb : Below w.heap.size w w') : Pair w' B T u u' xs zs := ⟨h.one.keep hb, h.two.keep hb, h.apart⟩
theorem Pair.mono {w : World} {B B' T T' : Nat} {u u' : Value} {xs zs : List Int} (h : Pair w B T u u' xs zs) (hB : B' ≤ B) (hT : T ≤ T') : Pair w B' T' u u' xs zs := ⟨h.one.mono hB hT, h.two.mono hB hT, h.apart⟩
/-- the two halves of a list of eight -/
theorem Pair.of {W : World} {B T : Nat} {u : Value} {xs zs : List Int} (h : OwnInts W B T u (xs ++ zs)) (hx : xs.length = 4) (hz : zs.length = 4) : ∃ b o c, u = .slice (some ⟨b, o, none⟩) 8 c ∧ 8 ≤ c ∧ c ≤ maxLen ∧ Pair W B T (.slice (some ⟨b, o, none⟩) 4 4) (.slice (some ⟨b, o + 4, none⟩) 4 (c - 4)) xs zs := by
  obtain ⟨A, b, o, c, hv, h1, h2, hA, hc⟩ := h.ints.form
  have hl : (xs ++ zs).length = 8 := by simp [hx, hz]
  rw [hA (by omega), hl] at hv
  rw [hl] at h1
  subst hv
  have i1 : ∀ p, In (.slice (some ⟨b, o, none⟩) 4 4) p → In (.slice (some ⟨b, o, none⟩) 8 c) p := by
    rintro p ⟨b1, o1, l1, c1, he, hp⟩
    injection he with e1 e2 e3
    injection e1 with e1
    injection e1 with e1 e4
    subst e1 e2 e3 e4
    exact ⟨_, _, _, _, rfl, hp.1, hp.2.1, hp.2.2.1, by omega⟩
  have i2 : ∀ p, In (.slice (some ⟨b, o + 4, none⟩) 4 (c - 4)) p → In (.slice (some ⟨b, o, none⟩) 8 c) p := by
    rintro p ⟨b1, o1, l1, c1, he, hp⟩
    injection he with e1 e2 e3
    injection e1 with e1
    injection e1 with e1 e4
    subst e1 e2 e3 e4
    exact ⟨_, _, _, _, rfl, hp.1, hp.2.1, by omega, by omega⟩
  refine ⟨b, o, c, rfl, h1, h2, ⟨?_, fun p hp => h.ge p (i1 p hp), fun p hp => h.lt p (i1 p hp), fun p hp => h.free p (i1 p hp)⟩, ⟨?_, fun p hp => h.ge p (i2 p hp), fun p hp => h.lt p (i2 p hp), fun p hp => h.free p (i2 p hp)⟩, ?_⟩
  · refine ⟨some ⟨b, o, none⟩, 4, by rw [len_i64s, hx], by rw [len_i64s, hx]; omega, by simp [maxLen], fun k q hq => ⟨b, o, rfl, ?_⟩⟩
    have hk : k < xs.length := by
      rcases Nat.lt_or_ge k xs.length with h | h
      · exact h
      · rw [List.getElem?_eq_none (by rw [len_i64s]; exact h)] at hq; cases hq
    rw [get_i64s hk] at hq
    rw [← hq, hc k (by omega), List.getElem_append_left hk]
  · refine ⟨some ⟨b, o + 4, none⟩, c - 4, by rw [len_i64s, hz], by rw [len_i64s, hz]; omega, by omega, fun k q hq => ⟨b, o + 4, rfl, ?_⟩⟩
    have hk : k < zs.length := by
      rcases Nat.lt_or_ge k zs.length with h | h
      · exact h
      · rw [List.getElem?_eq_none (by rw [len_i64s]; exact h)] at hq; cases hq
    rw [get_i64s hk] at hq
    rw [← hq, show o + 4 + k = o + (4 + k) from by omega, hc (4 + k) (by omega), List.getElem_append_right (by omega)]
    simp [hx]
  · rintro p ⟨b1, o1, l1, c1, he, hp⟩ ⟨b2, o2, l2, c2, he', hp'⟩
    injection he with e1 e2 e3
    injection e1 with e1
    injection e1 with e1 e4
    subst e1 e2 e3 e4
    injection he' with e1 e2 e3
    injection e1 with e1
    injection e1 with e1 e4
    subst e2 e3 e4
    omega
def fs (g : Nat → Int) (p : Nat) : List Int := if p = 0 then [] else at_ 4 (bst g p / 16)
def sc (g : Nat → Int) (p : Nat) : List Int := if p = 0 then [] else at_ 4 (bst g p % 16)
def mo (g : Nat → Int) (p : Nat) : Int := if p = 0 then 0 else g (bst g p)
theorem st_new {g : Nat → Int} {p : Nat} (h : p = 0 ∨ mo g p < g p) : fs g (p + 1) = at_ 4 (p / 16) ∧ sc g (p + 1) = at_ 4 (p % 16) ∧ mo g (p + 1) = g p := by
  have e : bst g (p + 1) = p := bst_new (by
    rcases h with h | h
    · exact .inl h
    · by_cases hp : p = 0
      · exact .inl hp
      · right; simpa [mo, hp] using h)
  simp [fs, sc, mo, e]
theorem st_old {g : Nat → Int} {p : Nat} (h0 : p ≠ 0) (h : ¬ mo g p < g p) : fs g (p + 1) = fs g p ∧ sc g (p + 1) = sc g p ∧ mo g (p + 1) = mo g p := by
  have e : bst g (p + 1) = bst g p := bst_old (by rintro (h' | h'); exact h0 h'; exact h (by simpa [mo, h0] using h'))
  simp [fs, sc, mo, e, h0]
theorem ans_pos (g : Nat → Int) {n : Nat} (hn : n ≠ 0) : (⟨at_ 4 (bst g n / 16), at_ 4 (bst g n % 16), g (bst g n), true⟩ : Ans) = ⟨fs g n, sc g n, mo g n, true⟩ := by
  unfold fs sc mo
  rw [if_neg hn, if_neg hn, if_neg hn]
/-- what the pair of slices looks like -/
def Shp (p : Nat) (u u' : Value) : Prop := (p = 0 ∧ u = .slice none 0 0 ∧ u' = .slice none 0 0) ∨ (p ≠ 0 ∧ ∃ b o b' o' c, u = .slice (some ⟨b, o, none⟩) 4 4 ∧ u' = .slice (some ⟨b', o', none⟩) 4 c)


set_option maxRecDepth 100000 in
set_option maxHeartbeats 4000000 in
theorem impl_kind (x y wh : Int) (v : Value) (xss : List (List Int)) (x' y' wh' : Int) (v' : Value) (yss : List (List Int)) (k : Int) (w : World) (h : IRows w v xss) (h' : IRows w v' yss) (hk : ¬ (0 ≤ k ∧ k ≤ 7)) :
    Calls Try.prog 46 #[.agg #[.int .i64 x, .int .i64 y, .int .i64 wh, v], .agg #[.int .i64 x', .int .i64 y', .int .i64 wh', v'], .int .i64 k] w fun e w' => ∃ u u', e = .returned (.tuple #[u, u', .int .i64 (res x y wh xss x' y' wh' yss k).v, .bool (res x y wh xss x' y' wh' yss k).ok]) ∧ Pair w' w.heap.size w'.heap.size u u' (res x y wh xss x' y' wh' yss k).f (res x y wh xss x' y' wh' yss k).s ∧ Below w.heap.size w w' := by
  obtain ⟨va, vn, vc, rfl⟩ := h.shape
  obtain ⟨ua, un, uc, rfl⟩ := h'.shape
  have B2 := below_al (below_al (Below.refl w.heap.size w) (.cells #[.int .i64 x, .int .i64 y, .int .i64 wh, .slice va vn vc] 48)) (.cells #[.int .i64 x', .int .i64 y', .int .i64 wh', .slice ua un uc] 48)
  have P1 := (Blk.new w 48 #[.int .i64 x, .int .i64 y, .int .i64 wh, .slice va vn vc]).alloc (.cells #[.int .i64 x', .int .i64 y', .int .i64 wh', .slice ua un uc] 48)
  have P2 : Blk ((w.alloc (.cells #[.int .i64 x, .int .i64 y, .int .i64 wh, .slice va vn vc] 48)).alloc (.cells #[.int .i64 x', .int .i64 y', .int .i64 wh', .slice ua un uc] 48)) (w.heap.size + 1) 48 #[.int .i64 x', .int .i64 y', .int .i64 wh', .slice ua un uc] := by have := Blk.new (w.alloc (.cells #[.int .i64 x, .int .i64 y, .int .i64 wh, .slice va vn vc] 48)) 48 #[.int .i64 x', .int .i64 y', .int .i64 wh', .slice ua un uc]; simpa using this
  have HVA := Lib.hid (h.below B2)
  have HVB := Lib.hid (h'.below B2)
  obtain ⟨w2, hw2⟩ : ∃ w2, ((w.alloc (.cells #[.int .i64 x, .int .i64 y, .int .i64 wh, .slice va vn vc] 48)).alloc (.cells #[.int .i64 x', .int .i64 y', .int .i64 wh', .slice ua un uc] 48)) = w2 := ⟨_, rfl⟩
  rw [hw2] at B2 P1 P2 HVA HVB
  have BB := Lib.hid B2
  have HP1 := Lib.hid P1
  have HP2 := Lib.hid P2
  clear h h' B2 P1 P2
  have HR := Lib.hid (res_no (x := x) (y := y) (wh := wh) (xss := xss) (x' := x') (y' := y') (wh' := wh') (yss := yss) (k := k) (fun hh => hk hh.2))
  have HK := Lib.hid hk
  clear hk
  go_enter Try.func46, Try.ntmps46
  go_wp2_with fail
  refine (eqm.is_no k _ HK.out).mono ?_
  rintro e w3 ⟨rfl, rfl⟩
  go_wp2_with fail
  refine bodyPost_ret (v := .tuple #[.slice none 0 0, .slice none 0 0, .int .i64 0, .bool false]) (by simp [results, Try.results46, go_sem]) rfl ?_
  rw [HR.out]
  exact ⟨_, _, rfl, Pair.nil _ _ _, BB.out⟩
set_option maxRecDepth 100000 in
set_option maxHeartbeats 8000000 in
theorem impl_yes (x y wh : Int) (v : Value) (xss : List (List Int)) (x' y' wh' : Int) (v' : Value) (yss : List (List Int)) (m : Nat) (w : World) (h : IRows w v xss) (h' : IRows w v' yss) (hn : total xss ≤ 1048576) (hn' : total yss ≤ 1048576) (hk : m < 8) (hok : ok2 x y wh xss x' y' wh' yss) :
    Calls Try.prog 46 #[.agg #[.int .i64 x, .int .i64 y, .int .i64 wh, v], .agg #[.int .i64 x', .int .i64 y', .int .i64 wh', v'], .int .i64 (m : Int)] w fun e w' => ∃ u u', e = .returned (.tuple #[u, u', .int .i64 (res x y wh xss x' y' wh' yss (m : Int)).v, .bool (res x y wh xss x' y' wh' yss (m : Int)).ok]) ∧ Pair w' w.heap.size w'.heap.size u u' (res x y wh xss x' y' wh' yss (m : Int)).f (res x y wh xss x' y' wh' yss (m : Int)).s ∧ Below w.heap.size w w' := by
  obtain ⟨va, vn, vc, rfl⟩ := h.shape
  obtain ⟨ua, un, uc, rfl⟩ := h'.shape
  have B2 := below_al (below_al (Below.refl w.heap.size w) (.cells #[.int .i64 x, .int .i64 y, .int .i64 wh, .slice va vn vc] 48)) (.cells #[.int .i64 x', .int .i64 y', .int .i64 wh', .slice ua un uc] 48)
  have P1 := (Blk.new w 48 #[.int .i64 x, .int .i64 y, .int .i64 wh, .slice va vn vc]).alloc (.cells #[.int .i64 x', .int .i64 y', .int .i64 wh', .slice ua un uc] 48)
  have P2 : Blk ((w.alloc (.cells #[.int .i64 x, .int .i64 y, .int .i64 wh, .slice va vn vc] 48)).alloc (.cells #[.int .i64 x', .int .i64 y', .int .i64 wh', .slice ua un uc] 48)) (w.heap.size + 1) 48 #[.int .i64 x', .int .i64 y', .int .i64 wh', .slice ua un uc] := by have := Blk.new (w.alloc (.cells #[.int .i64 x, .int .i64 y, .int .i64 wh, .slice va vn vc] 48)) 48 #[.int .i64 x', .int .i64 y', .int .i64 wh', .slice ua un uc]; simpa using this
  have HVA := Lib.hid (h.below B2)
  have HVB := Lib.hid (h'.below B2)
  obtain ⟨w2, hw2⟩ : ∃ w2, ((w.alloc (.cells #[.int .i64 x, .int .i64 y, .int .i64 wh, .slice va vn vc] 48)).alloc (.cells #[.int .i64 x', .int .i64 y', .int .i64 wh', .slice ua un uc] 48)) = w2 := ⟨_, rfl⟩
  rw [hw2] at B2 P1 P2 HVA HVB
  have BB := Lib.hid B2
  have HP1 := Lib.hid P1
  have HP2 := Lib.hid P2
  clear h h' B2 P1 P2
  have HK := Lib.hid (show 0 ≤ (m : Int) ∧ (m : Int) ≤ 7 from by omega)
  obtain ⟨g, hg⟩ : ∃ g : Nat → Int, G x y wh xss x' y' wh' yss m = g := ⟨_, rfl⟩
  have HR : Hid (res x y wh xss x' y' wh' yss (m : Int) = ⟨fs g 256, sc g 256, mo g 256, true⟩) := Lib.hid (by
    rw [res_yes ⟨hok, HK.out⟩]
    simp only [best, Int.toNat_natCast, hg]
    exact ans_pos g (by decide))
  have HSUM := Lib.hid (fun (p : Nat) (W : World) (hb : Below w2.heap.size w2 W) (q q' : Value) (hq : Ints W q (at_ 4 (p / 16))) (hq' : Ints W q' (at_ 4 (p % 16))) => (show Calls Try.prog 99 #[.agg #[.int .i64 x, .int .i64 y, .int .i64 wh, .slice va vn vc], .agg #[.int .i64 x', .int .i64 y', .int .i64 wh', .slice ua un uc], q, q', .int .i64 (m : Int)] W fun e w' => e = .returned (.tuple #[.int .i64 (g p), .bool true]) ∧ Below W.heap.size W w' from by
    have := sum_yes x y wh _ xss x' y' wh' _ yss q _ q' _ m W (HVA.out.below hb) (HVB.out.below hb) hn hn' hq hq' (at_within _) (at_within _) hk hok
    rw [show sv x y wh xss x' y' wh' yss m (at_ 4 (p / 16)) (at_ 4 (p % 16)) = g p from by rw [← hg]; rfl] at this
    exact this))
  clear hg hok hn hn'
  have HPL : Hid (∀ (p : Nat) (W : World), p < 256 → Calls Try.prog 98 #[.int .i64 (p : Int), .int .i64 8] W fun e w' => ∃ u, e = .returned u ∧ OwnInts w' W.heap.size w'.heap.size u (at_ 4 (p / 16) ++ at_ 4 (p % 16)) ∧ Below W.heap.size W w') := Lib.hid (fun p W hp => by
    have := plg.play_at 8 p W (by omega)
    rw [at8 ⟨p, hp⟩] at this
    exact this)
  clear hk
  go_enter Try.func46, Try.ntmps46
  go_wp2_with fail
  clear hw2
  refine (eqm.is_yes _ _ HK.out).mono ?_
  rintro e w3 ⟨rfl, rfl⟩
  go_wp2_with fail
  go_loopw [10, 11, 12, 13, 14, 15, 16, 17, 18, 22] (fun bf bs gr z13 z14 z15 z16 z17 z18 i wr => ∃ (p : Nat) (mm : Int), p ≤ 256 ∧ i = .int .i64 p ∧ gr = .int .i64 mm ∧ Hid (mm = mo g p) ∧ Shp p bf bs ∧ (∃ z, z13 = z) ∧ (∃ z, z14 = z) ∧ (∃ z, z15 = z) ∧ (∃ z, z16 = z) ∧ (∃ z, z17 = z) ∧ (∃ z, z18 = z) ∧ Hid (Pair wr w.heap.size wr.heap.size bf bs (fs g p) (sc g p)) ∧ Hid (Below w2.heap.size w2 wr)) (fun _ _ _ _ _ _ _ _ _ i _ => 256 - (intOf i).toNat)
  case atStart => exact ⟨0, 0, Nat.zero_le _, rfl, rfl, Lib.hid rfl, .inl ⟨rfl, rfl, rfl⟩, ⟨_, rfl⟩, ⟨_, rfl⟩, ⟨_, rfl⟩, ⟨_, rfl⟩, ⟨_, rfl⟩, ⟨_, rfl⟩, Lib.hid (Pair.nil _ _ _), Lib.hid (Below.refl _ _)⟩
  case round =>
    obtain ⟨p, mm, hp, rfl, rfl, hm, hsh, ⟨z13, rfl⟩, ⟨z14, rfl⟩, ⟨z15, rfl⟩, ⟨z16, rfl⟩, ⟨z17, rfl⟩, ⟨z18, rfl⟩, hS, hB⟩ := hrel
    obtain ⟨wi, rfl⟩ : ∃ wi : World, wi = wr := ⟨_, rfl⟩
    by_cases hlt : p < 256
    · have hpz : (p : Int) < 256 := by omega
      rcases hsh with ⟨hp0, rfl, rfl⟩ | ⟨hp0, b, o, b', o', cc, rfl, rfl⟩
      · have HP0 := Lib.hid hp0
        clear hp0
        have HA := Lib.hid (HPL.out p wi (by omega))
        go_wp2_with fail
        refine HA.out.mono ?_
        rintro e w4 ⟨q, rfl, hq, hb⟩
        obtain ⟨qb, qo, qc, rfl, hc8, hcm, hP⟩ := Pair.of hq (len_at 4 _) (len_at 4 _)
        have B4 := Lib.hid (below_tr hB.out hb)
        have Z4 := Lib.hid hb.size
        have HPP := Lib.hid hP
        have HCM := Lib.hid hcm
        have HOL := Lib.hid (hS.out.keep hb)
        have hnil : ∀ (W : World), (binOp .eql 22 (.slice none 0 0) (.slice none 0 0)).run Try.prog W = .ok (.bool true) W := fun W => lst.eql_nil W _ _ none 0 0 Try.underlying22
        clear hb hq hP hcm HA
        go_wp2_with fail
        go_region
        obtain ⟨k0, k1, k2, k3, k4⟩ := four_cells (HP1.out.below B4.out)
        obtain ⟨l0, l1, l2, l3, l4⟩ := four_cells (HP2.out.below B4.out)
        go_wp2_with fail
        have D4 := Lib.hid (below_dr B4.out)
        have HPD := Lib.hid (HPP.out.keep (below_dr (Below.refl _ _)))
        refine (HSUM.out p w4.drew D4.out _ _ HPD.out.one.ints HPD.out.two.ints).mono ?_
        rintro e w5 ⟨rfl, hb⟩
        have B5 := Lib.hid (below_tr D4.out hb)
        have Z5 := Lib.hid (show w4.heap.size ≤ w5.heap.size from by have := hb.size; simpa using this)
        have HP5 := Lib.hid (HPD.out.keep hb)
        have HO5 := Lib.hid ((HOL.out.keep (below_dr (Below.refl _ _))).keep hb)
        clear hb k0 k1 k2 k3 k4 l0 l1 l2 l3 l4
        have H1 := Lib.hid (st_new (g := g) (p := p) (.inl HP0.out))
        go_wp2_with fail
        go_roundw
        case rel => exact ⟨p + 1, g p, by omega, by go_num, rfl, Lib.hid H1.out.2.2.symm, .inr ⟨by omega, _, _, _, _, _, rfl, rfl⟩, ⟨_, rfl⟩, ⟨_, rfl⟩, ⟨_, rfl⟩, ⟨_, rfl⟩, ⟨_, rfl⟩, ⟨_, rfl⟩, Lib.hid (by rw [H1.out.1, H1.out.2.1]; exact HP5.out.mono (by have := hB.out.size; have := BB.out.size; omega) (by have := Z5.out; omega)), B5⟩
        case measure => simp [intOf]; omega
      · have HP0 := Lib.hid hp0
        clear hp0
        have HA := Lib.hid (HPL.out p wi (by omega))
        go_wp2_with fail
        refine HA.out.mono ?_
        rintro e w4 ⟨q, rfl, hq, hb⟩
        obtain ⟨qb, qo, qc, rfl, hc8, hcm, hP⟩ := Pair.of hq (len_at 4 _) (len_at 4 _)
        have B4 := Lib.hid (below_tr hB.out hb)
        have Z4 := Lib.hid hb.size
        have HPP := Lib.hid hP
        have HCM := Lib.hid hcm
        have HOL := Lib.hid (hS.out.keep hb)
        have hnil : ∀ (W : World), (binOp .eql 22 (.slice (some ⟨b, o, none⟩) 4 4) (.slice none 0 0)).run Try.prog W = .ok (.bool false) W := fun W => lst.eql_nil W _ _ (some ⟨b, o, none⟩) 4 4 Try.underlying22
        clear hb hq hP hcm HA
        go_wp2_with fail
        go_region
        obtain ⟨k0, k1, k2, k3, k4⟩ := four_cells (HP1.out.below B4.out)
        obtain ⟨l0, l1, l2, l3, l4⟩ := four_cells (HP2.out.below B4.out)
        go_wp2_with fail
        have D4 := Lib.hid (below_dr B4.out)
        have HPD := Lib.hid (HPP.out.keep (below_dr (Below.refl _ _)))
        refine (HSUM.out p w4.drew D4.out _ _ HPD.out.one.ints HPD.out.two.ints).mono ?_
        rintro e w5 ⟨rfl, hb⟩
        have B5 := Lib.hid (below_tr D4.out hb)
        have Z5 := Lib.hid (show w4.heap.size ≤ w5.heap.size from by have := hb.size; simpa using this)
        have HP5 := Lib.hid (HPD.out.keep hb)
        have HO5 := Lib.hid ((HOL.out.keep (below_dr (Below.refl _ _))).keep hb)
        clear hb k0 k1 k2 k3 k4 l0 l1 l2 l3 l4
        by_cases hlt2 : mm < g p
        · have dq : decide (mm < g p) = true := by simp [hlt2]
          have H1 := Lib.hid (st_new (g := g) (p := p) (.inr (hm.out ▸ hlt2)))
          clear hlt2
          go_wp2_with fail
          go_roundw
          case rel => exact ⟨p + 1, g p, by omega, by go_num, rfl, Lib.hid H1.out.2.2.symm, .inr ⟨by omega, _, _, _, _, _, rfl, rfl⟩, ⟨_, rfl⟩, ⟨_, rfl⟩, ⟨_, rfl⟩, ⟨_, rfl⟩, ⟨_, rfl⟩, ⟨_, rfl⟩, Lib.hid (by rw [H1.out.1, H1.out.2.1]; exact HP5.out.mono (by have := hB.out.size; have := BB.out.size; omega) (by have := Z5.out; omega)), B5⟩
          case measure => simp [intOf]; omega
        · have dq : decide (mm < g p) = false := by simp; omega
          have H1 := Lib.hid (st_old (g := g) (p := p) HP0.out (hm.out ▸ hlt2))
          clear hlt2
          go_wp2_with fail
          go_roundw
          case rel => exact ⟨p + 1, mm, by omega, by go_num, rfl, Lib.hid (hm.out.trans H1.out.2.2.symm), .inr ⟨by omega, _, _, _, _, _, rfl, rfl⟩, ⟨_, rfl⟩, ⟨_, rfl⟩, ⟨_, rfl⟩, ⟨_, rfl⟩, ⟨_, rfl⟩, ⟨_, rfl⟩, Lib.hid (by rw [H1.out.1, H1.out.2.1]; exact HO5.out.mono (Nat.le_refl _) (by have := Z4.out; have := Z5.out; omega)), B5⟩
          case measure => simp [intOf]; omega
    · have hpz : ¬ (p : Int) < 256 := by omega
      obtain rfl : p = 256 := by omega
      rcases hsh with ⟨hp0, rfl, rfl⟩ | ⟨hp0, b, o, b', o', cc, rfl, rfl⟩
      · exact absurd hp0 (by decide)
      go_wp2_with fail
      refine bodyPost_ret (v := .tuple #[.slice (some ⟨b, o, none⟩) 4 4, .slice (some ⟨b', o', none⟩) 4 cc, .int .i64 mm, .bool true]) (by simp [results, Try.results46, go_sem]) rfl ?_
      rw [HR.out]
      exact ⟨_, _, by rw [hm.out], hS.out, below_tr BB.out hB.out⟩
set_option maxRecDepth 100000 in
set_option maxHeartbeats 8000000 in
theorem impl_bad (x y wh : Int) (v : Value) (xss : List (List Int)) (x' y' wh' : Int) (v' : Value) (yss : List (List Int)) (m : Nat) (w : World) (h : IRows w v xss) (h' : IRows w v' yss) (hn : total xss ≤ 1048576) (hn' : total yss ≤ 1048576) (hk : m < 8) (hok : ¬ ok2 x y wh xss x' y' wh' yss) :
    Calls Try.prog 46 #[.agg #[.int .i64 x, .int .i64 y, .int .i64 wh, v], .agg #[.int .i64 x', .int .i64 y', .int .i64 wh', v'], .int .i64 (m : Int)] w fun e w' => ∃ u u', e = .returned (.tuple #[u, u', .int .i64 (res x y wh xss x' y' wh' yss (m : Int)).v, .bool (res x y wh xss x' y' wh' yss (m : Int)).ok]) ∧ Pair w' w.heap.size w'.heap.size u u' (res x y wh xss x' y' wh' yss (m : Int)).f (res x y wh xss x' y' wh' yss (m : Int)).s ∧ Below w.heap.size w w' := by
  obtain ⟨va, vn, vc, rfl⟩ := h.shape
  obtain ⟨ua, un, uc, rfl⟩ := h'.shape
  have B2 := below_al (below_al (Below.refl w.heap.size w) (.cells #[.int .i64 x, .int .i64 y, .int .i64 wh, .slice va vn vc] 48)) (.cells #[.int .i64 x', .int .i64 y', .int .i64 wh', .slice ua un uc] 48)
  have P1 := (Blk.new w 48 #[.int .i64 x, .int .i64 y, .int .i64 wh, .slice va vn vc]).alloc (.cells #[.int .i64 x', .int .i64 y', .int .i64 wh', .slice ua un uc] 48)
  have P2 : Blk ((w.alloc (.cells #[.int .i64 x, .int .i64 y, .int .i64 wh, .slice va vn vc] 48)).alloc (.cells #[.int .i64 x', .int .i64 y', .int .i64 wh', .slice ua un uc] 48)) (w.heap.size + 1) 48 #[.int .i64 x', .int .i64 y', .int .i64 wh', .slice ua un uc] := by have := Blk.new (w.alloc (.cells #[.int .i64 x, .int .i64 y, .int .i64 wh, .slice va vn vc] 48)) 48 #[.int .i64 x', .int .i64 y', .int .i64 wh', .slice ua un uc]; simpa using this
  have HVA := Lib.hid (h.below B2)
  have HVB := Lib.hid (h'.below B2)
  obtain ⟨w2, hw2⟩ : ∃ w2, ((w.alloc (.cells #[.int .i64 x, .int .i64 y, .int .i64 wh, .slice va vn vc] 48)).alloc (.cells #[.int .i64 x', .int .i64 y', .int .i64 wh', .slice ua un uc] 48)) = w2 := ⟨_, rfl⟩
  rw [hw2] at B2 P1 P2 HVA HVB
  have BB := Lib.hid B2
  have HP1 := Lib.hid P1
  have HP2 := Lib.hid P2
  clear h h' B2 P1 P2
  have HK := Lib.hid (show 0 ≤ (m : Int) ∧ (m : Int) ≤ 7 from by omega)
  have HR := Lib.hid (res_no (x := x) (y := y) (wh := wh) (xss := xss) (x' := x') (y' := y') (wh' := wh') (yss := yss) (k := (m : Int)) (fun hh => hok hh.1))
  have HSUM := Lib.hid (fun (p : Nat) (W : World) (hb : Below w2.heap.size w2 W) (q q' : Value) (hq : Ints W q (at_ 4 (p / 16))) (hq' : Ints W q' (at_ 4 (p % 16))) => sum_no x y wh _ xss x' y' wh' _ yss q _ q' _ m W (HVA.out.below hb) (HVB.out.below hb) hn hn' hq hq' hk hok)
  clear hok hn hn'
  have HPL : Hid (∀ (p : Nat) (W : World), p < 256 → Calls Try.prog 98 #[.int .i64 (p : Int), .int .i64 8] W fun e w' => ∃ u, e = .returned u ∧ OwnInts w' W.heap.size w'.heap.size u (at_ 4 (p / 16) ++ at_ 4 (p % 16)) ∧ Below W.heap.size W w') := Lib.hid (fun p W hp => by
    have := plg.play_at 8 p W (by omega)
    rw [at8 ⟨p, hp⟩] at this
    exact this)
  clear hk
  go_enter Try.func46, Try.ntmps46
  go_wp2_with fail
  clear hw2
  refine (eqm.is_yes _ _ HK.out).mono ?_
  rintro e w3 ⟨rfl, rfl⟩
  go_wp2_with fail
  go_loopw [10, 11, 12, 13, 14, 15, 16, 17, 18, 22] (fun bf bs gr z13 z14 z15 z16 z17 z18 i wr => i = .int .i64 (((0 : Nat) : Int)) ∧ bf = .slice none 0 0 ∧ bs = .slice none 0 0 ∧ gr = .int .i64 0 ∧ (∃ z, z13 = z) ∧ (∃ z, z14 = z) ∧ (∃ z, z15 = z) ∧ (∃ z, z16 = z) ∧ (∃ z, z17 = z) ∧ (∃ z, z18 = z) ∧ Hid (Below w2.heap.size w2 wr)) (fun _ _ _ _ _ _ _ _ _ i _ => 256 - (intOf i).toNat)
  case atStart => exact ⟨rfl, rfl, rfl, rfl, ⟨_, rfl⟩, ⟨_, rfl⟩, ⟨_, rfl⟩, ⟨_, rfl⟩, ⟨_, rfl⟩, ⟨_, rfl⟩, Lib.hid (Below.refl _ _)⟩
  case round =>
    obtain ⟨rfl, rfl, rfl, rfl, ⟨z13, rfl⟩, ⟨z14, rfl⟩, ⟨z15, rfl⟩, ⟨z16, rfl⟩, ⟨z17, rfl⟩, ⟨z18, rfl⟩, hB⟩ := hrel
    obtain ⟨wi, rfl⟩ : ∃ wi : World, wi = wr := ⟨_, rfl⟩
    obtain ⟨p, hp0⟩ : ∃ p : Nat, p = 0 := ⟨0, rfl⟩
    have hp00 : ((0 : Nat) : Int) = 0 := rfl
    have HA := Lib.hid (HPL.out 0 wi (by omega))
    go_wp2_with fail
    refine HA.out.mono ?_
    rintro e w4 ⟨q, rfl, hq, hb⟩
    obtain ⟨qb, qo, qc, rfl, hc8, hcm, hP⟩ := Pair.of hq (len_at 4 _) (len_at 4 _)
    have B4 := Lib.hid (below_tr hB.out hb)
    have Z4 := Lib.hid hb.size
    have HPP := Lib.hid hP
    have HCM := Lib.hid hcm
    clear hb hq hP hcm HA
    go_wp2_with fail
    go_region
    obtain ⟨k0, k1, k2, k3, k4⟩ := four_cells (HP1.out.below B4.out)
    obtain ⟨l0, l1, l2, l3, l4⟩ := four_cells (HP2.out.below B4.out)
    go_wp2_with fail
    have D4 := Lib.hid (below_dr B4.out)
    have HPD := Lib.hid (HPP.out.keep (below_dr (Below.refl _ _)))
    refine (HSUM.out 0 w4.drew D4.out _ _ HPD.out.one.ints HPD.out.two.ints).mono ?_
    rintro e w5 ⟨rfl, hb⟩
    have B5 := Lib.hid (below_tr D4.out hb)
    have Z5 := Lib.hid (show w4.heap.size ≤ w5.heap.size from by have := hb.size; simpa using this)
    have HP5 := Lib.hid (HPD.out.keep hb)
    clear hb k0 k1 k2 k3 k4 l0 l1 l2 l3 l4
    go_wp2_with fail
    refine bodyPost_ret (v := .tuple #[.slice none 0 0, .slice none 0 0, .int .i64 0, .bool false]) (by simp [results, Try.results46, go_sem]) rfl ?_
    rw [HR.out]
    exact ⟨_, _, rfl, Pair.nil _ _ _, below_tr BB.out B5.out⟩
theorem impl_any (x y wh : Int) (v : Value) (xss : List (List Int)) (x' y' wh' : Int) (v' : Value) (yss : List (List Int)) (k : Int) (w : World) (h : IRows w v xss) (h' : IRows w v' yss) (hn : total xss ≤ 1048576) (hn' : total yss ≤ 1048576) :
    Calls Try.prog 46 #[.agg #[.int .i64 x, .int .i64 y, .int .i64 wh, v], .agg #[.int .i64 x', .int .i64 y', .int .i64 wh', v'], .int .i64 k] w fun e w' => ∃ u u', e = .returned (.tuple #[u, u', .int .i64 (res x y wh xss x' y' wh' yss k).v, .bool (res x y wh xss x' y' wh' yss k).ok]) ∧ Pair w' w.heap.size w'.heap.size u u' (res x y wh xss x' y' wh' yss k).f (res x y wh xss x' y' wh' yss k).s ∧ Below w.heap.size w w' := by
  by_cases hk : 0 ≤ k ∧ k ≤ 7
  · obtain ⟨m, rfl⟩ : ∃ m : Nat, k = (m : Int) := ⟨k.toNat, by omega⟩
    by_cases hok : ok2 x y wh xss x' y' wh' yss
    · exact impl_yes x y wh v xss x' y' wh' v' yss m w h h' hn hn' (by omega) hok
    · exact impl_bad x y wh v xss x' y' wh' v' yss m w h h' hn hn' (by omega) hok
  · exact impl_kind x y wh v xss x' y' wh' v' yss k w h h' hk


end Go.Proofs.Ytneonebgneonkaa.bam
