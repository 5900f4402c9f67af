/- MixWirings of the model. -/
import Derived.Test.YtiigfhigmdjooaaMxq
import Derived.Test.YtiigfhigmdjooaaWlo
namespace Go.Proofs.Ytiigfhigmdjooaa.mxw
open Go.RowKit Go.Deep Go.Proofs.Ytiigfhigmdjooaa.base
open Go.Proofs.Ytiigfhigmdjooaa.rws (total)
open Go.Proofs.Ytiigfhigmdjooaa.rls (R3 Rls At)
open Go.Proofs.Ytiigfhigmdjooaa.rule (RV OR)
open Go.Proofs.Ytiigfhigmdjooaa.val (okBox boxB boxB_yes boxB_no)
open Go.Proofs.Ytiigfhigmdjooaa.wis (ok2 ok2B ok2B_yes ok2B_no)
open Go.Proofs.Ytiigfhigmdjooaa.mix (set4 set4_same set4_wrote)

theorem lowb {w w' : World} {B : Nat} {r : Value} {xss : List (List Int)} (h : mix.Low w B r xss) (hb : Below w.heap.size w w') : mix.Low w' B r xss := by
  rcases h with ⟨k, D, h, rfl⟩ | ⟨rfl, rfl⟩
  · exact .inl ⟨k, D, h.below hb, rfl⟩
  · exact .inr ⟨rfl, rfl⟩
theorem lowm {w : World} {B B' : Nat} {r : Value} {xss : List (List Int)} (h : mix.Low w B r xss) (hB : B' ≤ B) : mix.Low w B' r xss := by
  rcases h with ⟨k, D, h, rfl⟩ | ⟨rfl, rfl⟩
  · exact .inl ⟨k, D, h.mono hB, rfl⟩
  · exact .inr ⟨rfl, rfl⟩
structure WayM (w3 W : World) (g : Nat) (s : make.Res) (r : Value) : Prop where
  below : Below w3.heap.size w3 W
  blk : Blk W g 28 #[.int .i64 s.x, .int .i64 s.y, .int .i64 s.wh, r]
  rows : mix.Low W w3.heap.size r s.rows
  hg : w3.heap.size ≤ g
/-- the mixture of the first i -/
def upTo (x y wh : Int) (xss : List (List Int)) (x' y' wh' : Int) (yss : List (List Int)) (rs ts : List R3) (i : Nat) (s : make.Res) : Prop := (i = 0 ∧ s = make.Res.zero) ∨ (0 < i ∧ s = st x y wh xss x' y' wh' yss rs ts (i - 1) ∧ s.x = 2 ∧ s.y = 2 ∧ okBox 2 2 s.wh s.rows ∧ s.ok = true)


set_option maxRecDepth 100000 in
set_option maxHeartbeats 4000000 in
theorem spec_bad (x y wh : Int) (v : Value) (xss : List (List Int)) (x' y' wh' : Int) (v' : Value) (yss : List (List Int)) (q : Value) (rs : List R3) (q' : Value) (ts : List R3) (w : World) (h : IRows w v xss) (h' : IRows w v' yss) (hn : total xss ≤ 1048576) (hn' : total yss ≤ 1048576) (hq : Rls w q rs) (hq' : Rls w q' ts) (hok : ¬ ok2 x y wh xss x' y' wh' yss) :
    Calls Try.prog 17 #[.agg #[.int .i64 x, .int .i64 y, .int .i64 wh, v], .agg #[.int .i64 x', .int .i64 y', .int .i64 wh', v'], q, q'] w fun e w' => ∃ r, e = .returned (.tuple #[.agg #[.int .i64 (res x y wh xss x' y' wh' yss rs ts).x, .int .i64 (res x y wh xss x' y' wh' yss rs ts).y, .int .i64 (res x y wh xss x' y' wh' yss rs ts).wh, r], .bool (res x y wh xss x' y' wh' yss rs ts).ok]) ∧ mix.Low w' w.heap.size r (res x y wh xss x' y' wh' yss rs ts).rows ∧ Below w.heap.size w w' := by
  obtain ⟨va, vn, vc, rfl⟩ := h.shape
  obtain ⟨ua, un, uc, rfl⟩ := h'.shape
  obtain ⟨A1, b1, o1, c1, rfl, hcap1, hmax1, hA1, hc1⟩ := hq
  obtain ⟨A2, b2, o2, c2, rfl, hcap2, hmax2, hA2, hc2⟩ := hq'
  have B3 := below_al (below_al (below_al (Below.refl w.heap.size w) (.cells #[.int .i64 x, .int .i64 y, .int .i64 wh, .slice va vn vc] 28)) (.cells #[.int .i64 x', .int .i64 y', .int .i64 wh', .slice ua un uc] 28)) (.cells #[.int .i64 0, .int .i64 0, .int .i64 0, .slice none 0 0] 28)
  have P1 := ((Blk.new w 28 #[.int .i64 x, .int .i64 y, .int .i64 wh, .slice va vn vc]).alloc (.cells #[.int .i64 x', .int .i64 y', .int .i64 wh', .slice ua un uc] 28)).alloc (.cells #[.int .i64 0, .int .i64 0, .int .i64 0, .slice none 0 0] 28)
  have P2 : Blk (((w.alloc (.cells #[.int .i64 x, .int .i64 y, .int .i64 wh, .slice va vn vc] 28)).alloc (.cells #[.int .i64 x', .int .i64 y', .int .i64 wh', .slice ua un uc] 28)).alloc (.cells #[.int .i64 0, .int .i64 0, .int .i64 0, .slice none 0 0] 28)) (w.heap.size + 1) 28 #[.int .i64 x', .int .i64 y', .int .i64 wh', .slice ua un uc] := by have := (Blk.new (w.alloc (.cells #[.int .i64 x, .int .i64 y, .int .i64 wh, .slice va vn vc] 28)) 28 #[.int .i64 x', .int .i64 y', .int .i64 wh', .slice ua un uc]).alloc (.cells #[.int .i64 0, .int .i64 0, .int .i64 0, .slice none 0 0] 28); simpa using this
  have P3 : Blk (((w.alloc (.cells #[.int .i64 x, .int .i64 y, .int .i64 wh, .slice va vn vc] 28)).alloc (.cells #[.int .i64 x', .int .i64 y', .int .i64 wh', .slice ua un uc] 28)).alloc (.cells #[.int .i64 0, .int .i64 0, .int .i64 0, .slice none 0 0] 28)) (w.heap.size + 1 + 1) 28 #[.int .i64 0, .int .i64 0, .int .i64 0, .slice none 0 0] := by have := Blk.new ((w.alloc (.cells #[.int .i64 x, .int .i64 y, .int .i64 wh, .slice va vn vc] 28)).alloc (.cells #[.int .i64 x', .int .i64 y', .int .i64 wh', .slice ua un uc] 28)) 28 #[.int .i64 0, .int .i64 0, .int .i64 0, .slice none 0 0]; simpa using this
  have hz3 : (((w.alloc (.cells #[.int .i64 x, .int .i64 y, .int .i64 wh, .slice va vn vc] 28)).alloc (.cells #[.int .i64 x', .int .i64 y', .int .i64 wh', .slice ua un uc] 28)).alloc (.cells #[.int .i64 0, .int .i64 0, .int .i64 0, .slice none 0 0] 28)).heap.size = w.heap.size + 1 + 1 + 1 := by simp
  have HVA := Lib.hid (h.below B3)
  have HVB := Lib.hid (h'.below B3)
  have HC1 := Lib.hid (fun k hk => (hc1 k hk).below B3)
  have HC2 := Lib.hid (fun k hk => (hc2 k hk).below B3)
  have HA1 := Lib.hid hA1
  have HA2 := Lib.hid hA2
  obtain ⟨w3, hw3⟩ : ∃ w3, (((w.alloc (.cells #[.int .i64 x, .int .i64 y, .int .i64 wh, .slice va vn vc] 28)).alloc (.cells #[.int .i64 x', .int .i64 y', .int .i64 wh', .slice ua un uc] 28)).alloc (.cells #[.int .i64 0, .int .i64 0, .int .i64 0, .slice none 0 0] 28)) = w3 := ⟨_, rfl⟩
  rw [hw3] at B3 P1 P2 P3 HVA HVB HC1 HC2 hz3
  have BB := Lib.hid B3
  have HZ3 := Lib.hid hz3
  have HP1 := Lib.hid P1
  have HP2 := Lib.hid P2
  have HP3 := Lib.hid P3
  have hl1 : (rs.length : Int) ≤ 9223372036854775807 := by unfold maxLen at hmax1; omega
  have CA := wis.l10Both x y wh _ xss x' y' wh' _ yss w3 HVA.out HVB.out hn hn'
  clear h h' hc1 hc2 hA1 hA2 B3 P1 P2 P3 hz3 hcap1 hmax1 hcap2 hmax2
  have HR : Hid (res x y wh xss x' y' wh' yss rs ts = make.Res.zero) := Lib.hid (by
    by_cases hne : 0 < rs.length ∧ rs.length = ts.length
    · rw [res_yes hne]; exact st_bad (fun h => hok ⟨h.1, h.2⟩) _
    · exact res_no hne)
  rw [ok2B_no hok] at CA
  have HA := Lib.hid CA
  clear CA hok HC1 HC2 HA1 HA2 hn hn'
  go_enter Try.func17, Try.ntmps17
  obtain ⟨c0, c1', c2', c3, c4⟩ := four_cells HP1.out
  obtain ⟨d0, d1, d2, d3, d4⟩ := four_cells HP2.out
  go_wp2_with fail
  clear hw3
  refine HA.out.mono ?_
  rintro e w4 ⟨rfl, hb⟩
  have B4 := Lib.hid hb
  have R4 := Lib.hid (HP3.out.below hb)
  clear hb c0 c1' c2' c3 c4 d0 d1 d2 d3 d4
  obtain ⟨r0, r1, r2, r3, r4⟩ := four_cells R4.out
  have rf : ∀ q, w4.frozen? ⟨w.heap.size + 1 + 1, q, none⟩ = false := fun q => Joins.unfrozen_of_block R4.out q
  go_wp2_with fail
  refine bodyPost_ret (v := .tuple #[.agg #[.int .i64 0, .int .i64 0, .int .i64 0, .slice none 0 0], .bool false]) (by simp [results, Try.results17, go_sem, r0, r1, r2, r3]) rfl ?_
  rw [HR.out]
  refine ⟨_, rfl, .inr ⟨rfl, rfl⟩, ?_⟩
  repeat (first | (with_reducible exact below_tr BB.out B4.out) | (with_reducible refine Below.setCell ?_ (by first | (simp; done) | (simp; omega) | omega) _))
set_option maxRecDepth 100000 in
set_option maxHeartbeats 4000000 in
theorem spec_len (x y wh : Int) (v : Value) (xss : List (List Int)) (x' y' wh' : Int) (v' : Value) (yss : List (List Int)) (q : Value) (rs : List R3) (q' : Value) (ts : List R3) (w : World) (h : IRows w v xss) (h' : IRows w v' yss) (hn : total xss ≤ 1048576) (hn' : total yss ≤ 1048576) (hq : Rls w q rs) (hq' : Rls w q' ts) (hok : ok2 x y wh xss x' y' wh' yss) (hne : ¬ (0 < rs.length ∧ rs.length = ts.length)) :
    Calls Try.prog 17 #[.agg #[.int .i64 x, .int .i64 y, .int .i64 wh, v], .agg #[.int .i64 x', .int .i64 y', .int .i64 wh', v'], q, q'] w fun e w' => ∃ r, e = .returned (.tuple #[.agg #[.int .i64 (res x y wh xss x' y' wh' yss rs ts).x, .int .i64 (res x y wh xss x' y' wh' yss rs ts).y, .int .i64 (res x y wh xss x' y' wh' yss rs ts).wh, r], .bool (res x y wh xss x' y' wh' yss rs ts).ok]) ∧ mix.Low w' w.heap.size r (res x y wh xss x' y' wh' yss rs ts).rows ∧ Below w.heap.size w w' := by
  obtain ⟨va, vn, vc, rfl⟩ := h.shape
  obtain ⟨ua, un, uc, rfl⟩ := h'.shape
  obtain ⟨A1, b1, o1, c1, rfl, hcap1, hmax1, hA1, hc1⟩ := hq
  obtain ⟨A2, b2, o2, c2, rfl, hcap2, hmax2, hA2, hc2⟩ := hq'
  have B3 := below_al (below_al (below_al (Below.refl w.heap.size w) (.cells #[.int .i64 x, .int .i64 y, .int .i64 wh, .slice va vn vc] 28)) (.cells #[.int .i64 x', .int .i64 y', .int .i64 wh', .slice ua un uc] 28)) (.cells #[.int .i64 0, .int .i64 0, .int .i64 0, .slice none 0 0] 28)
  have P1 := ((Blk.new w 28 #[.int .i64 x, .int .i64 y, .int .i64 wh, .slice va vn vc]).alloc (.cells #[.int .i64 x', .int .i64 y', .int .i64 wh', .slice ua un uc] 28)).alloc (.cells #[.int .i64 0, .int .i64 0, .int .i64 0, .slice none 0 0] 28)
  have P2 : Blk (((w.alloc (.cells #[.int .i64 x, .int .i64 y, .int .i64 wh, .slice va vn vc] 28)).alloc (.cells #[.int .i64 x', .int .i64 y', .int .i64 wh', .slice ua un uc] 28)).alloc (.cells #[.int .i64 0, .int .i64 0, .int .i64 0, .slice none 0 0] 28)) (w.heap.size + 1) 28 #[.int .i64 x', .int .i64 y', .int .i64 wh', .slice ua un uc] := by have := (Blk.new (w.alloc (.cells #[.int .i64 x, .int .i64 y, .int .i64 wh, .slice va vn vc] 28)) 28 #[.int .i64 x', .int .i64 y', .int .i64 wh', .slice ua un uc]).alloc (.cells #[.int .i64 0, .int .i64 0, .int .i64 0, .slice none 0 0] 28); simpa using this
  have P3 : Blk (((w.alloc (.cells #[.int .i64 x, .int .i64 y, .int .i64 wh, .slice va vn vc] 28)).alloc (.cells #[.int .i64 x', .int .i64 y', .int .i64 wh', .slice ua un uc] 28)).alloc (.cells #[.int .i64 0, .int .i64 0, .int .i64 0, .slice none 0 0] 28)) (w.heap.size + 1 + 1) 28 #[.int .i64 0, .int .i64 0, .int .i64 0, .slice none 0 0] := by have := Blk.new ((w.alloc (.cells #[.int .i64 x, .int .i64 y, .int .i64 wh, .slice va vn vc] 28)).alloc (.cells #[.int .i64 x', .int .i64 y', .int .i64 wh', .slice ua un uc] 28)) 28 #[.int .i64 0, .int .i64 0, .int .i64 0, .slice none 0 0]; simpa using this
  have hz3 : (((w.alloc (.cells #[.int .i64 x, .int .i64 y, .int .i64 wh, .slice va vn vc] 28)).alloc (.cells #[.int .i64 x', .int .i64 y', .int .i64 wh', .slice ua un uc] 28)).alloc (.cells #[.int .i64 0, .int .i64 0, .int .i64 0, .slice none 0 0] 28)).heap.size = w.heap.size + 1 + 1 + 1 := by simp
  have HVA := Lib.hid (h.below B3)
  have HVB := Lib.hid (h'.below B3)
  have HC1 := Lib.hid (fun k hk => (hc1 k hk).below B3)
  have HC2 := Lib.hid (fun k hk => (hc2 k hk).below B3)
  have HA1 := Lib.hid hA1
  have HA2 := Lib.hid hA2
  obtain ⟨w3, hw3⟩ : ∃ w3, (((w.alloc (.cells #[.int .i64 x, .int .i64 y, .int .i64 wh, .slice va vn vc] 28)).alloc (.cells #[.int .i64 x', .int .i64 y', .int .i64 wh', .slice ua un uc] 28)).alloc (.cells #[.int .i64 0, .int .i64 0, .int .i64 0, .slice none 0 0] 28)) = w3 := ⟨_, rfl⟩
  rw [hw3] at B3 P1 P2 P3 HVA HVB HC1 HC2 hz3
  have BB := Lib.hid B3
  have HZ3 := Lib.hid hz3
  have HP1 := Lib.hid P1
  have HP2 := Lib.hid P2
  have HP3 := Lib.hid P3
  have hl1 : (rs.length : Int) ≤ 9223372036854775807 := by unfold maxLen at hmax1; omega
  have CA := wis.l10Both x y wh _ xss x' y' wh' _ yss w3 HVA.out HVB.out hn hn'
  clear h h' hc1 hc2 hA1 hA2 B3 P1 P2 P3 hz3 hcap1 hmax1 hcap2 hmax2
  have HR := Lib.hid (res_no (x := x) (y := y) (wh := wh) (xss := xss) (x' := x') (y' := y') (wh' := wh') (yss := yss) hne)
  rw [ok2B_yes hok] at CA
  have HA := Lib.hid CA
  obtain ⟨n, hnn⟩ : ∃ n, rs.length = n := ⟨_, rfl⟩
  obtain ⟨m, hm⟩ : ∃ m, ts.length = m := ⟨_, rfl⟩
  rw [hnn, hm] at hne
  rw [hnn, hm]
  clear CA hok HC1 HC2 HA1 HA2 hn hn' hnn hm
  by_cases h0 : n = 0
  · subst h0
    clear hne
    go_enter Try.func17, Try.ntmps17
    obtain ⟨c0, c1', c2', c3, c4⟩ := four_cells HP1.out
    obtain ⟨d0, d1, d2, d3, d4⟩ := four_cells HP2.out
    go_wp2_with fail
    clear hw3
    refine HA.out.mono ?_
    rintro e w4 ⟨rfl, hb⟩
    have B4 := Lib.hid hb
    have R4 := Lib.hid (HP3.out.below hb)
    clear hb c0 c1' c2' c3 c4 d0 d1 d2 d3 d4
    obtain ⟨r0, r1, r2, r3, r4⟩ := four_cells R4.out
    have rf : ∀ q, w4.frozen? ⟨w.heap.size + 1 + 1, q, none⟩ = false := fun q => Joins.unfrozen_of_block R4.out q
    go_wp2_with fail
    refine bodyPost_ret (v := .tuple #[.agg #[.int .i64 0, .int .i64 0, .int .i64 0, .slice none 0 0], .bool false]) (by simp [results, Try.results17, go_sem, r0, r1, r2, r3]) rfl ?_
    rw [HR.out]
    refine ⟨_, rfl, .inr ⟨rfl, rfl⟩, ?_⟩
    repeat (first | (with_reducible exact below_tr BB.out B4.out) | (with_reducible refine Below.setCell ?_ (by first | (simp; done) | (simp; omega) | omega) _))
  · have d0' : ((n : Int) == 0) = false := by simp; omega
    have d1' : ((n : Int) != (m : Int)) = true := by simp; omega
    have h1 : ¬ (n : Int) = 0 := by omega
    have h2 : ¬ (n : Int) = (m : Int) := by omega
    clear hne
    go_enter Try.func17, Try.ntmps17
    obtain ⟨c0, c1', c2', c3, c4⟩ := four_cells HP1.out
    obtain ⟨d0, d1, d2, d3, d4⟩ := four_cells HP2.out
    go_wp2_with fail
    clear hw3
    refine HA.out.mono ?_
    rintro e w4 ⟨rfl, hb⟩
    have B4 := Lib.hid hb
    have R4 := Lib.hid (HP3.out.below hb)
    clear hb c0 c1' c2' c3 c4 d0 d1 d2 d3 d4
    obtain ⟨r0, r1, r2, r3, r4⟩ := four_cells R4.out
    have rf : ∀ q, w4.frozen? ⟨w.heap.size + 1 + 1, q, none⟩ = false := fun q => Joins.unfrozen_of_block R4.out q
    go_wp2_with fail
    refine bodyPost_ret (v := .tuple #[.agg #[.int .i64 0, .int .i64 0, .int .i64 0, .slice none 0 0], .bool false]) (by simp [results, Try.results17, go_sem, r0, r1, r2, r3]) rfl ?_
    rw [HR.out]
    refine ⟨_, rfl, .inr ⟨rfl, rfl⟩, ?_⟩
    repeat (first | (with_reducible exact below_tr BB.out B4.out) | (with_reducible refine Below.setCell ?_ (by first | (simp; done) | (simp; omega) | omega) _))
theorem okwi {x y wh : Int} {xss : List (List Int)} {x' y' wh' : Int} {yss : List (List Int)} {rs ts : List R3} (hok : ok2 x y wh xss x' y' wh' yss) (i : Nat) : (wi x y wh xss x' y' wh' yss rs ts i) = make.Res.zero ∨ ∃ V YS, (wi x y wh xss x' y' wh' yss rs ts i) = ⟨2, 2, V, YS, true⟩ ∧ okBox 2 2 V YS ∧ total YS ≤ 1048576 := by
  by_cases h : (wrm.rule (at_ rs i).f (at_ rs i).k (at_ rs i).s ∧ wrm.rule (at_ ts i).f (at_ ts i).k (at_ ts i).s)
  · right
    have e : (wi x y wh xss x' y' wh' yss rs ts i) = _ := wrm.res_yes ⟨⟨hok.1, h.1, h.2⟩, hok.2⟩
    refine ⟨_, _, e, wrm.box_ok hok.1.1 hok.1.2 h.1 h.2 hok.2, ?_⟩
    have := tot_wi (x := x) (y := y) (wh := wh) (xss := xss) (x' := x') (y' := y') (wh' := wh') (yss := yss) (rs := rs) (ts := ts) i
    rw [e] at this
    exact this
  · left
    exact wrm.res_no (fun h' => h h'.1.2)
set_option maxRecDepth 100000 in
set_option maxHeartbeats 16000000 in
theorem spec_yes (x y wh : Int) (v : Value) (xss : List (List Int)) (x' y' wh' : Int) (v' : Value) (yss : List (List Int)) (q : Value) (rs : List R3) (q' : Value) (ts : List R3) (w : World) (h : IRows w v xss) (h' : IRows w v' yss) (hn : total xss ≤ 1048576) (hn' : total yss ≤ 1048576) (hq : Rls w q rs) (hq' : Rls w q' ts) (hok : ok2 x y wh xss x' y' wh' yss) (hne : 0 < rs.length ∧ rs.length = ts.length) :
    Calls Try.prog 17 #[.agg #[.int .i64 x, .int .i64 y, .int .i64 wh, v], .agg #[.int .i64 x', .int .i64 y', .int .i64 wh', v'], q, q'] w fun e w' => ∃ r, e = .returned (.tuple #[.agg #[.int .i64 (res x y wh xss x' y' wh' yss rs ts).x, .int .i64 (res x y wh xss x' y' wh' yss rs ts).y, .int .i64 (res x y wh xss x' y' wh' yss rs ts).wh, r], .bool (res x y wh xss x' y' wh' yss rs ts).ok]) ∧ mix.Low w' w.heap.size r (res x y wh xss x' y' wh' yss rs ts).rows ∧ Below w.heap.size w w' := by
  obtain ⟨va, vn, vc, rfl⟩ := h.shape
  obtain ⟨ua, un, uc, rfl⟩ := h'.shape
  obtain ⟨A1, b1, o1, c1, rfl, hcap1, hmax1, hA1, hc1⟩ := hq
  obtain ⟨A2, b2, o2, c2, rfl, hcap2, hmax2, hA2, hc2⟩ := hq'
  have B3 := below_al (below_al (below_al (Below.refl w.heap.size w) (.cells #[.int .i64 x, .int .i64 y, .int .i64 wh, .slice va vn vc] 28)) (.cells #[.int .i64 x', .int .i64 y', .int .i64 wh', .slice ua un uc] 28)) (.cells #[.int .i64 0, .int .i64 0, .int .i64 0, .slice none 0 0] 28)
  have P1 := ((Blk.new w 28 #[.int .i64 x, .int .i64 y, .int .i64 wh, .slice va vn vc]).alloc (.cells #[.int .i64 x', .int .i64 y', .int .i64 wh', .slice ua un uc] 28)).alloc (.cells #[.int .i64 0, .int .i64 0, .int .i64 0, .slice none 0 0] 28)
  have P2 : Blk (((w.alloc (.cells #[.int .i64 x, .int .i64 y, .int .i64 wh, .slice va vn vc] 28)).alloc (.cells #[.int .i64 x', .int .i64 y', .int .i64 wh', .slice ua un uc] 28)).alloc (.cells #[.int .i64 0, .int .i64 0, .int .i64 0, .slice none 0 0] 28)) (w.heap.size + 1) 28 #[.int .i64 x', .int .i64 y', .int .i64 wh', .slice ua un uc] := by have := (Blk.new (w.alloc (.cells #[.int .i64 x, .int .i64 y, .int .i64 wh, .slice va vn vc] 28)) 28 #[.int .i64 x', .int .i64 y', .int .i64 wh', .slice ua un uc]).alloc (.cells #[.int .i64 0, .int .i64 0, .int .i64 0, .slice none 0 0] 28); simpa using this
  have P3 : Blk (((w.alloc (.cells #[.int .i64 x, .int .i64 y, .int .i64 wh, .slice va vn vc] 28)).alloc (.cells #[.int .i64 x', .int .i64 y', .int .i64 wh', .slice ua un uc] 28)).alloc (.cells #[.int .i64 0, .int .i64 0, .int .i64 0, .slice none 0 0] 28)) (w.heap.size + 1 + 1) 28 #[.int .i64 0, .int .i64 0, .int .i64 0, .slice none 0 0] := by have := Blk.new ((w.alloc (.cells #[.int .i64 x, .int .i64 y, .int .i64 wh, .slice va vn vc] 28)).alloc (.cells #[.int .i64 x', .int .i64 y', .int .i64 wh', .slice ua un uc] 28)) 28 #[.int .i64 0, .int .i64 0, .int .i64 0, .slice none 0 0]; simpa using this
  have hz3 : (((w.alloc (.cells #[.int .i64 x, .int .i64 y, .int .i64 wh, .slice va vn vc] 28)).alloc (.cells #[.int .i64 x', .int .i64 y', .int .i64 wh', .slice ua un uc] 28)).alloc (.cells #[.int .i64 0, .int .i64 0, .int .i64 0, .slice none 0 0] 28)).heap.size = w.heap.size + 1 + 1 + 1 := by simp
  have HVA := Lib.hid (h.below B3)
  have HVB := Lib.hid (h'.below B3)
  have HC1 := Lib.hid (fun k hk => (hc1 k hk).below B3)
  have HC2 := Lib.hid (fun k hk => (hc2 k hk).below B3)
  have HA1 := Lib.hid hA1
  have HA2 := Lib.hid hA2
  obtain ⟨w3, hw3⟩ : ∃ w3, (((w.alloc (.cells #[.int .i64 x, .int .i64 y, .int .i64 wh, .slice va vn vc] 28)).alloc (.cells #[.int .i64 x', .int .i64 y', .int .i64 wh', .slice ua un uc] 28)).alloc (.cells #[.int .i64 0, .int .i64 0, .int .i64 0, .slice none 0 0] 28)) = w3 := ⟨_, rfl⟩
  rw [hw3] at B3 P1 P2 P3 HVA HVB HC1 HC2 hz3
  have BB := Lib.hid B3
  have HZ3 := Lib.hid hz3
  have HP1 := Lib.hid P1
  have HP2 := Lib.hid P2
  have HP3 := Lib.hid P3
  have hl1 : (rs.length : Int) ≤ 9223372036854775807 := by unfold maxLen at hmax1; omega
  have CA := wis.l10Both x y wh _ xss x' y' wh' _ yss w3 HVA.out HVB.out hn hn'
  clear h h' hc1 hc2 hA1 hA2 B3 P1 P2 P3 hz3 hcap1 hmax1 hcap2 hmax2
  have HR := Lib.hid (res_yes (x := x) (y := y) (wh := wh) (xss := xss) (x' := x') (y' := y') (wh' := wh') (yss := yss) hne)
  have e1 := HA1.out hne.1
  have e2 := HA2.out (by omega)
  subst e1 e2
  rw [ok2B_yes hok] at CA
  have HA := Lib.hid CA
  have HOW := Lib.hid (fun i => okwi (rs := rs) (ts := ts) hok i)
  have HWB := Lib.hid (fun (i : Nat) (h1 : i < rs.length) (h2 : i < ts.length) (W : World) (hb : Below w3.heap.size w3 W) (a0 : Value) (a1 : Value) (a2 : Value) (e0 : Value) (e1 : Value) (e2 : Value) (hr : RV W a0 rs[i].f a1 rs[i].k a2 rs[i].s) (hr' : RV W e0 ts[i].f e1 ts[i].k e2 ts[i].s) => (show Calls Try.prog 69 #[.agg #[.int .i64 x, .int .i64 y, .int .i64 wh, .slice va vn vc], .agg #[.int .i64 x', .int .i64 y', .int .i64 wh', .slice ua un uc], .agg #[a0, a1, a2], .agg #[e0, e1, e2]] W fun e w' => ∃ r, e = .returned (.tuple #[.agg #[.int .i64 (wi x y wh xss x' y' wh' yss rs ts i).x, .int .i64 (wi x y wh xss x' y' wh' yss rs ts i).y, .int .i64 (wi x y wh xss x' y' wh' yss rs ts i).wh, r], .bool (wi x y wh xss x' y' wh' yss rs ts i).ok]) ∧ mix.Low w' W.heap.size r (wi x y wh xss x' y' wh' yss rs ts i).rows ∧ Below W.heap.size W w' from by
    have := wis.spec_apart x y wh _ xss x' y' wh' _ yss _ _ _ _ _ _ _ _ _ _ _ _ W (HVA.out.below hb) (HVB.out.below hb) hn hn' hr hr'
    unfold wi
    rw [at_get h1, at_get h2]
    exact this))
  obtain ⟨n, hnl⟩ : ∃ n, rs.length = n := ⟨_, rfl⟩
  have hml : ts.length = n := by omega
  have HN := Lib.hid (And.intro hnl hml)
  have n0' : ¬ (n : Int) = 0 := by omega
  have d0' : ((n : Int) == 0) = false := by simp; omega
  have n1' : (0 : Int) < (n : Int) := by omega
  have n2' : 0 < n := by omega
  have HN0 : Hid (0 < n) := Lib.hid n2'
  rw [hnl] at hl1
  rw [hnl, hml]
  clear hne hnl hml hn hn' HA1 HA2 CA hok
  go_enter Try.func17, Try.ntmps17
  obtain ⟨c0, c1', c2', c3, c4⟩ := four_cells HP1.out
  obtain ⟨d0, d1, d2, d3, d4⟩ := four_cells HP2.out
  go_wp2_with fail
  clear hw3
  refine HA.out.mono ?_
  rintro e w4 ⟨rfl, hb⟩
  have B4 := Lib.hid hb
  have R4 := Lib.hid (HP3.out.below hb)
  clear hb c0 c1' c2' c3 c4 d0 d1 d2 d3 d4
  have W40 : Hid (WayM w3 (w4.alloc (.cells #[.int .i64 0, .int .i64 0, .int .i64 0, .slice none 0 0] 28)) w4.heap.size make.Res.zero (.slice none 0 0)) := Lib.hid ⟨below_al B4.out _, Blk.new _ _ _, .inr ⟨rfl, rfl⟩, B4.out.size⟩
  obtain ⟨gg, hgg⟩ : ∃ gg, w4.heap.size = gg := ⟨_, rfl⟩
  go_wp2_with fail
  rw [hgg] at W40
  try rw [hgg]
  clear hgg
  go_loopw [11, 12, 13] (fun iv z12 z13 wr => ∃ (i : Nat) (s : make.Res) (ra : Option Addr) (rn rc : Nat), i ≤ n ∧ iv = .int .i64 (i : Int) ∧ (∃ z, z12 = z) ∧ (∃ z, z13 = z) ∧ Hid (upTo x y wh xss x' y' wh' yss rs ts i s) ∧ Hid (WayM w3 wr gg s (.slice ra rn rc))) (fun iv _ _ _ => n - (intOf iv).toNat)
  case atStart => exact ⟨0, _, none, 0, 0, Nat.zero_le _, rfl, ⟨_, rfl⟩, ⟨_, rfl⟩, Lib.hid (.inl ⟨rfl, rfl⟩), W40⟩
  case round =>
    clear W40
    obtain ⟨i, s, ra, rn, rc, hi, rfl, ⟨z12, rfl⟩, ⟨z13, rfl⟩, hs, hW⟩ := hrel
    obtain ⟨wo, rfl⟩ : ∃ wo : World, wo = wr := ⟨_, rfl⟩
    by_cases hlt : i < n
    · have hiz : (i : Int) < (n : Int) := by omega
      have HIN := Lib.hid hlt
      have hr1 : i < rs.length := by have := HN.out.1; omega
      have hr2 : i < ts.length := by have := HN.out.2; omega
      obtain ⟨a0, a1, a2, a3, a4, a5, a6, a7, a8, m0, m1, m2, hra⟩ := (HC1.out i hr1).below hW.out.below
      obtain ⟨e0, e1, e2, e3, e4, e5, e6, e7, e8, n0, n1, n2, hre⟩ := (HC2.out i hr2).below hW.out.below
      have HW := Lib.hid (fun (W : World) (hb : Below wo.heap.size wo W) => HWB.out i hr1 hr2 W (below_tr hW.out.below hb) _ _ _ _ _ _ (hra.below hb) (hre.below hb))
      obtain ⟨p0, p1, p2, p3, p4⟩ := four_cells (HP1.out.below hW.out.below)
      obtain ⟨q0, q1, q2, q3, q4⟩ := four_cells (HP2.out.below hW.out.below)
      have HSZ : Hid ((wi x y wh xss x' y' wh' yss rs ts i) = make.Res.zero → res x y wh xss x' y' wh' yss rs ts = make.Res.zero) := Lib.hid (fun hz => by
        rw [HR.out]
        have hl := HN.out.1
        refine st_stop' (i := i) ?_ (by omega)
        cases i with
        | zero => exact hz
        | succ j => exact mx_bad _ _ hz)
      clear hra hre hr1 hr2 hlt
      rcases HOW.out i with hz | ⟨V, YS, he, hbx, ht⟩
      · have HWK : Hid ((wi x y wh xss x' y' wh' yss rs ts i).ok = false) := Lib.hid (by rw [hz]; rfl)
        have HEZ := Lib.hid (HSZ.out hz)
        clear hz
        go_wp2_with fail
        go_region_held3 (fun w' => w'.cell? ⟨w.heap.size, 0, none⟩ = some (.int .i64 x) ∧ w'.cell? ⟨w.heap.size, 1, none⟩ = some (.int .i64 y) ∧ w'.cell? ⟨w.heap.size, 2, none⟩ = some (.int .i64 wh) ∧ w'.cell? ⟨w.heap.size, 3, none⟩ = some (.slice va vn vc) ∧ w'.cell? ⟨w.heap.size + 1, 0, none⟩ = some (.int .i64 x') ∧ w'.cell? ⟨w.heap.size + 1, 1, none⟩ = some (.int .i64 y') ∧ w'.cell? ⟨w.heap.size + 1, 2, none⟩ = some (.int .i64 wh') ∧ w'.cell? ⟨w.heap.size + 1, 3, none⟩ = some (.slice ua un uc) ∧ w'.cell? ⟨b1, o1 + i * 3, none⟩ = some (.slice a0 a1 a2) ∧ w'.cell? ⟨b1, o1 + i * 3 + 1, none⟩ = some (.slice a3 a4 a5) ∧ w'.cell? ⟨b1, o1 + i * 3 + 2, none⟩ = some (.slice a6 a7 a8) ∧ w'.cell? ⟨b2, o2 + i * 3, none⟩ = some (.slice e0 e1 e2) ∧ w'.cell? ⟨b2, o2 + i * 3 + 1, none⟩ = some (.slice e3 e4 e5) ∧ w'.cell? ⟨b2, o2 + i * 3 + 2, none⟩ = some (.slice e6 e7 e8) ∧ Below wo.heap.size wo w')
          ((refine held14 rfl p0 p1 p2 p3 q0 q1 q2 q3 m0 m1 m2 n0 n1 n2 ?_; repeat (first | (with_reducible exact Below.refl _ _) | (with_reducible refine below_dr ?_) | (with_reducible refine below_al ?_ _) | (with_reducible exact E5.out) | (with_reducible refine Below.setCell ?_ (by first | (simp; done) | (simp; omega) | omega) _))))
          (first | (go_at_call 69; (with_reducible refine (HW.out _ ?_).mono ?_); (first | (with_reducible exact below_dr (Below.refl _ _)) | (with_reducible exact below_dr (below_al (Below.refl _ _) _))); rintro e w5 ⟨r5, rfl, h5, hb5⟩; obtain ⟨xa, xn, xc, rfl⟩ := h5.rows.shape; have z5 := hb5.size; have E5 := Lib.hid (by first | exact below_tr (below_dr (Below.refl wo.heap.size wo)) hb5 | exact below_tr (below_dr (below_al (Below.refl wo.heap.size wo) _)) hb5); have y5 := E5.out.size; try (have gB := (Blk.new wo 28 #[.int .i64 0, .int .i64 0, .int .i64 0, .slice none 0 0]).below (below_tr (below_dr (Below.refl _ _)) hb5); obtain ⟨t0, t1, t2, t3, t4⟩ := four_cells gB; have rf5 : ∀ q, w5.frozen? ⟨wo.heap.size, q, none⟩ = false := fun q => Joins.unfrozen_of_block gB q)))
        · skip
          have B7 := below_al E5.out (.cells #[.int .i64 (wi x y wh xss x' y' wh' yss rs ts i).x, .int .i64 (wi x y wh xss x' y' wh' yss rs ts i).y, .int .i64 (wi x y wh xss x' y' wh' yss rs ts i).wh, .slice xa xn xc] 28)
          have G7 := Blk.new w5 28 #[.int .i64 (wi x y wh xss x' y' wh' yss rs ts i).x, .int .i64 (wi x y wh xss x' y' wh' yss rs ts i).y, .int .i64 (wi x y wh xss x' y' wh' yss rs ts i).wh, .slice xa xn xc]
          have O7 : mix.Low (w5.alloc (.cells #[.int .i64 (wi x y wh xss x' y' wh' yss rs ts i).x, .int .i64 (wi x y wh xss x' y' wh' yss rs ts i).y, .int .i64 (wi x y wh xss x' y' wh' yss rs ts i).wh, .slice xa xn xc] 28)) wo.heap.size (.slice xa xn xc) (wi x y wh xss x' y' wh' yss rs ts i).rows := lowb h5 (below_al (Below.refl _ _) (.cells #[.int .i64 (wi x y wh xss x' y' wh' yss rs ts i).x, .int .i64 (wi x y wh xss x' y' wh' yss rs ts i).y, .int .i64 (wi x y wh xss x' y' wh' yss rs ts i).wh, .slice xa xn xc] 28))
          have g7 : wo.heap.size ≤ w5.heap.size := y5
          generalize (w5.alloc (.cells #[.int .i64 (wi x y wh xss x' y' wh' yss rs ts i).x, .int .i64 (wi x y wh xss x' y' wh' yss rs ts i).y, .int .i64 (wi x y wh xss x' y' wh' yss rs ts i).wh, .slice xa xn xc] 28)) = W7 at *
          have HB7 := Lib.hid (below_tr hW.out.below B7)
          have hg7b : w3.heap.size ≤ w5.heap.size := Nat.le_trans hW.out.below.size g7
          have RZ := HP3.out.below HB7.out
          obtain ⟨r0, r1, r2, r3, r4⟩ := four_cells RZ
          have rf : ∀ q, W7.frozen? ⟨w.heap.size + 1 + 1, q, none⟩ = false := fun q => Joins.unfrozen_of_block RZ q
          have hwok := HWK.out
          clear h5 hb5 z5 E5 y5 B7 G7 O7 g7 hg7b p0 p1 p2 p3 p4 q0 q1 q2 q3 q4 m0 m1 m2 n0 n1 n2 HW hW
          go_wp2_with fail
          refine bodyPost_ret (v := .tuple #[.agg #[.int .i64 0, .int .i64 0, .int .i64 0, .slice none 0 0], .bool false]) (by simp [results, Try.results17, go_sem, r0, r1, r2, r3]) rfl ?_
          rw [HEZ.out]
          refine ⟨_, rfl, .inr ⟨rfl, rfl⟩, ?_⟩
          repeat (first | (with_reducible exact below_tr BB.out HB7.out) | (with_reducible refine Below.setCell ?_ (by first | (simp; done) | (simp; omega) | omega) _))
        · skip
          have hw7 := set4_wrote w5 wo.heap.size (.int .i64 (wi x y wh xss x' y' wh' yss rs ts i).x) (.int .i64 (wi x y wh xss x' y' wh' yss rs ts i).y) (.int .i64 (wi x y wh xss x' y' wh' yss rs ts i).wh) (.slice xa xn xc)
          have B7 : Below wo.heap.size wo ((((w5.setCell ⟨wo.heap.size, 0, none⟩ (.int .i64 (wi x y wh xss x' y' wh' yss rs ts i).x)).setCell ⟨wo.heap.size, 1, none⟩ (.int .i64 (wi x y wh xss x' y' wh' yss rs ts i).y)).setCell ⟨wo.heap.size, 2, none⟩ (.int .i64 (wi x y wh xss x' y' wh' yss rs ts i).wh)).setCell ⟨wo.heap.size, 3, none⟩ (.slice xa xn xc)) := Below.setCell (Below.setCell (Below.setCell (Below.setCell E5.out (Nat.le_refl _) _) (Nat.le_refl _) _) (Nat.le_refl _) _) (Nat.le_refl _) _
          have G7 : Blk ((((w5.setCell ⟨wo.heap.size, 0, none⟩ (.int .i64 (wi x y wh xss x' y' wh' yss rs ts i).x)).setCell ⟨wo.heap.size, 1, none⟩ (.int .i64 (wi x y wh xss x' y' wh' yss rs ts i).y)).setCell ⟨wo.heap.size, 2, none⟩ (.int .i64 (wi x y wh xss x' y' wh' yss rs ts i).wh)).setCell ⟨wo.heap.size, 3, none⟩ (.slice xa xn xc)) wo.heap.size 28 #[.int .i64 (wi x y wh xss x' y' wh' yss rs ts i).x, .int .i64 (wi x y wh xss x' y' wh' yss rs ts i).y, .int .i64 (wi x y wh xss x' y' wh' yss rs ts i).wh, .slice xa xn xc] := set4_same (.int .i64 (wi x y wh xss x' y' wh' yss rs ts i).x) (.int .i64 (wi x y wh xss x' y' wh' yss rs ts i).y) (.int .i64 (wi x y wh xss x' y' wh' yss rs ts i).wh) (.slice xa xn xc) gB
          have O7 : mix.Low ((((w5.setCell ⟨wo.heap.size, 0, none⟩ (.int .i64 (wi x y wh xss x' y' wh' yss rs ts i).x)).setCell ⟨wo.heap.size, 1, none⟩ (.int .i64 (wi x y wh xss x' y' wh' yss rs ts i).y)).setCell ⟨wo.heap.size, 2, none⟩ (.int .i64 (wi x y wh xss x' y' wh' yss rs ts i).wh)).setCell ⟨wo.heap.size, 3, none⟩ (.slice xa xn xc)) wo.heap.size (.slice xa xn xc) (wi x y wh xss x' y' wh' yss rs ts i).rows := lowm (B' := wo.heap.size) (mix.Low.low h5 (hw7.mono (fun p hp => by have e : p.block = wo.heap.size := hp; show p.block < _; simp; omega))) (by simp)
          have g7 : wo.heap.size ≤ wo.heap.size := Nat.le_refl _
          clear hw7 gB rf5 t0 t1 t2 t3 t4
          generalize ((((w5.setCell ⟨wo.heap.size, 0, none⟩ (.int .i64 (wi x y wh xss x' y' wh' yss rs ts i).x)).setCell ⟨wo.heap.size, 1, none⟩ (.int .i64 (wi x y wh xss x' y' wh' yss rs ts i).y)).setCell ⟨wo.heap.size, 2, none⟩ (.int .i64 (wi x y wh xss x' y' wh' yss rs ts i).wh)).setCell ⟨wo.heap.size, 3, none⟩ (.slice xa xn xc)) = W7 at *
          have HB7 := Lib.hid (below_tr hW.out.below B7)
          have hg7b : w3.heap.size ≤ wo.heap.size := Nat.le_trans hW.out.below.size g7
          have RZ := HP3.out.below HB7.out
          obtain ⟨r0, r1, r2, r3, r4⟩ := four_cells RZ
          have rf : ∀ q, W7.frozen? ⟨w.heap.size + 1 + 1, q, none⟩ = false := fun q => Joins.unfrozen_of_block RZ q
          have hwok := HWK.out
          clear h5 hb5 z5 E5 y5 B7 G7 O7 g7 hg7b p0 p1 p2 p3 p4 q0 q1 q2 q3 q4 m0 m1 m2 n0 n1 n2 HW hW
          go_wp2_with fail
          refine bodyPost_ret (v := .tuple #[.agg #[.int .i64 0, .int .i64 0, .int .i64 0, .slice none 0 0], .bool false]) (by simp [results, Try.results17, go_sem, r0, r1, r2, r3]) rfl ?_
          rw [HEZ.out]
          refine ⟨_, rfl, .inr ⟨rfl, rfl⟩, ?_⟩
          repeat (first | (with_reducible exact below_tr BB.out HB7.out) | (with_reducible refine Below.setCell ?_ (by first | (simp; done) | (simp; omega) | omega) _))
      · have HWE := Lib.hid he
        have KB := Lib.hid hbx
        have HYT := Lib.hid ht
        clear he hbx ht
        by_cases hi0 : i = 0
        · have hin : ¬ (0 : Int) < (i : Int) := by omega
          have HST : Hid ((⟨2, 2, V, YS, true⟩ : make.Res) = st x y wh xss x' y' wh' yss rs ts (i + 1 - 1)) := Lib.hid (by subst hi0; exact HWE.out.symm)
          clear hi0
          go_wp2_with fail
          go_region_held3 (fun w' => w'.cell? ⟨w.heap.size, 0, none⟩ = some (.int .i64 x) ∧ w'.cell? ⟨w.heap.size, 1, none⟩ = some (.int .i64 y) ∧ w'.cell? ⟨w.heap.size, 2, none⟩ = some (.int .i64 wh) ∧ w'.cell? ⟨w.heap.size, 3, none⟩ = some (.slice va vn vc) ∧ w'.cell? ⟨w.heap.size + 1, 0, none⟩ = some (.int .i64 x') ∧ w'.cell? ⟨w.heap.size + 1, 1, none⟩ = some (.int .i64 y') ∧ w'.cell? ⟨w.heap.size + 1, 2, none⟩ = some (.int .i64 wh') ∧ w'.cell? ⟨w.heap.size + 1, 3, none⟩ = some (.slice ua un uc) ∧ w'.cell? ⟨b1, o1 + i * 3, none⟩ = some (.slice a0 a1 a2) ∧ w'.cell? ⟨b1, o1 + i * 3 + 1, none⟩ = some (.slice a3 a4 a5) ∧ w'.cell? ⟨b1, o1 + i * 3 + 2, none⟩ = some (.slice a6 a7 a8) ∧ w'.cell? ⟨b2, o2 + i * 3, none⟩ = some (.slice e0 e1 e2) ∧ w'.cell? ⟨b2, o2 + i * 3 + 1, none⟩ = some (.slice e3 e4 e5) ∧ w'.cell? ⟨b2, o2 + i * 3 + 2, none⟩ = some (.slice e6 e7 e8) ∧ Below wo.heap.size wo w')
            ((refine held14 rfl p0 p1 p2 p3 q0 q1 q2 q3 m0 m1 m2 n0 n1 n2 ?_; repeat (first | (with_reducible exact Below.refl _ _) | (with_reducible refine below_dr ?_) | (with_reducible refine below_al ?_ _) | (with_reducible exact E5.out) | (with_reducible refine Below.setCell ?_ (by first | (simp; done) | (simp; omega) | omega) _))))
            (first | (go_at_call 69; (with_reducible refine (HW.out _ ?_).mono ?_); (first | (with_reducible exact below_dr (Below.refl _ _)) | (with_reducible exact below_dr (below_al (Below.refl _ _) _))); rintro e w5 ⟨r5, rfl, h5, hb5⟩; obtain ⟨xa, xn, xc, rfl⟩ := h5.rows.shape; have z5 := hb5.size; have E5 := Lib.hid (by first | exact below_tr (below_dr (Below.refl wo.heap.size wo)) hb5 | exact below_tr (below_dr (below_al (Below.refl wo.heap.size wo) _)) hb5); have y5 := E5.out.size; try (have gB := (Blk.new wo 28 #[.int .i64 0, .int .i64 0, .int .i64 0, .slice none 0 0]).below (below_tr (below_dr (Below.refl _ _)) hb5); obtain ⟨t0, t1, t2, t3, t4⟩ := four_cells gB; have rf5 : ∀ q, w5.frozen? ⟨wo.heap.size, q, none⟩ = false := fun q => Joins.unfrozen_of_block gB q)))
          · skip
            have B7 := below_al E5.out (.cells #[.int .i64 (wi x y wh xss x' y' wh' yss rs ts i).x, .int .i64 (wi x y wh xss x' y' wh' yss rs ts i).y, .int .i64 (wi x y wh xss x' y' wh' yss rs ts i).wh, .slice xa xn xc] 28)
            have G7 := Blk.new w5 28 #[.int .i64 (wi x y wh xss x' y' wh' yss rs ts i).x, .int .i64 (wi x y wh xss x' y' wh' yss rs ts i).y, .int .i64 (wi x y wh xss x' y' wh' yss rs ts i).wh, .slice xa xn xc]
            have O7 : mix.Low (w5.alloc (.cells #[.int .i64 (wi x y wh xss x' y' wh' yss rs ts i).x, .int .i64 (wi x y wh xss x' y' wh' yss rs ts i).y, .int .i64 (wi x y wh xss x' y' wh' yss rs ts i).wh, .slice xa xn xc] 28)) wo.heap.size (.slice xa xn xc) (wi x y wh xss x' y' wh' yss rs ts i).rows := lowb h5 (below_al (Below.refl _ _) (.cells #[.int .i64 (wi x y wh xss x' y' wh' yss rs ts i).x, .int .i64 (wi x y wh xss x' y' wh' yss rs ts i).y, .int .i64 (wi x y wh xss x' y' wh' yss rs ts i).wh, .slice xa xn xc] 28))
            have g7 : wo.heap.size ≤ w5.heap.size := y5
            generalize (w5.alloc (.cells #[.int .i64 (wi x y wh xss x' y' wh' yss rs ts i).x, .int .i64 (wi x y wh xss x' y' wh' yss rs ts i).y, .int .i64 (wi x y wh xss x' y' wh' yss rs ts i).wh, .slice xa xn xc] 28)) = W7 at *
            have HB7 := Lib.hid (below_tr hW.out.below B7)
            have hg7b : w3.heap.size ≤ w5.heap.size := Nat.le_trans hW.out.below.size g7
            have WM := Lib.hid (hW.out.blk.below B7)
            have WL := Lib.hid (lowb hW.out.rows B7)
            have HGW := Lib.hid hW.out.hg
            have hgw : gg < wo.heap.size := hW.out.blk.lt
            have hW7s : wo.heap.size ≤ W7.heap.size := B7.size
            have RZ := Lib.hid (HP3.out.below HB7.out)
            have HVB' := Lib.hid B7
            rw [HWE.out] at G7 O7
            rw [HWE.out]
            have HG7 := Lib.hid G7
            have HO7 := Lib.hid O7
            have HH7 := Lib.hid (And.intro g7 (And.intro hg7b (And.intro hgw hW7s)))
            have h7lt : Hid (w5.heap.size < W7.heap.size) := Lib.hid G7.lt
            obtain ⟨g7v, hg7v⟩ : ∃ g7v, w5.heap.size = g7v := ⟨_, rfl⟩
            have HGV := Lib.hid hg7v
            rw [hg7v] at HG7 HH7 h7lt
            try rw [hg7v]
            clear h5 hb5 z5 E5 y5 B7 G7 O7 g7 hg7b hgw hW7s p0 p1 p2 p3 p4 q0 q1 q2 q3 q4 m0 m1 m2 n0 n1 n2 HW hW hg7v
            obtain ⟨d0, d1, d2, d3, d4⟩ := four_cells HG7.out
            have HQ := Lib.hid (val.spec_any 2 2 V _ YS W7 HO7.out.rows HYT.out)
            rw [boxB_yes KB.out] at HQ
            go_wp2_with fail
            refine HQ.out.mono ?_
            rintro e w8 ⟨rfl, hb8⟩
            obtain ⟨d0, d1, d2, d3, d4⟩ := four_cells (HG7.out.below hb8)
            have M8 := WM.out.below hb8
            have rfg : ∀ q, w8.frozen? ⟨gg, q, none⟩ = false := fun q => Joins.unfrozen_of_block M8 q
            obtain ⟨f0, f1, f2, f3, f4⟩ := four_cells M8
            have B8 : Below w3.heap.size w3 w8 := below_tr HB7.out hb8
            have WS : Hid (WayM w3 (set4 w8 gg (.int .i64 2) (.int .i64 2) (.int .i64 V) (.slice xa xn xc)) gg ⟨2, 2, V, YS, true⟩ (.slice xa xn xc)) := Lib.hid (by
              have hw := set4_wrote w8 gg (.int .i64 2) (.int .i64 2) (.int .i64 V) (.slice xa xn xc)
              have hgw := HGW.out
              have hh := HH7.out
              have hv := HGV.out
              have hz := HB7.out.size
              refine ⟨?_, set4_same _ _ _ _ M8, lowm (mix.Low.low (lowb HO7.out hb8) (hw.mono (fun p hp => by have e : p.block = gg := hp; show p.block < _; omega))) (by omega), hgw⟩
              unfold set4
              exact Below.setCell (Below.setCell (Below.setCell (Below.setCell B8 hgw _) hgw _) hgw _) hgw _)
            clear hb8 M8 B8 HQ
            go_wp2_with fail
            go_roundw
            case rel => exact ⟨i + 1, _, xa, xn, xc, by have := HIN.out; omega, by go_num, ⟨_, rfl⟩, ⟨_, rfl⟩, Lib.hid (.inr ⟨by omega, HST.out, rfl, rfl, KB.out, rfl⟩), WS⟩
            case measure => have := HIN.out; simp [intOf]; omega
          · skip
            have hw7 := set4_wrote w5 wo.heap.size (.int .i64 (wi x y wh xss x' y' wh' yss rs ts i).x) (.int .i64 (wi x y wh xss x' y' wh' yss rs ts i).y) (.int .i64 (wi x y wh xss x' y' wh' yss rs ts i).wh) (.slice xa xn xc)
            have B7 : Below wo.heap.size wo ((((w5.setCell ⟨wo.heap.size, 0, none⟩ (.int .i64 (wi x y wh xss x' y' wh' yss rs ts i).x)).setCell ⟨wo.heap.size, 1, none⟩ (.int .i64 (wi x y wh xss x' y' wh' yss rs ts i).y)).setCell ⟨wo.heap.size, 2, none⟩ (.int .i64 (wi x y wh xss x' y' wh' yss rs ts i).wh)).setCell ⟨wo.heap.size, 3, none⟩ (.slice xa xn xc)) := Below.setCell (Below.setCell (Below.setCell (Below.setCell E5.out (Nat.le_refl _) _) (Nat.le_refl _) _) (Nat.le_refl _) _) (Nat.le_refl _) _
            have G7 : Blk ((((w5.setCell ⟨wo.heap.size, 0, none⟩ (.int .i64 (wi x y wh xss x' y' wh' yss rs ts i).x)).setCell ⟨wo.heap.size, 1, none⟩ (.int .i64 (wi x y wh xss x' y' wh' yss rs ts i).y)).setCell ⟨wo.heap.size, 2, none⟩ (.int .i64 (wi x y wh xss x' y' wh' yss rs ts i).wh)).setCell ⟨wo.heap.size, 3, none⟩ (.slice xa xn xc)) wo.heap.size 28 #[.int .i64 (wi x y wh xss x' y' wh' yss rs ts i).x, .int .i64 (wi x y wh xss x' y' wh' yss rs ts i).y, .int .i64 (wi x y wh xss x' y' wh' yss rs ts i).wh, .slice xa xn xc] := set4_same (.int .i64 (wi x y wh xss x' y' wh' yss rs ts i).x) (.int .i64 (wi x y wh xss x' y' wh' yss rs ts i).y) (.int .i64 (wi x y wh xss x' y' wh' yss rs ts i).wh) (.slice xa xn xc) gB
            have O7 : mix.Low ((((w5.setCell ⟨wo.heap.size, 0, none⟩ (.int .i64 (wi x y wh xss x' y' wh' yss rs ts i).x)).setCell ⟨wo.heap.size, 1, none⟩ (.int .i64 (wi x y wh xss x' y' wh' yss rs ts i).y)).setCell ⟨wo.heap.size, 2, none⟩ (.int .i64 (wi x y wh xss x' y' wh' yss rs ts i).wh)).setCell ⟨wo.heap.size, 3, none⟩ (.slice xa xn xc)) wo.heap.size (.slice xa xn xc) (wi x y wh xss x' y' wh' yss rs ts i).rows := lowm (B' := wo.heap.size) (mix.Low.low h5 (hw7.mono (fun p hp => by have e : p.block = wo.heap.size := hp; show p.block < _; simp; omega))) (by simp)
            have g7 : wo.heap.size ≤ wo.heap.size := Nat.le_refl _
            clear hw7 gB rf5 t0 t1 t2 t3 t4
            generalize ((((w5.setCell ⟨wo.heap.size, 0, none⟩ (.int .i64 (wi x y wh xss x' y' wh' yss rs ts i).x)).setCell ⟨wo.heap.size, 1, none⟩ (.int .i64 (wi x y wh xss x' y' wh' yss rs ts i).y)).setCell ⟨wo.heap.size, 2, none⟩ (.int .i64 (wi x y wh xss x' y' wh' yss rs ts i).wh)).setCell ⟨wo.heap.size, 3, none⟩ (.slice xa xn xc)) = W7 at *
            have HB7 := Lib.hid (below_tr hW.out.below B7)
            have hg7b : w3.heap.size ≤ wo.heap.size := Nat.le_trans hW.out.below.size g7
            have WM := Lib.hid (hW.out.blk.below B7)
            have WL := Lib.hid (lowb hW.out.rows B7)
            have HGW := Lib.hid hW.out.hg
            have hgw : gg < wo.heap.size := hW.out.blk.lt
            have hW7s : wo.heap.size ≤ W7.heap.size := B7.size
            have RZ := Lib.hid (HP3.out.below HB7.out)
            have HVB' := Lib.hid B7
            rw [HWE.out] at G7 O7
            rw [HWE.out]
            have HG7 := Lib.hid G7
            have HO7 := Lib.hid O7
            have HH7 := Lib.hid (And.intro g7 (And.intro hg7b (And.intro hgw hW7s)))
            have h7lt : Hid (wo.heap.size < W7.heap.size) := Lib.hid G7.lt
            obtain ⟨g7v, hg7v⟩ : ∃ g7v, wo.heap.size = g7v := ⟨_, rfl⟩
            have HGV := Lib.hid hg7v
            rw [hg7v] at HG7 HH7 h7lt
            try rw [hg7v]
            clear h5 hb5 z5 E5 y5 B7 G7 O7 g7 hg7b hgw hW7s p0 p1 p2 p3 p4 q0 q1 q2 q3 q4 m0 m1 m2 n0 n1 n2 HW hW hg7v
            obtain ⟨d0, d1, d2, d3, d4⟩ := four_cells HG7.out
            have HQ := Lib.hid (val.spec_any 2 2 V _ YS W7 HO7.out.rows HYT.out)
            rw [boxB_yes KB.out] at HQ
            go_wp2_with fail
            refine HQ.out.mono ?_
            rintro e w8 ⟨rfl, hb8⟩
            obtain ⟨d0, d1, d2, d3, d4⟩ := four_cells (HG7.out.below hb8)
            have M8 := WM.out.below hb8
            have rfg : ∀ q, w8.frozen? ⟨gg, q, none⟩ = false := fun q => Joins.unfrozen_of_block M8 q
            obtain ⟨f0, f1, f2, f3, f4⟩ := four_cells M8
            have B8 : Below w3.heap.size w3 w8 := below_tr HB7.out hb8
            have WS : Hid (WayM w3 (set4 w8 gg (.int .i64 2) (.int .i64 2) (.int .i64 V) (.slice xa xn xc)) gg ⟨2, 2, V, YS, true⟩ (.slice xa xn xc)) := Lib.hid (by
              have hw := set4_wrote w8 gg (.int .i64 2) (.int .i64 2) (.int .i64 V) (.slice xa xn xc)
              have hgw := HGW.out
              have hh := HH7.out
              have hv := HGV.out
              have hz := HB7.out.size
              refine ⟨?_, set4_same _ _ _ _ M8, lowm (mix.Low.low (lowb HO7.out hb8) (hw.mono (fun p hp => by have e : p.block = gg := hp; show p.block < _; omega))) (by omega), hgw⟩
              unfold set4
              exact Below.setCell (Below.setCell (Below.setCell (Below.setCell B8 hgw _) hgw _) hgw _) hgw _)
            clear hb8 M8 B8 HQ
            go_wp2_with fail
            go_roundw
            case rel => exact ⟨i + 1, _, xa, xn, xc, by have := HIN.out; omega, by go_num, ⟨_, rfl⟩, ⟨_, rfl⟩, Lib.hid (.inr ⟨by omega, HST.out, rfl, rfl, KB.out, rfl⟩), WS⟩
            case measure => have := HIN.out; simp [intOf]; omega
        · have hip : (0 : Int) < (i : Int) := by omega
          rcases hs.out with ⟨h0, _⟩ | ⟨_, hs1, hsx, hsy, hsb, hsk⟩
          · exact absurd h0 hi0
          obtain ⟨sx, sy, s_wh, s_rows, sok⟩ := s
          simp only at hsx hsy hsb hsk
          subst hsx hsy hsk
          have SB := Lib.hid hsb
          have HLN : Hid (s_rows.length = 4) := Lib.hid (by have := hsb.2.2.1; omega)
          have HSN : Hid ((s_wh + V ≤ 1000 → (⟨2, 2, s_wh + V, make.rowsOf (mix.N s_rows YS) 4, true⟩ : make.Res) = st x y wh xss x' y' wh' yss rs ts (i + 1 - 1)) ∧ (¬ s_wh + V ≤ 1000 → res x y wh xss x' y' wh' yss rs ts = make.Res.zero)) := Lib.hid (by
            obtain ⟨j, rfl⟩ : ∃ j, i = j + 1 := ⟨i - 1, by omega⟩
            have e : st x y wh xss x' y' wh' yss rs ts (j + 1) = mx ⟨2, 2, s_wh, s_rows, true⟩ ⟨2, 2, V, YS, true⟩ := by
              show mx (st x y wh xss x' y' wh' yss rs ts j) (wi x y wh xss x' y' wh' yss rs ts (j + 1)) = _
              rw [HWE.out, show st x y wh xss x' y' wh' yss rs ts j = ⟨2, 2, s_wh, s_rows, true⟩ from hs1.symm]
            refine ⟨fun h => ?_, fun h => ?_⟩
            · show _ = st x y wh xss x' y' wh' yss rs ts (j + 1)
              rw [e]
              exact (mix.res_yes ⟨⟨SB.out, KB.out, rfl, rfl⟩, h⟩).symm
            · rw [HR.out]
              have hl := HN.out.1
              have hj := HIN.out
              exact st_stop' (i := j + 1) (by rw [e]; exact mix.res_no (fun h' => h h'.2)) (by omega))
          clear hs1 hsb hs hi0
          go_wp2_with fail
          go_region_held3 (fun w' => w'.cell? ⟨w.heap.size, 0, none⟩ = some (.int .i64 x) ∧ w'.cell? ⟨w.heap.size, 1, none⟩ = some (.int .i64 y) ∧ w'.cell? ⟨w.heap.size, 2, none⟩ = some (.int .i64 wh) ∧ w'.cell? ⟨w.heap.size, 3, none⟩ = some (.slice va vn vc) ∧ w'.cell? ⟨w.heap.size + 1, 0, none⟩ = some (.int .i64 x') ∧ w'.cell? ⟨w.heap.size + 1, 1, none⟩ = some (.int .i64 y') ∧ w'.cell? ⟨w.heap.size + 1, 2, none⟩ = some (.int .i64 wh') ∧ w'.cell? ⟨w.heap.size + 1, 3, none⟩ = some (.slice ua un uc) ∧ w'.cell? ⟨b1, o1 + i * 3, none⟩ = some (.slice a0 a1 a2) ∧ w'.cell? ⟨b1, o1 + i * 3 + 1, none⟩ = some (.slice a3 a4 a5) ∧ w'.cell? ⟨b1, o1 + i * 3 + 2, none⟩ = some (.slice a6 a7 a8) ∧ w'.cell? ⟨b2, o2 + i * 3, none⟩ = some (.slice e0 e1 e2) ∧ w'.cell? ⟨b2, o2 + i * 3 + 1, none⟩ = some (.slice e3 e4 e5) ∧ w'.cell? ⟨b2, o2 + i * 3 + 2, none⟩ = some (.slice e6 e7 e8) ∧ Below wo.heap.size wo w')
            ((refine held14 rfl p0 p1 p2 p3 q0 q1 q2 q3 m0 m1 m2 n0 n1 n2 ?_; repeat (first | (with_reducible exact Below.refl _ _) | (with_reducible refine below_dr ?_) | (with_reducible refine below_al ?_ _) | (with_reducible exact E5.out) | (with_reducible refine Below.setCell ?_ (by first | (simp; done) | (simp; omega) | omega) _))))
            (first | (go_at_call 69; (with_reducible refine (HW.out _ ?_).mono ?_); (first | (with_reducible exact below_dr (Below.refl _ _)) | (with_reducible exact below_dr (below_al (Below.refl _ _) _))); rintro e w5 ⟨r5, rfl, h5, hb5⟩; obtain ⟨xa, xn, xc, rfl⟩ := h5.rows.shape; have z5 := hb5.size; have E5 := Lib.hid (by first | exact below_tr (below_dr (Below.refl wo.heap.size wo)) hb5 | exact below_tr (below_dr (below_al (Below.refl wo.heap.size wo) _)) hb5); have y5 := E5.out.size; try (have gB := (Blk.new wo 28 #[.int .i64 0, .int .i64 0, .int .i64 0, .slice none 0 0]).below (below_tr (below_dr (Below.refl _ _)) hb5); obtain ⟨t0, t1, t2, t3, t4⟩ := four_cells gB; have rf5 : ∀ q, w5.frozen? ⟨wo.heap.size, q, none⟩ = false := fun q => Joins.unfrozen_of_block gB q)))
          · skip
            have B7 := below_al E5.out (.cells #[.int .i64 (wi x y wh xss x' y' wh' yss rs ts i).x, .int .i64 (wi x y wh xss x' y' wh' yss rs ts i).y, .int .i64 (wi x y wh xss x' y' wh' yss rs ts i).wh, .slice xa xn xc] 28)
            have G7 := Blk.new w5 28 #[.int .i64 (wi x y wh xss x' y' wh' yss rs ts i).x, .int .i64 (wi x y wh xss x' y' wh' yss rs ts i).y, .int .i64 (wi x y wh xss x' y' wh' yss rs ts i).wh, .slice xa xn xc]
            have O7 : mix.Low (w5.alloc (.cells #[.int .i64 (wi x y wh xss x' y' wh' yss rs ts i).x, .int .i64 (wi x y wh xss x' y' wh' yss rs ts i).y, .int .i64 (wi x y wh xss x' y' wh' yss rs ts i).wh, .slice xa xn xc] 28)) wo.heap.size (.slice xa xn xc) (wi x y wh xss x' y' wh' yss rs ts i).rows := lowb h5 (below_al (Below.refl _ _) (.cells #[.int .i64 (wi x y wh xss x' y' wh' yss rs ts i).x, .int .i64 (wi x y wh xss x' y' wh' yss rs ts i).y, .int .i64 (wi x y wh xss x' y' wh' yss rs ts i).wh, .slice xa xn xc] 28))
            have g7 : wo.heap.size ≤ w5.heap.size := y5
            generalize (w5.alloc (.cells #[.int .i64 (wi x y wh xss x' y' wh' yss rs ts i).x, .int .i64 (wi x y wh xss x' y' wh' yss rs ts i).y, .int .i64 (wi x y wh xss x' y' wh' yss rs ts i).wh, .slice xa xn xc] 28)) = W7 at *
            have HB7 := Lib.hid (below_tr hW.out.below B7)
            have hg7b : w3.heap.size ≤ w5.heap.size := Nat.le_trans hW.out.below.size g7
            have WM := Lib.hid (hW.out.blk.below B7)
            have WL := Lib.hid (lowb hW.out.rows B7)
            have HGW := Lib.hid hW.out.hg
            have hgw : gg < wo.heap.size := hW.out.blk.lt
            have hW7s : wo.heap.size ≤ W7.heap.size := B7.size
            have RZ := Lib.hid (HP3.out.below HB7.out)
            have HVB' := Lib.hid B7
            rw [HWE.out] at G7 O7
            rw [HWE.out]
            have HG7 := Lib.hid G7
            have HO7 := Lib.hid O7
            have HH7 := Lib.hid (And.intro g7 (And.intro hg7b (And.intro hgw hW7s)))
            have h7lt : Hid (w5.heap.size < W7.heap.size) := Lib.hid G7.lt
            obtain ⟨g7v, hg7v⟩ : ∃ g7v, w5.heap.size = g7v := ⟨_, rfl⟩
            have HGV := Lib.hid hg7v
            rw [hg7v] at HG7 HH7 h7lt
            try rw [hg7v]
            clear h5 hb5 z5 E5 y5 B7 G7 O7 g7 hg7b hgw hW7s p0 p1 p2 p3 p4 q0 q1 q2 q3 q4 m0 m1 m2 n0 n1 n2 HW hW hg7v
            obtain ⟨d0, d1, d2, d3, d4⟩ := four_cells HG7.out
            have HL := Lib.hid (mix.l2mix 2 2 s_wh V _ _ s_rows YS W7 WL.out.rows HO7.out.rows SB.out KB.out)
            obtain ⟨c0, c1', c2', c3, c4⟩ := four_cells WM.out
            go_wp2_with fail
            refine HL.out.mono ?_
            rintro e w8 ⟨u8, rfl, h8, hb8⟩
            rw [HLN.out] at h8
            obtain ⟨ya, yn, yc, rfl⟩ := h8.rows.shape
            have HR8 := Lib.hid h8
            have HB8 := Lib.hid hb8
            have G8 := Lib.hid (HG7.out.below hb8)
            have rf7 : ∀ q, w8.frozen? ⟨g7v, q, none⟩ = false := fun q => Joins.unfrozen_of_block G8.out q
            obtain ⟨d0, d1, d2, d3, d4⟩ := four_cells G8.out
            have X8 : Hid (Blk (set4 w8 g7v (.int .i64 2) (.int .i64 2) (.int .i64 (s_wh + V)) (.slice ya yn yc)) g7v 28 #[.int .i64 2, .int .i64 2, .int .i64 (s_wh + V), .slice ya yn yc]) := Lib.hid (set4_same _ _ _ _ G8.out)
            have hw8 := set4_wrote w8 g7v (.int .i64 2) (.int .i64 2) (.int .i64 (s_wh + V)) (.slice ya yn yc)
            have hh := HH7.out
            have h7l := h7lt.out
            have L8 : Hid (mix.Low (set4 w8 g7v (.int .i64 2) (.int .i64 2) (.int .i64 (s_wh + V)) (.slice ya yn yc)) W7.heap.size (.slice ya yn yc) (make.rowsOf (mix.N s_rows YS) 4)) := Lib.hid (.inl ⟨4, _, (h8.low (hw8.mono (fun p hp => by have e : p.block = g7v := hp; show p.block < _; omega))).mono (by omega), rfl⟩)
            have HT8 : Hid (total (make.rowsOf (mix.N s_rows YS) 4) ≤ 1048576) := Lib.hid (make.total_rowsOf _ _ (by omega))
            have Y8 : Hid (Below w3.heap.size w3 (set4 w8 g7v (.int .i64 2) (.int .i64 2) (.int .i64 (s_wh + V)) (.slice ya yn yc))) := Lib.hid (by
              unfold set4
              exact Below.setCell (Below.setCell (Below.setCell (Below.setCell (below_tr HB7.out hb8) hh.2.1 _) hh.2.1 _) hh.2.1 _) hh.2.1 _)
            have M8' : Hid (Blk (set4 w8 g7v (.int .i64 2) (.int .i64 2) (.int .i64 (s_wh + V)) (.slice ya yn yc)) gg 28 #[.int .i64 2, .int .i64 2, .int .i64 s_wh, .slice ra rn rc]) := Lib.hid ((WM.out.below hb8).wrote hw8 (fun p hp e => by have e1 : p.block = g7v := hp; omega))
            clear h8 hb8 hw8 hh h7l HL c0 c1' c2' c3 c4
            go_wp2_with fail
            by_cases hsum : s_wh + V ≤ 1000
            · have KB2 := Lib.hid (show okBox 2 2 (s_wh + V) (make.rowsOf (mix.N s_rows YS) 4) from mix.box_ok (X := 2) (Y := 2) SB.out KB.out hsum)
              have HQ := val.spec_any 2 2 (s_wh + V) _ _ _ L8.out.rows HT8.out
              rw [boxB_yes KB2.out] at HQ
              have HQ' := Lib.hid HQ
              clear HQ hsum
              refine HQ'.out.mono ?_
              rintro e w9 ⟨rfl, hb9⟩
              obtain ⟨d0, d1, d2, d3, d4⟩ := four_cells (X8.out.below hb9)
              have M9 := M8'.out.below hb9
              have rfg : ∀ q, w9.frozen? ⟨gg, q, none⟩ = false := fun q => Joins.unfrozen_of_block M9 q
              obtain ⟨f0, f1, f2, f3, f4⟩ := four_cells M9
              have WS : Hid (WayM w3 (set4 w9 gg (.int .i64 2) (.int .i64 2) (.int .i64 (s_wh + V)) (.slice ya yn yc)) gg ⟨2, 2, s_wh + V, make.rowsOf (mix.N s_rows YS) 4, true⟩ (.slice ya yn yc)) := Lib.hid (by
                have hw := set4_wrote w9 gg (.int .i64 2) (.int .i64 2) (.int .i64 (s_wh + V)) (.slice ya yn yc)
                have hgw := HGW.out
                have hh := HH7.out
                have hz := HB7.out.size
                refine ⟨?_, set4_same _ _ _ _ M9, lowm (mix.Low.low (lowb L8.out hb9) (hw.mono (fun p hp => by have e : p.block = gg := hp; show p.block < _; omega))) (by omega), hgw⟩
                have e9 := below_tr Y8.out hb9
                unfold set4 at e9 ⊢
                exact Below.setCell (Below.setCell (Below.setCell (Below.setCell e9 hgw _) hgw _) hgw _) hgw _)
              have HST : Hid ((⟨2, 2, s_wh + V, make.rowsOf (mix.N s_rows YS) 4, true⟩ : make.Res) = st x y wh xss x' y' wh' yss rs ts (i + 1 - 1)) := Lib.hid (HSN.out.1 (by have := KB2.out.2.1.2; exact this))
              clear hb9 M9 HQ'
              go_wp2_with fail
              go_roundw
              case rel => exact ⟨i + 1, _, ya, yn, yc, by have := HIN.out; omega, by go_num, ⟨_, rfl⟩, ⟨_, rfl⟩, Lib.hid (.inr ⟨by omega, HST.out, rfl, rfl, KB2.out, rfl⟩), WS⟩
              case measure => have := HIN.out; simp [intOf]; omega
            · have HQ := val.spec_any 2 2 (s_wh + V) _ _ _ L8.out.rows HT8.out
              rw [boxB_no (show ¬ okBox 2 2 (s_wh + V) (make.rowsOf (mix.N s_rows YS) 4) from mix.box_bad (X := 2) (Y := 2) hsum)] at HQ
              have HQ' := Lib.hid HQ
              have HEZ := Lib.hid (HSN.out.2 (by omega))
              clear HQ hsum
              refine HQ'.out.mono ?_
              rintro e w9 ⟨rfl, hb9⟩
              have BW := Lib.hid (below_tr Y8.out hb9)
              have RZ9 := HP3.out.below BW.out
              obtain ⟨r0, r1, r2, r3, r4⟩ := four_cells RZ9
              have rf : ∀ q, w9.frozen? ⟨w.heap.size + 1 + 1, q, none⟩ = false := fun q => Joins.unfrozen_of_block RZ9 q
              clear hb9 HQ'
              go_wp2_with fail
              refine bodyPost_ret (v := .tuple #[.agg #[.int .i64 0, .int .i64 0, .int .i64 0, .slice none 0 0], .bool false]) (by simp [results, Try.results17, go_sem, r0, r1, r2, r3]) rfl ?_
              rw [HEZ.out]
              refine ⟨_, rfl, .inr ⟨rfl, rfl⟩, ?_⟩
              repeat (first | (with_reducible exact below_tr BB.out BW.out) | (with_reducible refine Below.setCell ?_ (by first | (simp; done) | (simp; omega) | omega) _))
          · skip
            have hw7 := set4_wrote w5 wo.heap.size (.int .i64 (wi x y wh xss x' y' wh' yss rs ts i).x) (.int .i64 (wi x y wh xss x' y' wh' yss rs ts i).y) (.int .i64 (wi x y wh xss x' y' wh' yss rs ts i).wh) (.slice xa xn xc)
            have B7 : Below wo.heap.size wo ((((w5.setCell ⟨wo.heap.size, 0, none⟩ (.int .i64 (wi x y wh xss x' y' wh' yss rs ts i).x)).setCell ⟨wo.heap.size, 1, none⟩ (.int .i64 (wi x y wh xss x' y' wh' yss rs ts i).y)).setCell ⟨wo.heap.size, 2, none⟩ (.int .i64 (wi x y wh xss x' y' wh' yss rs ts i).wh)).setCell ⟨wo.heap.size, 3, none⟩ (.slice xa xn xc)) := Below.setCell (Below.setCell (Below.setCell (Below.setCell E5.out (Nat.le_refl _) _) (Nat.le_refl _) _) (Nat.le_refl _) _) (Nat.le_refl _) _
            have G7 : Blk ((((w5.setCell ⟨wo.heap.size, 0, none⟩ (.int .i64 (wi x y wh xss x' y' wh' yss rs ts i).x)).setCell ⟨wo.heap.size, 1, none⟩ (.int .i64 (wi x y wh xss x' y' wh' yss rs ts i).y)).setCell ⟨wo.heap.size, 2, none⟩ (.int .i64 (wi x y wh xss x' y' wh' yss rs ts i).wh)).setCell ⟨wo.heap.size, 3, none⟩ (.slice xa xn xc)) wo.heap.size 28 #[.int .i64 (wi x y wh xss x' y' wh' yss rs ts i).x, .int .i64 (wi x y wh xss x' y' wh' yss rs ts i).y, .int .i64 (wi x y wh xss x' y' wh' yss rs ts i).wh, .slice xa xn xc] := set4_same (.int .i64 (wi x y wh xss x' y' wh' yss rs ts i).x) (.int .i64 (wi x y wh xss x' y' wh' yss rs ts i).y) (.int .i64 (wi x y wh xss x' y' wh' yss rs ts i).wh) (.slice xa xn xc) gB
            have O7 : mix.Low ((((w5.setCell ⟨wo.heap.size, 0, none⟩ (.int .i64 (wi x y wh xss x' y' wh' yss rs ts i).x)).setCell ⟨wo.heap.size, 1, none⟩ (.int .i64 (wi x y wh xss x' y' wh' yss rs ts i).y)).setCell ⟨wo.heap.size, 2, none⟩ (.int .i64 (wi x y wh xss x' y' wh' yss rs ts i).wh)).setCell ⟨wo.heap.size, 3, none⟩ (.slice xa xn xc)) wo.heap.size (.slice xa xn xc) (wi x y wh xss x' y' wh' yss rs ts i).rows := lowm (B' := wo.heap.size) (mix.Low.low h5 (hw7.mono (fun p hp => by have e : p.block = wo.heap.size := hp; show p.block < _; simp; omega))) (by simp)
            have g7 : wo.heap.size ≤ wo.heap.size := Nat.le_refl _
            clear hw7 gB rf5 t0 t1 t2 t3 t4
            generalize ((((w5.setCell ⟨wo.heap.size, 0, none⟩ (.int .i64 (wi x y wh xss x' y' wh' yss rs ts i).x)).setCell ⟨wo.heap.size, 1, none⟩ (.int .i64 (wi x y wh xss x' y' wh' yss rs ts i).y)).setCell ⟨wo.heap.size, 2, none⟩ (.int .i64 (wi x y wh xss x' y' wh' yss rs ts i).wh)).setCell ⟨wo.heap.size, 3, none⟩ (.slice xa xn xc)) = W7 at *
            have HB7 := Lib.hid (below_tr hW.out.below B7)
            have hg7b : w3.heap.size ≤ wo.heap.size := Nat.le_trans hW.out.below.size g7
            have WM := Lib.hid (hW.out.blk.below B7)
            have WL := Lib.hid (lowb hW.out.rows B7)
            have HGW := Lib.hid hW.out.hg
            have hgw : gg < wo.heap.size := hW.out.blk.lt
            have hW7s : wo.heap.size ≤ W7.heap.size := B7.size
            have RZ := Lib.hid (HP3.out.below HB7.out)
            have HVB' := Lib.hid B7
            rw [HWE.out] at G7 O7
            rw [HWE.out]
            have HG7 := Lib.hid G7
            have HO7 := Lib.hid O7
            have HH7 := Lib.hid (And.intro g7 (And.intro hg7b (And.intro hgw hW7s)))
            have h7lt : Hid (wo.heap.size < W7.heap.size) := Lib.hid G7.lt
            obtain ⟨g7v, hg7v⟩ : ∃ g7v, wo.heap.size = g7v := ⟨_, rfl⟩
            have HGV := Lib.hid hg7v
            rw [hg7v] at HG7 HH7 h7lt
            try rw [hg7v]
            clear h5 hb5 z5 E5 y5 B7 G7 O7 g7 hg7b hgw hW7s p0 p1 p2 p3 p4 q0 q1 q2 q3 q4 m0 m1 m2 n0 n1 n2 HW hW hg7v
            obtain ⟨d0, d1, d2, d3, d4⟩ := four_cells HG7.out
            have HL := Lib.hid (mix.l2mix 2 2 s_wh V _ _ s_rows YS W7 WL.out.rows HO7.out.rows SB.out KB.out)
            obtain ⟨c0, c1', c2', c3, c4⟩ := four_cells WM.out
            go_wp2_with fail
            refine HL.out.mono ?_
            rintro e w8 ⟨u8, rfl, h8, hb8⟩
            rw [HLN.out] at h8
            obtain ⟨ya, yn, yc, rfl⟩ := h8.rows.shape
            have HR8 := Lib.hid h8
            have HB8 := Lib.hid hb8
            have G8 := Lib.hid (HG7.out.below hb8)
            have rf7 : ∀ q, w8.frozen? ⟨g7v, q, none⟩ = false := fun q => Joins.unfrozen_of_block G8.out q
            obtain ⟨d0, d1, d2, d3, d4⟩ := four_cells G8.out
            have X8 : Hid (Blk (set4 w8 g7v (.int .i64 2) (.int .i64 2) (.int .i64 (s_wh + V)) (.slice ya yn yc)) g7v 28 #[.int .i64 2, .int .i64 2, .int .i64 (s_wh + V), .slice ya yn yc]) := Lib.hid (set4_same _ _ _ _ G8.out)
            have hw8 := set4_wrote w8 g7v (.int .i64 2) (.int .i64 2) (.int .i64 (s_wh + V)) (.slice ya yn yc)
            have hh := HH7.out
            have h7l := h7lt.out
            have L8 : Hid (mix.Low (set4 w8 g7v (.int .i64 2) (.int .i64 2) (.int .i64 (s_wh + V)) (.slice ya yn yc)) W7.heap.size (.slice ya yn yc) (make.rowsOf (mix.N s_rows YS) 4)) := Lib.hid (.inl ⟨4, _, (h8.low (hw8.mono (fun p hp => by have e : p.block = g7v := hp; show p.block < _; omega))).mono (by omega), rfl⟩)
            have HT8 : Hid (total (make.rowsOf (mix.N s_rows YS) 4) ≤ 1048576) := Lib.hid (make.total_rowsOf _ _ (by omega))
            have Y8 : Hid (Below w3.heap.size w3 (set4 w8 g7v (.int .i64 2) (.int .i64 2) (.int .i64 (s_wh + V)) (.slice ya yn yc))) := Lib.hid (by
              unfold set4
              exact Below.setCell (Below.setCell (Below.setCell (Below.setCell (below_tr HB7.out hb8) hh.2.1 _) hh.2.1 _) hh.2.1 _) hh.2.1 _)
            have M8' : Hid (Blk (set4 w8 g7v (.int .i64 2) (.int .i64 2) (.int .i64 (s_wh + V)) (.slice ya yn yc)) gg 28 #[.int .i64 2, .int .i64 2, .int .i64 s_wh, .slice ra rn rc]) := Lib.hid ((WM.out.below hb8).wrote hw8 (fun p hp e => by have e1 : p.block = g7v := hp; omega))
            clear h8 hb8 hw8 hh h7l HL c0 c1' c2' c3 c4
            go_wp2_with fail
            by_cases hsum : s_wh + V ≤ 1000
            · have KB2 := Lib.hid (show okBox 2 2 (s_wh + V) (make.rowsOf (mix.N s_rows YS) 4) from mix.box_ok (X := 2) (Y := 2) SB.out KB.out hsum)
              have HQ := val.spec_any 2 2 (s_wh + V) _ _ _ L8.out.rows HT8.out
              rw [boxB_yes KB2.out] at HQ
              have HQ' := Lib.hid HQ
              clear HQ hsum
              refine HQ'.out.mono ?_
              rintro e w9 ⟨rfl, hb9⟩
              obtain ⟨d0, d1, d2, d3, d4⟩ := four_cells (X8.out.below hb9)
              have M9 := M8'.out.below hb9
              have rfg : ∀ q, w9.frozen? ⟨gg, q, none⟩ = false := fun q => Joins.unfrozen_of_block M9 q
              obtain ⟨f0, f1, f2, f3, f4⟩ := four_cells M9
              have WS : Hid (WayM w3 (set4 w9 gg (.int .i64 2) (.int .i64 2) (.int .i64 (s_wh + V)) (.slice ya yn yc)) gg ⟨2, 2, s_wh + V, make.rowsOf (mix.N s_rows YS) 4, true⟩ (.slice ya yn yc)) := Lib.hid (by
                have hw := set4_wrote w9 gg (.int .i64 2) (.int .i64 2) (.int .i64 (s_wh + V)) (.slice ya yn yc)
                have hgw := HGW.out
                have hh := HH7.out
                have hz := HB7.out.size
                refine ⟨?_, set4_same _ _ _ _ M9, lowm (mix.Low.low (lowb L8.out hb9) (hw.mono (fun p hp => by have e : p.block = gg := hp; show p.block < _; omega))) (by omega), hgw⟩
                have e9 := below_tr Y8.out hb9
                unfold set4 at e9 ⊢
                exact Below.setCell (Below.setCell (Below.setCell (Below.setCell e9 hgw _) hgw _) hgw _) hgw _)
              have HST : Hid ((⟨2, 2, s_wh + V, make.rowsOf (mix.N s_rows YS) 4, true⟩ : make.Res) = st x y wh xss x' y' wh' yss rs ts (i + 1 - 1)) := Lib.hid (HSN.out.1 (by have := KB2.out.2.1.2; exact this))
              clear hb9 M9 HQ'
              go_wp2_with fail
              go_roundw
              case rel => exact ⟨i + 1, _, ya, yn, yc, by have := HIN.out; omega, by go_num, ⟨_, rfl⟩, ⟨_, rfl⟩, Lib.hid (.inr ⟨by omega, HST.out, rfl, rfl, KB2.out, rfl⟩), WS⟩
              case measure => have := HIN.out; simp [intOf]; omega
            · have HQ := val.spec_any 2 2 (s_wh + V) _ _ _ L8.out.rows HT8.out
              rw [boxB_no (show ¬ okBox 2 2 (s_wh + V) (make.rowsOf (mix.N s_rows YS) 4) from mix.box_bad (X := 2) (Y := 2) hsum)] at HQ
              have HQ' := Lib.hid HQ
              have HEZ := Lib.hid (HSN.out.2 (by omega))
              clear HQ hsum
              refine HQ'.out.mono ?_
              rintro e w9 ⟨rfl, hb9⟩
              have BW := Lib.hid (below_tr Y8.out hb9)
              have RZ9 := HP3.out.below BW.out
              obtain ⟨r0, r1, r2, r3, r4⟩ := four_cells RZ9
              have rf : ∀ q, w9.frozen? ⟨w.heap.size + 1 + 1, q, none⟩ = false := fun q => Joins.unfrozen_of_block RZ9 q
              clear hb9 HQ'
              go_wp2_with fail
              refine bodyPost_ret (v := .tuple #[.agg #[.int .i64 0, .int .i64 0, .int .i64 0, .slice none 0 0], .bool false]) (by simp [results, Try.results17, go_sem, r0, r1, r2, r3]) rfl ?_
              rw [HEZ.out]
              refine ⟨_, rfl, .inr ⟨rfl, rfl⟩, ?_⟩
              repeat (first | (with_reducible exact below_tr BB.out BW.out) | (with_reducible refine Below.setCell ?_ (by first | (simp; done) | (simp; omega) | omega) _))
    · have hiz : ¬ (i : Int) < (n : Int) := by omega
      obtain rfl : i = n := by omega
      rcases hs.out with ⟨h0, _⟩ | ⟨_, hs1, hsx, hsy, hsb, hsk⟩
      · exact absurd h0 (by have := HN0.out; omega)
      have HRE : Hid (res x y wh xss x' y' wh' yss rs ts = s) := Lib.hid (by rw [HR.out, hs1, HN.out.1])
      have HSK := Lib.hid hsk
      have HGZ := Lib.hid HZ3.out
      have HRS := Lib.hid (HP3.out.below hW.out.below)
      obtain ⟨c0, c1', c2', c3, c4⟩ := four_cells hW.out.blk
      obtain ⟨r0, r1, r2, r3, r4⟩ := four_cells HRS.out
      have rf : ∀ q, wo.frozen? ⟨w.heap.size + 1 + 1, q, none⟩ = false := fun q => Joins.unfrozen_of_block HRS.out q
      have HWW := hW
      clear hs hs1 hsx hsy hsb hsk hW hlt
      go_wp2_with fail
      refine bodyPost_ret (v := .tuple #[.agg #[.int .i64 s.x, .int .i64 s.y, .int .i64 s.wh, .slice ra rn rc], .bool true]) (by simp [results, Try.results17, go_sem, r0, r1, r2, r3]) rfl ?_
      rw [HRE.out, HSK.out]
      have hz := HGZ.out
      refine ⟨_, rfl, lowm (mix.Low.low HWW.out.rows ?_) (by omega : w.heap.size ≤ w3.heap.size), ?_⟩
      · repeat (first | (with_reducible exact Wrote.refl _ _) | refine Wrote.setCell ?_ (by show _ < _; simp; omega) _)
      · repeat (first | (with_reducible exact below_tr BB.out HWW.out.below) | (with_reducible refine Below.setCell ?_ (by simp <;> omega) _))
theorem spec_any (x y wh : Int) (v : Value) (xss : List (List Int)) (x' y' wh' : Int) (v' : Value) (yss : List (List Int)) (q : Value) (rs : List R3) (q' : Value) (ts : List R3) (w : World) (h : IRows w v xss) (h' : IRows w v' yss) (hn : total xss ≤ 1048576) (hn' : total yss ≤ 1048576) (hq : Rls w q rs) (hq' : Rls w q' ts) :
    Calls Try.prog 17 #[.agg #[.int .i64 x, .int .i64 y, .int .i64 wh, v], .agg #[.int .i64 x', .int .i64 y', .int .i64 wh', v'], q, q'] w fun e w' => ∃ r, e = .returned (.tuple #[.agg #[.int .i64 (res x y wh xss x' y' wh' yss rs ts).x, .int .i64 (res x y wh xss x' y' wh' yss rs ts).y, .int .i64 (res x y wh xss x' y' wh' yss rs ts).wh, r], .bool (res x y wh xss x' y' wh' yss rs ts).ok]) ∧ mix.Low w' w.heap.size r (res x y wh xss x' y' wh' yss rs ts).rows ∧ Below w.heap.size w w' := by
  by_cases hok : ok2 x y wh xss x' y' wh' yss
  · by_cases hne : 0 < rs.length ∧ rs.length = ts.length
    · exact spec_yes x y wh v xss x' y' wh' v' yss q rs q' ts w h h' hn hn' hq hq' hok hne
    · exact spec_len x y wh v xss x' y' wh' v' yss q rs q' ts w h h' hn hn' hq hq' hok hne
  · exact spec_bad x y wh v xss x' y' wh' v' yss q rs q' ts w h h' hn hn' hq hq' hok


end Go.Proofs.Ytiigfhigmdjooaa.mxw
