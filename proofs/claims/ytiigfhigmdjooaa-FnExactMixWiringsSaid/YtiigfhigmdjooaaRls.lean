/- Lists of Rules: how they lie, and how much of the law's room they take. -/
import Derived.Test.YtiigfhigmdjooaaRule
import Derived.Deep.RegionHeld3
namespace Go.Proofs.Ytiigfhigmdjooaa.rls
open Go.RowKit Go.Deep Go.Proofs.Ytiigfhigmdjooaa.base
open Go.Proofs.Ytiigfhigmdjooaa.ints (ret_int infoInt infoInts)
open Go.Proofs.Ytiigfhigmdjooaa.rws (total)
open Go.Proofs.Ytiigfhigmdjooaa.rule (RV OR)
open Go.Proofs.Ytiigfhigmdjooaa.scene (three_cells)

/-- a Rule as it is read -/
structure R3 where
  f : List Int
  k : List (List Int)
  s : List (List Int)
/-- one of them, in three cells -/
def At (w : World) (b p : Nat) (r : R3) : Prop := ∃ a0 a1 a2 a3 a4 a5 a6 a7 a8, w.cell? ⟨b, p, none⟩ = some (.slice a0 a1 a2) ∧ w.cell? ⟨b, p + 1, none⟩ = some (.slice a3 a4 a5) ∧ w.cell? ⟨b, p + 2, none⟩ = some (.slice a6 a7 a8) ∧ RV w (.slice a0 a1 a2) r.f (.slice a3 a4 a5) r.k (.slice a6 a7 a8) r.s
theorem At.below {w w' : World} {b p : Nat} {r : R3} (h : At w b p r) (hb : Below w.heap.size w w') : At w' b p r := by
  obtain ⟨a0, a1, a2, a3, a4, a5, a6, a7, a8, h0, h1, h2, h3⟩ := h
  exact ⟨a0, a1, a2, a3, a4, a5, a6, a7, a8, below_cell hb _ _ h0, below_cell hb _ _ h1, below_cell hb _ _ h2, h3.below hb⟩
/-- the slice value v holds the Rules rs -/
def Rls (w : World) (v : Value) (rs : List R3) : Prop := ∃ (A : Option Addr) (b o cap : Nat), v = .slice A rs.length cap ∧ rs.length ≤ cap ∧ cap ≤ maxLen ∧ (0 < rs.length → A = some ⟨b, o, none⟩) ∧ ∀ k (hk : k < rs.length), At w b (o + k * 3) rs[k]
theorem Rls.below {w w' : World} {v : Value} {rs : List R3} (h : Rls w v rs) (hb : Below w.heap.size w w') : Rls w' v rs := by
  obtain ⟨A, b, o, cap, hv, h1, h2, h3, h4⟩ := h
  exact ⟨A, b, o, cap, hv, h1, h2, h3, fun k hk => (h4 k hk).below hb⟩
theorem Rls.nil (w : World) : Rls w (.slice none 0 0) [] := ⟨none, 0, 0, 0, rfl, Nat.le_refl _, Nat.zero_le _, fun h => absurd h (by simp), fun k hk => absurd hk (by simp)⟩
/-- the room that is left behind them -/
def run : List R3 → Int → Int
  | [], l => l
  | r :: rs, l => if rule.sz r.f r.k r.s l < 0 then -1 else run rs (rule.sz r.f r.k r.s l)
def sz (rs : List R3) (left : Int) : Int := if left < rs.length then -1 else run rs (left - rs.length)
theorem run_stop {rs : List R3} {k : Nat} (hk : k < rs.length) {l : Int} (h : rule.sz rs[k].f rs[k].k rs[k].s l < 0) : run (rs.drop k) l = -1 := by
  rw [List.drop_eq_getElem_cons hk]
  exact if_pos h
theorem run_next {rs : List R3} {k : Nat} (hk : k < rs.length) {l : Int} (h : ¬ rule.sz rs[k].f rs[k].k rs[k].s l < 0) : run (rs.drop k) l = run (rs.drop (k + 1)) (rule.sz rs[k].f rs[k].k rs[k].s l) := by
  rw [List.drop_eq_getElem_cons hk]
  exact if_neg h
theorem sz_le {ss : List Int} {xss yss : List (List Int)} {l : Int} (h : ¬ rule.sz ss xss yss l < 0) : rule.sz ss xss yss l ≤ l := by
  have := rule.sz_bound h
  omega


set_option maxRecDepth 100000 in
set_option maxHeartbeats 2000000 in
theorem sz_any (v : Value) (rs : List R3) (left : Int) (w : World) (h : Rls w v rs) (h0 : 0 ≤ left) (h1 : left ≤ 1048576) :
    Calls Try.prog 16 #[v, .int .i64 left] w fun e w' => e = .returned (.int .i64 (sz rs left)) ∧ Below w.heap.size w w' := by
  obtain ⟨A, b, o, cap, rfl, hcap, hmax, hA, hc⟩ := h
  have HL := Lib.hid hcap
  obtain ⟨n, hn⟩ : ∃ n, rs.length = n := ⟨_, rfl⟩
  have hlc : (n : Int) ≤ 9223372036854775807 := by rw [← hn]; have := hcap; have := hmax; unfold maxLen at *; omega
  by_cases g : left < n
  · have HS : Hid (sz rs left = -1) := Lib.hid (by unfold sz; rw [hn, if_pos g])
    have g' : left - (n : Int) < 0 := by omega
    rw [hn]
    clear hc hA hcap hmax hn HL g
    go_enter Try.func16, Try.ntmps16
    go_wp2_with fail
    go_ret
    exact ⟨ret_int HS.out.symm, Below.refl _ _⟩
  · have HS : Hid (sz rs left = run (rs.drop 0) (left - n)) := Lib.hid (by unfold sz; rw [hn, if_neg g]; rfl)
    obtain ⟨l0, hl0⟩ : ∃ l0 : Int, left - (n : Int) = l0 := ⟨_, rfl⟩
    have g' : ¬ l0 < 0 := by omega
    have HB0 : Hid (0 ≤ l0 ∧ l0 ≤ 1048576) := Lib.hid (by omega)
    rw [hl0] at HS
    have HC := Lib.hid hc
    have HA := Lib.hid hA
    have HN := Lib.hid hn
    rw [hn]
    clear hc hA hcap hmax hn HL g
    go_enter Try.func16, Try.ntmps16
    go_wp2_with fail
    go_loopw [1, 5] (fun lv iv wr => ∃ (k : Nat) (l : Int), k ≤ n ∧ iv = .int .i64 k ∧ lv = .int .i64 l ∧ Hid (0 ≤ l ∧ l ≤ 1048576) ∧ Hid (sz rs left = run (rs.drop k) l) ∧ Hid (Below w.heap.size w wr)) (fun _ iv _ => n - (intOf iv).toNat)
    case atStart => exact ⟨0, l0, Nat.zero_le _, rfl, rfl, HB0, HS, Lib.hid (Below.refl _ _)⟩
    case round =>
      obtain ⟨k, l, hk, rfl, rfl, hl, hs, hB⟩ := hrel
      obtain ⟨wi, rfl⟩ : ∃ wi : World, wi = wr := ⟨_, rfl⟩
      by_cases hlt : k < n
      · have hkz : (k : Int) < (n : Int) := by omega
        have hkr : k < rs.length := by rw [HN.out]; exact hlt
        obtain ⟨a0, a1, a2, a3, a4, a5, a6, a7, a8, c0, c1, c2, hr⟩ := (HC.out k hkr).below hB.out
        have hA' := HA.out (by omega)
        subst hA'
        have HZ := Lib.hid (rule.sz_any _ rs[k].f _ rs[k].k _ rs[k].s l wi hr hl.out.1 hl.out.2)
        by_cases hm : rule.sz rs[k].f rs[k].k rs[k].s l < 0
        · have HE : Hid (sz rs left = -1) := Lib.hid (hs.out.trans (run_stop hkr hm))
          obtain ⟨m, hme⟩ : ∃ m, rule.sz rs[k].f rs[k].k rs[k].s l = m := ⟨_, rfl⟩
          rw [hme] at HZ hm
          clear hr hme hs
          go_wp2_with fail
          refine HZ.out.mono ?_
          rintro e w3 ⟨rfl, hb⟩
          have B3 := Lib.hid (below_tr hB.out hb)
          clear hb c0 c1 c2
          go_wp2_with fail
          go_ret
          exact ⟨ret_int HE.out.symm, B3.out⟩
        · have HE := Lib.hid (hs.out.trans (run_next hkr hm))
          have HM : Hid (rule.sz rs[k].f rs[k].k rs[k].s l ≤ l) := Lib.hid (sz_le hm)
          obtain ⟨m, hme⟩ : ∃ m, rule.sz rs[k].f rs[k].k rs[k].s l = m := ⟨_, rfl⟩
          rw [hme] at HZ hm HE HM
          clear hr hme hs
          go_wp2_with fail
          refine HZ.out.mono ?_
          rintro e w3 ⟨rfl, hb⟩
          have B3 := Lib.hid (below_tr hB.out hb)
          clear hb c0 c1 c2
          go_wp2_with fail
          go_roundw
          case rel => exact ⟨k + 1, m, by omega, by go_num, rfl, Lib.hid ⟨by omega, by have := HM.out; have := hl.out; omega⟩, HE, B3⟩
          case measure => simp [intOf]; omega
      · have hkz : ¬ (k : Int) < (n : Int) := by omega
        obtain rfl : k = n := by omega
        have HE : Hid (sz rs left = l) := Lib.hid (by rw [hs.out, List.drop_of_length_le (by rw [HN.out]; exact Nat.le_refl _)]; rfl)
        go_wp2_with fail
        go_ret
        exact ⟨ret_int HE.out.symm, hB.out⟩



set_option maxRecDepth 100000 in
set_option maxHeartbeats 2000000 in
theorem eq_same (v u : Value) (rs : List R3) (w : World) (h : Rls w v rs) (h' : Rls w u rs) (hn : ∀ k (hk : k < rs.length), rs[k].f.length ≤ 1048576 ∧ total rs[k].k ≤ 1048576 ∧ total rs[k].s ≤ 1048576) :
    Calls Try.prog 22 #[v, u] w fun e w' => e = .returned (.bool true) ∧ Below w.heap.size w w' := by
  obtain ⟨A, b, o, cap, rfl, hcap, hmax, hA, hc⟩ := h
  obtain ⟨A', b', o', cap', rfl, hcap', hmax', hA', hc'⟩ := h'
  obtain ⟨n, hlen⟩ : ∃ n, rs.length = n := ⟨_, rfl⟩
  have hlc : (n : Int) ≤ 9223372036854775807 := by rw [← hlen]; have := hcap; have := hmax; unfold maxLen at *; omega
  have HC := Lib.hid hc
  have HA := Lib.hid hA
  have HC' := Lib.hid hc'
  have HA' := Lib.hid hA'
  have HN := Lib.hid hlen
  have HT := Lib.hid hn
  rw [hlen]
  clear hc hA hcap hmax hc' hA' hcap' hmax' hlen hn
  go_enter Try.func22, Try.ntmps22
  go_wp2_with fail
  go_loopw [5] (fun iv wr => ∃ k : Nat, k ≤ n ∧ iv = .int .i64 k ∧ Hid (Below w.heap.size w wr)) (fun iv _ => n - (intOf iv).toNat)
  case atStart => exact ⟨0, Nat.zero_le _, rfl, Lib.hid (Below.refl _ _)⟩
  case round =>
    obtain ⟨k, hk, rfl, hB⟩ := hrel
    obtain ⟨wi, rfl⟩ : ∃ wi : World, wi = wr := ⟨_, rfl⟩
    by_cases hlt : k < n
    · have hkz : (k : Int) < (n : Int) := by omega
      have hkr : k < rs.length := by rw [HN.out]; exact hlt
      obtain ⟨a0, a1, a2, a3, a4, a5, a6, a7, a8, c0, c1, c2, hr⟩ := (HC.out k hkr).below hB.out
      obtain ⟨z0, z1, z2, z3, z4, z5, z6, z7, z8, d0, d1, d2, hr'⟩ := (HC'.out k hkr).below hB.out
      have e1 := HA.out (by omega)
      have e2 := HA'.out (by omega)
      subst e1 e2
      have HQ := Lib.hid (fun (W : World) (hb : Below wi.heap.size wi W) => rule.eq_same _ _ rs[k].f _ _ rs[k].k _ _ rs[k].s W (hr.below hb) (hr'.below hb) (HT.out k hkr).1 (HT.out k hkr).2.1 (HT.out k hkr).2.2)
      clear hr hr'
      go_wp2_with fail
      go_region_held3 (fun w' => w'.cell? ⟨b, o + k * 3, none⟩ = some (.slice a0 a1 a2) ∧ w'.cell? ⟨b, o + k * 3 + 1, none⟩ = some (.slice a3 a4 a5) ∧ w'.cell? ⟨b, o + k * 3 + 2, none⟩ = some (.slice a6 a7 a8) ∧ w'.cell? ⟨b', o' + k * 3, none⟩ = some (.slice z0 z1 z2) ∧ w'.cell? ⟨b', o' + k * 3 + 1, none⟩ = some (.slice z3 z4 z5) ∧ w'.cell? ⟨b', o' + k * 3 + 2, none⟩ = some (.slice z6 z7 z8) ∧ Below wi.heap.size wi w')
        ((refine scene.held6c c0 c1 c2 d0 d1 d2 ?_; repeat (first | exact Below.refl _ _ | assumption | refine below_dr ?_ | refine below_tr ?_ (by assumption))))
        (first | (go_at_call 75; (with_reducible refine (HQ.out _ (below_dr (Below.refl _ _))).mono ?_); rintro e w3 ⟨rfl, hb⟩))
      have B3 := Lib.hid (below_tr (below_dr hB.out) hb)
      clear hb c0 c1 c2 d0 d1 d2
      go_wp2_with fail
      go_roundw
      case rel => exact ⟨k + 1, by omega, by go_num, B3⟩
      case measure => simp [intOf]; omega
    · have hkz : ¬ (k : Int) < (n : Int) := by omega
      obtain rfl : k = n := by omega
      go_wp2_with fail
      go_ret
      exact ⟨rfl, hB.out⟩


end Go.Proofs.Ytiigfhigmdjooaa.rls
