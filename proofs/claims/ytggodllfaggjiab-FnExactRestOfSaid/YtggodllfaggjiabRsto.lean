/- RestOf: the mathematics, and the program. -/
import Derived.Test.YtggodllfaggjiabLes
import Derived.Test.YtggodllfaggjiabFrg
import Derived.Test.YtggodllfaggjiabEqr
import Derived.Test.YtggodllfaggjiabRstm
import Derived.Test.YtggodllfaggjiabFour
namespace Go.Proofs.Ytggodllfaggjiab.rsto
open Go.RowKit Go.Deep Go.Proofs.Ytggodllfaggjiab.base
open Go.Proofs.Ytggodllfaggjiab.rws (total)
open Go.Proofs.Ytggodllfaggjiab.val (okBox okSizes)
open Go.Proofs.Ytggodllfaggjiab.row (nn nn_bd)
open Go.Proofs.Ytggodllfaggjiab.two (qt)
open Go.Proofs.Ytggodllfaggjiab.four (arr rv cells16)
open Go.Proofs.Ytggodllfaggjiab.frf
open Go.Proofs.Ytggodllfaggjiab.part (pk ps share pk_lt ps_bd)

theorem nn4 {wh : Int} {xss : List (List Int)} (h : okBox 2 2 wh xss) {p : Nat} (hp : p < 16) : 0 ≤ nn xss (p / 4) (p % 4) ∧ nn xss (p / 4) (p % 4) ≤ 1000 :=
  nn_bd h (by have := h.2.2.1; omega) (by omega)
theorem w2 {wh : Int} {xss : List (List Int)} (h : okBox 2 2 wh xss) : ∀ p, p < 16 → IntKind.i64.wrap (flat (nn xss) p * 2) = flat (nn xss) p * 2 := fun p hp => by
  have := nn4 h hp
  exact IntWalk.i64_in _ (by unfold flat; omega)
theorem mulN {n s : Int} (h : n = 0 ∨ n = 1) (hs : 0 ≤ s ∧ s ≤ 4000) : 0 ≤ n * s ∧ n * s ≤ 4000 := by
  rcases h with rfl | rfl
  · rw [Int.zero_mul]; omega
  · rw [Int.one_mul]; exact hs
theorem wN {s : Int} (k : Nat) (hs : 0 ≤ s ∧ s ≤ 4000) : ∀ p, p < 16 → IntKind.i64.wrap (flat (eqs.N k) p * s) = flat (eqs.N k) p * s := fun p hp => by
  have h1 : 0 ≤ flat (eqs.N k) p * s ∧ flat (eqs.N k) p * s ≤ 4000 := mulN (N_bd _ _ _) hs
  generalize flat (eqs.N k) p * s = z at h1
  exact IntWalk.i64_in _ (by omega)
theorem wG {wh s : Int} {xss : List (List Int)} (h : okBox 2 2 wh xss) (k : Nat) (hs : 0 ≤ s ∧ s ≤ 4000) : ∀ p, p < 16 → IntKind.i64.wrap (flat (fun r c => nn xss r c * 2) p - flat (fun r c => eqs.N k r c * s) p) = flat (fun r c => nn xss r c * 2) p - flat (fun r c => eqs.N k r c * s) p := fun p hp => by
  have h0 := nn4 h hp
  have h1 : 0 ≤ flat (fun r c => eqs.N k r c * s) p ∧ flat (fun r c => eqs.N k r c * s) p ≤ 4000 := mulN (N_bd _ _ _) hs
  have h2 : flat (fun r c => nn xss r c * 2) p = nn xss (p / 4) (p % 4) * 2 := rfl
  rw [h2]
  generalize flat (fun r c => eqs.N k r c * s) p = z at h1
  generalize nn xss (p / 4) (p % 4) = u at h0
  exact IntWalk.i64_in _ (by omega)


set_option maxRecDepth 100000 in
set_option maxHeartbeats 8000000 in
theorem impl_any (x y wh : Int) (v : Value) (xss : List (List Int)) (w : World) (h : IRows w v xss) (hn : total xss ≤ 1048576) :
    Calls Try.prog 41 #[.agg #[.int .i64 x, .int .i64 y, .int .i64 wh, v]] w fun e w' => ∃ r, e = .returned (.tuple #[.agg #[.int .i64 (res x y wh xss).x, .int .i64 (res x y wh xss).y, .int .i64 (res x y wh xss).wh, r], .bool (res x y wh xss).ok]) ∧ OwnRows w' w.heap.size w'.heap.size r (res x y wh xss).rows ∧ Below w.heap.size w w' := by
  obtain ⟨va, vn, vc, rfl⟩ := h.shape
  have H := Lib.hid h
  have B0 := Lib.hid (below_al (below_al (Below.refl w.heap.size w) (.cells #[.int .i64 x, .int .i64 y, .int .i64 wh, .slice va vn vc] 54)) (.cells #[.int .i64 0, .int .i64 0, .int .i64 0, .slice none 0 0] 54))
  have K0 := Lib.hid ((Blk.new w 54 #[.int .i64 x, .int .i64 y, .int .i64 wh, .slice va vn vc]).alloc (.cells #[.int .i64 0, .int .i64 0, .int .i64 0, .slice none 0 0] 54))
  have R0 : Hid (Blk ((w.alloc (.cells #[.int .i64 x, .int .i64 y, .int .i64 wh, .slice va vn vc] 54)).alloc (.cells #[.int .i64 0, .int .i64 0, .int .i64 0, .slice none 0 0] 54)) (w.heap.size + 1) 54 #[.int .i64 0, .int .i64 0, .int .i64 0, .slice none 0 0]) := Lib.hid (by
    have := Blk.new (w.alloc (.cells #[.int .i64 x, .int .i64 y, .int .i64 wh, .slice va vn vc] 54)) 54 #[.int .i64 0, .int .i64 0, .int .i64 0, .slice none 0 0]
    simpa using this)
  have hp := part.impl_any x y wh _ xss _ (h.below B0.out) hn
  clear h
  by_cases ht : qt x y wh xss
  · rw [part.res_yes ht] at hp
    have HP := Lib.hid hp
    have HT := Lib.hid ht
    obtain ⟨⟨hok, rfl, rfl⟩, _⟩ := ht
    have HOK := Lib.hid hok
    have HL4 : Hid (xss.length = 4) := Lib.hid (by have := hok.2.2.1; omega)
    have hsb := share_bd hok
    have hwh := hok.2.1
    obtain ⟨s, hs⟩ : ∃ s, share (ps xss) wh = s := ⟨_, rfl⟩
    obtain ⟨k, hk⟩ : ∃ k, pk xss = k := ⟨_, rfl⟩
    have hk8 : k < 8 := by rw [← hk]; exact pk_lt xss
    have HGE : Hid ((fun r c => nn xss r c * 2 - eqs.N k r c * s) = G wh xss) := Lib.hid (by funext r c; unfold G; rw [hs, hk])
    have HWE : Hid (2 * wh - 2 * s = W wh xss) := Lib.hid (by unfold W; rw [hs])
    rw [hs] at hsb
    simp only [hs, hk] at HP
    have HK8 := Lib.hid hk8
    have HS := Lib.hid hsb
    have HLESS : Hid (∀ W', Calls Try.prog 100 #[rv (fun r c => nn xss r c * 2), rv (fun r c => eqs.N k r c * s)] W' fun e w' => e = .returned (rv (G wh xss)) ∧ Below W'.heap.size W' w') := Lib.hid (fun W' => by
      have h5 := les.less (fun r c => nn xss r c * 2) (fun r c => eqs.N k r c * s) W' (wG HOK.out k HS.out)
      rw [← HGE.out]
      exact h5)
    obtain ⟨hw1, hw2⟩ := hwh
    obtain ⟨hs1, hs2⟩ := hsb
    clear hp hok hs hk hk8 HGE
    have e1 : IntKind.i64.wrap (2 * wh) = 2 * wh := IntWalk.i64_in _ (by omega)
    go_enter Try.func41, Try.ntmps41
    go_wp2_with fail
    refine HP.out.mono ?_
    rintro e w1 ⟨rfl, hb⟩
    have B1 := Lib.hid (below_tr B0.out hb)
    have K1 := Lib.hid (K0.out.below hb)
    have R1 := Lib.hid (R0.out.below hb)
    obtain ⟨c0, c1, c2, c3, c4⟩ := four_cells K1.out
    clear hb HP B0 K0 R0
    go_wp2_with fail
    refine (frf.rowsof 2 2 wh _ xss _ (H.out.below B1.out) HOK.out HL4.out).mono ?_
    rintro e w2 ⟨rfl, hb2⟩
    clear c0 c1 c2 c3 c4
    go_wp2_with fail
    refine (frf.times (nn xss) 2 _ (rsto.w2 HOK.out)).mono ?_
    rintro e w3 ⟨rfl, hb3⟩
    go_wp2_with fail
    refine (eqr.rows k HK8.out _).mono ?_
    rintro e w4 ⟨rfl, hb4⟩
    go_wp2_with fail
    refine (frf.times (eqs.N k) s _ (wN k HS.out)).mono ?_
    rintro e w5 ⟨rfl, hb5⟩
    go_wp2_with fail
    refine (HLESS.out _).mono ?_
    rintro e w6 ⟨rfl, hb6⟩
    have b6 := below_tr hb2 (below_tr hb3 (below_tr hb4 (below_tr hb5 hb6)))
    have B6 := Lib.hid (below_tr B1.out b6)
    have K6 := Lib.hid (K1.out.below b6)
    have R6 := Lib.hid (R1.out.below b6)
    obtain ⟨c0, c1, c2, c3, c4⟩ := four_cells K6.out
    clear hb2 hb3 hb4 hb5 hb6 b6 B1 K1 R1 HLESS
    obtain ⟨g, hg⟩ : ∃ g, G wh xss = g := ⟨_, rfl⟩
    rw [hg]
    have HG := Lib.hid hg
    clear hg
    unfold rv arr
    go_wp2_with fail
    refine (four.boxof g (2 * wh - 2 * s) _).mono ?_
    rintro e w7 ⟨u, rfl, hu, hb⟩
    obtain ⟨ua, ul, uc, rfl⟩ := hu.rows.shape
    have HU := Lib.hid hu
    have bb := Lib.hid (below_tr (below_al (Below.refl w6.heap.size w6) (.cells (arr g) 118)) hb)
    have B7 := Lib.hid (below_tr B6.out bb.out)
    have R7 := Lib.hid (R6.out.below bb.out)
    have Z6 := Lib.hid (show w.heap.size + 1 < w6.heap.size from R6.out.lt)
    clear hu hb bb c0 c1 c2 c3 c4 B6 K6 R6
    by_cases hk : okBox 2 2 (2 * wh - 2 * s) (make.rowsOf g 4)
    · have HVY := Lib.hid (make.valid_yes 2 2 (2 * wh - 2 * s) _ (make.rowsOf g 4) w7 HU.out.rows (make.total_rowsOf _ _ (by omega)) hk)
      have HE := Lib.hid (res_yes HT.out (by rw [← HWE.out]; unfold M; rw [HG.out]; exact hk))
      clear hk
      go_wp2_with fail
      refine HVY.out.mono ?_
      rintro e w8 ⟨rfl, hb⟩
      have U8 := Lib.hid (HU.out.keep hb)
      have B8 := Lib.hid (below_tr B7.out hb)
      have R8 := Lib.hid (R7.out.below hb)
      obtain ⟨r0, r1, r2, r3, r4⟩ := four_cells R8.out
      have rf : ∀ k, w8.frozen? ⟨w.heap.size + 1, k, none⟩ = false := fun k => Joins.unfrozen_of_block R8.out k
      have Z8 := Lib.hid hb.size
      clear hb HVY HU B7 R7
      go_wp2_with fail
      refine bodyPost_ret (v := .tuple #[.agg #[.int .i64 2, .int .i64 2, .int .i64 (2 * wh - 2 * s), .slice ua ul uc], .bool true]) (by simp [results, Try.results41, go_sem, r0, r1, r2, r3]) rfl ?_
      rw [HE.out]
      refine ⟨_, by rw [← HWE.out], ?_, ?_⟩
      · show OwnRows _ _ _ _ (M wh xss)
        unfold M
        rw [HG.out]
        refine (U8.out.wrote (S := fun p => p.block < w.heap.size + 1 + 1) ?_ (fun p hp => .inl (by have hp' : p.block < w.heap.size + 1 + 1 := hp; have := Z6.out; simp; omega))).mono (by have := Z6.out; simp; omega) (by have := Z8.out; simp [World.setCell]; try omega)
        repeat (first | (with_reducible exact Wrote.refl _ _) | (with_reducible refine Wrote.setCell ?_ (by simp) _))
      · repeat (first | (with_reducible exact B8.out) | (with_reducible refine Below.setCell ?_ (by simp) _))
    · have HVN := Lib.hid (make.valid_no 2 2 (2 * wh - 2 * s) _ (make.rowsOf g 4) w7 HU.out.rows (make.total_rowsOf _ _ (by omega)) hk)
      have HE := Lib.hid (res_no HT.out (by rw [← HWE.out]; unfold M; rw [HG.out]; exact hk))
      clear hk
      go_wp2_with fail
      refine HVN.out.mono ?_
      rintro e w8 ⟨rfl, hb⟩
      have B8 := Lib.hid (below_tr B7.out hb)
      have R8 := Lib.hid (R7.out.below hb)
      obtain ⟨r0, r1, r2, r3, r4⟩ := four_cells R8.out
      have rf : ∀ k, w8.frozen? ⟨w.heap.size + 1, k, none⟩ = false := fun k => Joins.unfrozen_of_block R8.out k
      clear hb HVN HU B7 R7
      go_wp2_with fail
      refine bodyPost_ret (v := .tuple #[.agg #[.int .i64 0, .int .i64 0, .int .i64 0, .slice none 0 0], .bool false]) (by simp [results, Try.results41, go_sem, r0, r1, r2, r3]) rfl ?_
      rw [HE.out]
      refine ⟨_, rfl, OwnRows.nil _ _ _, ?_⟩
      repeat (first | (with_reducible exact B8.out) | (with_reducible refine Below.setCell ?_ (by simp) _))
  · rw [part.res_no ht] at hp
    rw [res_out ht]
    have HP := Lib.hid hp
    clear hp ht
    have zx : make.Res.zero.x = 0 := rfl
    have zy : make.Res.zero.y = 0 := rfl
    have zw : make.Res.zero.wh = 0 := rfl
    have zo : make.Res.zero.ok = false := rfl
    go_enter Try.func41, Try.ntmps41
    go_wp2_with fail
    refine HP.out.mono ?_
    rintro e w1 ⟨rfl, hb⟩
    have B1 := Lib.hid (below_tr B0.out hb)
    have R1 := Lib.hid (R0.out.below hb)
    obtain ⟨r0, r1, r2, r3, r4⟩ := four_cells R1.out
    have rf := fun k => Joins.unfrozen_of_block R1.out k
    clear hb HP B0 K0 R0
    go_wp2_with fail
    refine bodyPost_ret (v := .tuple #[.agg #[.int .i64 0, .int .i64 0, .int .i64 0, .slice none 0 0], .bool false]) (by simp [results, Try.results41, go_sem, r0, r1, r2, r3]) rfl ⟨_, rfl, OwnRows.nil _ _ _, ?_⟩
    repeat (first | (with_reducible exact B1.out) | (with_reducible refine Below.setCell ?_ (by simp) _))

end Go.Proofs.Ytggodllfaggjiab.rsto
