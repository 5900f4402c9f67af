/- MixtureBox: the closure of the program. -/
import Derived.Test.YtggodllfaggjiacMxm
namespace Go.Proofs.Ytggodllfaggjiac.mxb
open Go.RowKit Go.Deep Go.Proofs.Ytggodllfaggjiac.base


set_option maxRecDepth 20000 in
set_option maxHeartbeats 4000000 in
theorem clo (p0 p1 p2 : Nat) (X Y : Nat) (ss : List Int) (a c : Nat) (u v : Value) (w : World) (h0 : w.cell? ⟨p0, 0, none⟩ = some u) (h1 : w.cell? ⟨p1, 0, none⟩ = some (.int .i64 (X : Int))) (h2 : w.cell? ⟨p2, 0, none⟩ = some v)
    (hu : IRows w u (plays.all (X + Y))) (hv : Ints w v ss) (hl : ss.length = 2 ^ (X + Y)) (hp : inR ss) (hX : X ≤ 3) (hY : Y ≤ 3) (ha : a < X) (hc : c < Y) :
    Calls Try.prog 100 #[.int .i64 (a : Int), .int .i64 (c : Int), .pointer (some ⟨p0, 0, none⟩), .pointer (some ⟨p1, 0, none⟩), .pointer (some ⟨p2, 0, none⟩)] w fun e w' =>
      e = .returned (.agg #[.int .i64 (N X Y ss (a * Y + c) 0), .int .i64 (N X Y ss (a * Y + c) 1), .int .i64 (N X Y ss (a * Y + c) 2), .int .i64 (N X Y ss (a * Y + c) 3)]) ∧ Below w.heap.size w w' := by
  rw [N_at _ _ _ _ _ _ hc, N_at _ _ _ _ _ _ hc, N_at _ _ _ _ _ _ hc, N_at _ _ _ _ _ _ hc]
  obtain ⟨d, hd⟩ : ∃ d, d = X + c := ⟨_, rfl⟩
  obtain ⟨n, hn⟩ : ∃ n, n = X + Y := ⟨_, rfl⟩
  have han : a < n := by omega
  have hdn : d < n := by omega
  have hn6 : n ≤ 6 := by omega
  have kd : IntKind.i64.wrap ((X : Int) + (c : Int)) = (d : Int) := by rw [IntWalk.i64_in _ (by omega)]; omega
  have HPL : Hid (∀ t, pl n X t a c = 2 * b n t a + b n t d) := Lib.hid (fun t => by unfold pl; rw [← hd])
  rw [← hn] at hu hl ⊢
  obtain ⟨m, hm⟩ : ∃ m, 2 ^ n = m := ⟨_, rfl⟩
  have hm64 : m ≤ 64 := by rw [← hm]; exact plays.two_pow hn6
  have hlen : (plays.all n).length = m := by rw [← hm]; exact plays.len_upto _ _
  rw [hm] at hl ⊢
  obtain ⟨va, b0, o0, vc, R, rfl, _, _, hA, hcell⟩ := hu.form
  rw [hlen] at hA h0
  have HROW : Hid (∀ t (ht : t < m), w.cell? ⟨b0, o0 + t, none⟩ = some (R t) ∧ Ints w (R t) (plays.at_ n t)) := Lib.hid (fun t ht => by
    obtain ⟨e1, e2⟩ := hcell t (by rw [hlen]; exact ht)
    refine ⟨e1, ?_⟩
    have : (plays.all n)[t]'(by rw [hlen]; exact ht) = plays.at_ n t := by simp [plays.all, plays.upto]
    rw [← this]; exact e2)
  have hmp : 0 < m := by rw [← hm]; exact Nat.two_pow_pos n
  obtain rfl := hA hmp
  obtain ⟨C, b3, o3, cap3, rfl, _, _, hC, hcs⟩ := hv.form
  obtain rfl := hC (by omega)
  have HSH : Hid (∀ t (ht : t < m), w.cell? ⟨b3, o3 + t, none⟩ = some (.int .i64 (ss.getD t 0)) ∧ 0 ≤ ss.getD t 0 ∧ ss.getD t 0 ≤ 1000) := Lib.hid (fun t ht => by
    rw [getD_at (by omega)]
    exact ⟨hcs t (by omega), hp t (by omega)⟩)
  have HBD : Hid (∀ t, t ≤ m → ∀ k, 0 ≤ S n X ss t a c k ∧ S n X ss t a c k ≤ 1000 * t) := Lib.hid (fun t ht k => S_bd hp a c k t (by omega))
  have HH1 := Lib.hid h1
  have HH2 := Lib.hid h2
  rw [hl] at HH2
  have B0 := Lib.hid (below_al (below_al (Below.refl w.heap.size w) (.cells #[.int .i64 0, .int .i64 0, .int .i64 0, .int .i64 0] 112)) (.cells #[.int .i64 0, .int .i64 0, .int .i64 0, .int .i64 0] 112))
  have R0 := Lib.hid ((Blk.new w 112 #[.int .i64 0, .int .i64 0, .int .i64 0, .int .i64 0]).alloc (.cells #[.int .i64 0, .int .i64 0, .int .i64 0, .int .i64 0] 112))
  have K0 : Hid (Blk ((w.alloc (.cells #[.int .i64 0, .int .i64 0, .int .i64 0, .int .i64 0] 112)).alloc (.cells #[.int .i64 0, .int .i64 0, .int .i64 0, .int .i64 0] 112)) (w.heap.size + 1) 112 #[.int .i64 (S n X ss 0 a c 0), .int .i64 (S n X ss 0 a c 1), .int .i64 (S n X ss 0 a c 2), .int .i64 (S n X ss 0 a c 3)]) := Lib.hid (by
    have := Blk.new (w.alloc (.cells #[.int .i64 0, .int .i64 0, .int .i64 0, .int .i64 0] 112)) 112 #[.int .i64 0, .int .i64 0, .int .i64 0, .int .i64 0]
    simpa [S] using this)
  have h0' := below_cell B0.out _ _ h0
  clear hcell hcs hA hC hv hu hp hlen hm hd hn h1 h2 h0 hl hmp
  go_enter Try.func100, Try.ntmps100
  go_wp2_with fail
  clear h0'
  go_loopw [9, 10, 13] (fun z9 z10 i wr => ∃ t : Nat, t ≤ m ∧ i = .int .i64 t ∧ (∃ z, z9 = z) ∧ (∃ z, z10 = z) ∧ Hid (Blk wr (w.heap.size + 1) 112 #[.int .i64 (S n X ss t a c 0), .int .i64 (S n X ss t a c 1), .int .i64 (S n X ss t a c 2), .int .i64 (S n X ss t a c 3)]) ∧ Hid (Blk wr w.heap.size 112 #[.int .i64 0, .int .i64 0, .int .i64 0, .int .i64 0]) ∧ Hid (Below w.heap.size w wr)) (fun _ _ i _ => m - (intOf i).toNat)
  case atStart => exact ⟨0, Nat.zero_le _, rfl, ⟨_, rfl⟩, ⟨_, rfl⟩, K0, R0, B0⟩
  case round =>
    obtain ⟨t, ht, rfl, ⟨z9, rfl⟩, ⟨z10, rfl⟩, hK, hR, hB⟩ := hrel
    clear K0 R0 B0
    obtain ⟨wi, rfl⟩ : ∃ wi : World, wi = wr := ⟨_, rfl⟩
    obtain ⟨c0, c1, c2, c3, c4⟩ := four_cells hK.out
    have rf := fun k => Joins.unfrozen_of_block hK.out k
    by_cases hlt : t < m
    · have hkz : (t : Int) < (m : Int) := by omega
      have HLT := Lib.hid hlt
      obtain ⟨e1, e2⟩ := HROW.out t hlt
      obtain ⟨C2, b2, o2, cap2, hR2, _, _, hA2, hc2⟩ := e2.form
      rw [plays.len_at] at hR2 hA2
      obtain rfl := hA2 (by omega)
      rw [hR2] at e1
      have f1 := below_cell hB.out _ _ e1
      have f2 : wi.cell? ⟨b2, o2 + a, none⟩ = some (.int .i64 ((b n t a : Nat) : Int)) := below_cell hB.out _ _ (by
        have := hc2 a (by rw [plays.len_at]; exact han)
        simpa [plays.at_, bit_b] using this)
      have f3 : wi.cell? ⟨b2, o2 + d, none⟩ = some (.int .i64 ((b n t d : Nat) : Int)) := below_cell hB.out _ _ (by
        have := hc2 d (by rw [plays.len_at]; exact hdn)
        simpa [plays.at_, bit_b] using this)
      obtain ⟨s1, s2, s3⟩ := HSH.out t hlt
      have f4 := below_cell hB.out _ _ s1
      have f5 := below_cell hB.out _ _ HH1.out
      have f6 := below_cell hB.out _ _ HH2.out
      have ian : (a : Int) < (n : Int) := by omega
      have idn : (d : Int) < (n : Int) := by omega
      have hpl := HPL.out t
      have hb2 := HBD.out t ht
      have HSU : Hid (∀ k, S n X ss (t + 1) a c k = S n X ss t a c k + if pl n X t a c = k then ss.getD t 0 else 0) := Lib.hid (fun k => S_succ n X ss t a c k)
      clear e1 e2 hc2 hR2 hA2 s1
      have two1 := b_two n t a
      have two2 := b_two n t d
      have bd0 := hb2 0
      have bd1 := hb2 1
      have bd2 := hb2 2
      have bd3 := hb2 3
      clear hb2
      generalize ss.getD t 0 = y at *
      rcases two1 with g1 | g1
      · rcases two2 with g2 | g2
        · have f2' : wi.cell? ⟨b2, o2 + a, none⟩ = some (.int .i64 0) := by rw [f2, g1]; rfl
          have f3' : wi.cell? ⟨b2, o2 + d, none⟩ = some (.int .i64 0) := by rw [f3, g2]; rfl
          have hk4 : pl n X t a c = 0 := by rw [hpl, g1, g2]
          have kw : IntKind.i64.wrap (S n X ss t a c 0 + y) = S n X ss t a c 0 + y := IntWalk.i64_in _ (by omega)
          have K2 : Hid (Blk (wi.setCell ⟨w.heap.size + 1, 0, none⟩ (.int .i64 (S n X ss t a c 0 + y))).drew (w.heap.size + 1) 112 #[.int .i64 (S n X ss (t + 1) a c 0), .int .i64 (S n X ss (t + 1) a c 1), .int .i64 (S n X ss (t + 1) a c 2), .int .i64 (S n X ss (t + 1) a c 3)]) := Lib.hid (by
            have hB2 : Blk (wi.setCell ⟨w.heap.size + 1, 0, none⟩ (.int .i64 (S n X ss t a c 0 + y))) (w.heap.size + 1) 112 #[.int .i64 (S n X ss (t + 1) a c 0), .int .i64 (S n X ss (t + 1) a c 1), .int .i64 (S n X ss (t + 1) a c 2), .int .i64 (S n X ss (t + 1) a c 3)] := by
              have := Joins.block_setCell (i := 0) hK.out (.int .i64 (S n X ss t a c 0 + y))
              rw [HSU.out 0, HSU.out 1, HSU.out 2, HSU.out 3, hk4]
              unfold Blk
              simpa using this
            exact hB2.below (below_dr (Below.refl _ _)))
          have hw := Wrote.drew (Wrote.setCell (S := fun p => p.block = w.heap.size + 1) (p := (⟨w.heap.size + 1, 0, none⟩ : Addr)) (Wrote.refl _ wi) rfl (.int .i64 (S n X ss t a c 0 + y)))
          have R2 := Lib.hid (hR.out.wrote hw (fun p hp => by rw [hp]; omega))
          have B2 := Lib.hid (below_dr (hB.out.setCell (p := (⟨w.heap.size + 1, 0, none⟩ : Addr)) (by show w.heap.size ≤ w.heap.size + 1; omega) (.int .i64 (S n X ss t a c 0 + y))))
          clear hw f2 f3 g1 g2 hpl hk4 HSU hK hR hB bd0 bd1 bd2 bd3
          go_wp2_with fail
          go_region
          clear f1 f2' f3' f4 f5 f6 kw c0 c1 c2 c3 c4
          go_wp2_with fail
          go_roundw
          case rel => exact ⟨t + 1, by have := HLT.out; omega, by go_num, ⟨_, rfl⟩, ⟨_, rfl⟩, K2, R2, B2⟩
          case measure => have := HLT.out; simp [intOf]; omega
        · have f2' : wi.cell? ⟨b2, o2 + a, none⟩ = some (.int .i64 0) := by rw [f2, g1]; rfl
          have f3' : wi.cell? ⟨b2, o2 + d, none⟩ = some (.int .i64 1) := by rw [f3, g2]; rfl
          have hk4 : pl n X t a c = 1 := by rw [hpl, g1, g2]
          have kw : IntKind.i64.wrap (S n X ss t a c 1 + y) = S n X ss t a c 1 + y := IntWalk.i64_in _ (by omega)
          have K2 : Hid (Blk (wi.setCell ⟨w.heap.size + 1, 1, none⟩ (.int .i64 (S n X ss t a c 1 + y))).drew (w.heap.size + 1) 112 #[.int .i64 (S n X ss (t + 1) a c 0), .int .i64 (S n X ss (t + 1) a c 1), .int .i64 (S n X ss (t + 1) a c 2), .int .i64 (S n X ss (t + 1) a c 3)]) := Lib.hid (by
            have hB2 : Blk (wi.setCell ⟨w.heap.size + 1, 1, none⟩ (.int .i64 (S n X ss t a c 1 + y))) (w.heap.size + 1) 112 #[.int .i64 (S n X ss (t + 1) a c 0), .int .i64 (S n X ss (t + 1) a c 1), .int .i64 (S n X ss (t + 1) a c 2), .int .i64 (S n X ss (t + 1) a c 3)] := by
              have := Joins.block_setCell (i := 1) hK.out (.int .i64 (S n X ss t a c 1 + y))
              rw [HSU.out 0, HSU.out 1, HSU.out 2, HSU.out 3, hk4]
              unfold Blk
              simpa using this
            exact hB2.below (below_dr (Below.refl _ _)))
          have hw := Wrote.drew (Wrote.setCell (S := fun p => p.block = w.heap.size + 1) (p := (⟨w.heap.size + 1, 1, none⟩ : Addr)) (Wrote.refl _ wi) rfl (.int .i64 (S n X ss t a c 1 + y)))
          have R2 := Lib.hid (hR.out.wrote hw (fun p hp => by rw [hp]; omega))
          have B2 := Lib.hid (below_dr (hB.out.setCell (p := (⟨w.heap.size + 1, 1, none⟩ : Addr)) (by show w.heap.size ≤ w.heap.size + 1; omega) (.int .i64 (S n X ss t a c 1 + y))))
          clear hw f2 f3 g1 g2 hpl hk4 HSU hK hR hB bd0 bd1 bd2 bd3
          go_wp2_with fail
          go_region
          clear f1 f2' f3' f4 f5 f6 kw c0 c1 c2 c3 c4
          go_wp2_with fail
          go_roundw
          case rel => exact ⟨t + 1, by have := HLT.out; omega, by go_num, ⟨_, rfl⟩, ⟨_, rfl⟩, K2, R2, B2⟩
          case measure => have := HLT.out; simp [intOf]; omega
      · rcases two2 with g2 | g2
        · have f2' : wi.cell? ⟨b2, o2 + a, none⟩ = some (.int .i64 1) := by rw [f2, g1]; rfl
          have f3' : wi.cell? ⟨b2, o2 + d, none⟩ = some (.int .i64 0) := by rw [f3, g2]; rfl
          have hk4 : pl n X t a c = 2 := by rw [hpl, g1, g2]
          have kw : IntKind.i64.wrap (S n X ss t a c 2 + y) = S n X ss t a c 2 + y := IntWalk.i64_in _ (by omega)
          have K2 : Hid (Blk (wi.setCell ⟨w.heap.size + 1, 2, none⟩ (.int .i64 (S n X ss t a c 2 + y))).drew (w.heap.size + 1) 112 #[.int .i64 (S n X ss (t + 1) a c 0), .int .i64 (S n X ss (t + 1) a c 1), .int .i64 (S n X ss (t + 1) a c 2), .int .i64 (S n X ss (t + 1) a c 3)]) := Lib.hid (by
            have hB2 : Blk (wi.setCell ⟨w.heap.size + 1, 2, none⟩ (.int .i64 (S n X ss t a c 2 + y))) (w.heap.size + 1) 112 #[.int .i64 (S n X ss (t + 1) a c 0), .int .i64 (S n X ss (t + 1) a c 1), .int .i64 (S n X ss (t + 1) a c 2), .int .i64 (S n X ss (t + 1) a c 3)] := by
              have := Joins.block_setCell (i := 2) hK.out (.int .i64 (S n X ss t a c 2 + y))
              rw [HSU.out 0, HSU.out 1, HSU.out 2, HSU.out 3, hk4]
              unfold Blk
              simpa using this
            exact hB2.below (below_dr (Below.refl _ _)))
          have hw := Wrote.drew (Wrote.setCell (S := fun p => p.block = w.heap.size + 1) (p := (⟨w.heap.size + 1, 2, none⟩ : Addr)) (Wrote.refl _ wi) rfl (.int .i64 (S n X ss t a c 2 + y)))
          have R2 := Lib.hid (hR.out.wrote hw (fun p hp => by rw [hp]; omega))
          have B2 := Lib.hid (below_dr (hB.out.setCell (p := (⟨w.heap.size + 1, 2, none⟩ : Addr)) (by show w.heap.size ≤ w.heap.size + 1; omega) (.int .i64 (S n X ss t a c 2 + y))))
          clear hw f2 f3 g1 g2 hpl hk4 HSU hK hR hB bd0 bd1 bd2 bd3
          go_wp2_with fail
          go_region
          clear f1 f2' f3' f4 f5 f6 kw c0 c1 c2 c3 c4
          go_wp2_with fail
          go_roundw
          case rel => exact ⟨t + 1, by have := HLT.out; omega, by go_num, ⟨_, rfl⟩, ⟨_, rfl⟩, K2, R2, B2⟩
          case measure => have := HLT.out; simp [intOf]; omega
        · have f2' : wi.cell? ⟨b2, o2 + a, none⟩ = some (.int .i64 1) := by rw [f2, g1]; rfl
          have f3' : wi.cell? ⟨b2, o2 + d, none⟩ = some (.int .i64 1) := by rw [f3, g2]; rfl
          have hk4 : pl n X t a c = 3 := by rw [hpl, g1, g2]
          have kw : IntKind.i64.wrap (S n X ss t a c 3 + y) = S n X ss t a c 3 + y := IntWalk.i64_in _ (by omega)
          have K2 : Hid (Blk (wi.setCell ⟨w.heap.size + 1, 3, none⟩ (.int .i64 (S n X ss t a c 3 + y))).drew (w.heap.size + 1) 112 #[.int .i64 (S n X ss (t + 1) a c 0), .int .i64 (S n X ss (t + 1) a c 1), .int .i64 (S n X ss (t + 1) a c 2), .int .i64 (S n X ss (t + 1) a c 3)]) := Lib.hid (by
            have hB2 : Blk (wi.setCell ⟨w.heap.size + 1, 3, none⟩ (.int .i64 (S n X ss t a c 3 + y))) (w.heap.size + 1) 112 #[.int .i64 (S n X ss (t + 1) a c 0), .int .i64 (S n X ss (t + 1) a c 1), .int .i64 (S n X ss (t + 1) a c 2), .int .i64 (S n X ss (t + 1) a c 3)] := by
              have := Joins.block_setCell (i := 3) hK.out (.int .i64 (S n X ss t a c 3 + y))
              rw [HSU.out 0, HSU.out 1, HSU.out 2, HSU.out 3, hk4]
              unfold Blk
              simpa using this
            exact hB2.below (below_dr (Below.refl _ _)))
          have hw := Wrote.drew (Wrote.setCell (S := fun p => p.block = w.heap.size + 1) (p := (⟨w.heap.size + 1, 3, none⟩ : Addr)) (Wrote.refl _ wi) rfl (.int .i64 (S n X ss t a c 3 + y)))
          have R2 := Lib.hid (hR.out.wrote hw (fun p hp => by rw [hp]; omega))
          have B2 := Lib.hid (below_dr (hB.out.setCell (p := (⟨w.heap.size + 1, 3, none⟩ : Addr)) (by show w.heap.size ≤ w.heap.size + 1; omega) (.int .i64 (S n X ss t a c 3 + y))))
          clear hw f2 f3 g1 g2 hpl hk4 HSU hK hR hB bd0 bd1 bd2 bd3
          go_wp2_with fail
          go_region
          clear f1 f2' f3' f4 f5 f6 kw c0 c1 c2 c3 c4
          go_wp2_with fail
          go_roundw
          case rel => exact ⟨t + 1, by have := HLT.out; omega, by go_num, ⟨_, rfl⟩, ⟨_, rfl⟩, K2, R2, B2⟩
          case measure => have := HLT.out; simp [intOf]; omega
    · have hkz : ¬ (t : Int) < (m : Int) := by omega
      obtain rfl : t = m := by omega
      obtain ⟨r0, r1, r2, r3, r4⟩ := four_cells hR.out
      have rg : ∀ k, wi.frozen? ⟨w.heap.size, k, none⟩ = false := fun k => Joins.unfrozen_of_block hR.out k
      have HB := Lib.hid hB.out
      clear hR hB hK
      go_wp2_with fail
      refine bodyPost_ret (v := .agg #[.int .i64 (S n X ss t a c 0), .int .i64 (S n X ss t a c 1), .int .i64 (S n X ss t a c 2), .int .i64 (S n X ss t a c 3)]) (by simp [results, Try.results100, go_sem, r0, r1, r2, r3]) rfl ⟨rfl, ?_⟩
      repeat (first | (with_reducible exact HB.out) | (with_reducible refine Below.setCell ?_ (by simp) _))


end Go.Proofs.Ytggodllfaggjiac.mxb
